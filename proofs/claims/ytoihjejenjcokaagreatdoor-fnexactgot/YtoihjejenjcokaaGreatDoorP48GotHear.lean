import Derived.Test.YtoihjejenjcokaaGreatDoorP00Box
import Derived.Test.YtoihjejenjcokaaGreatDoorP43SpecGetI
import Derived.Test.YtoihjejenjcokaaGreatDoorP45GotAsk
import Derived.Test.YtoihjejenjcokaaGreatDoorP47GotGrant
namespace Go.Proofs.YtoihjejenjcokaaGreatDoor
set_option maxHeartbeats 8000000
set_option maxRecDepth 20000
open Go.ChangeShapes Go.WideShapes Go.ChangeAt Go.RowKit
set_option linter.unusedVariables false
theorem ack_eq {x : zAE} {id : Int} {m : zB5} (hm : zBm m = 12) : zBO (toS x) id m = (toS (ackX x (zAt m)), [], ackK x (zAt m)) := by
 unfold ackX ackK
 by_cases h : x.2.2.2.1 = 1 ∧ x.2.2.2.2.1.1 = zAt m
 ·rw [if_pos h, if_pos h, zHc hm h.1 h.2]
 ·rw [if_neg h, if_neg h, zEE hm]
  by_cases h1 : x.2.2.2.1 = 1
  ·exact .inr fun q => h ⟨h1, q⟩
  ·exact .inl h1
theorem msg_way {w : World} {m : zB5} {ma : Option Addr} {mc : Nat} (h : zBy.rd w [.int .i64 m.1, .int .i64 m.2.1, .int .i64 m.2.2.1, .int .i64 m.2.2.2.1, .int .i64 m.2.2.2.2.1, .slice ma m.2.2.2.2.2.1.length mc, .int .i64 m.2.2.2.2.2.2] m) : zAS.rd w [.int .i64 m.2.2.2.2.1, .int .i64 m.2.2.2.2.2.2, .slice ma m.2.2.2.2.2.1.length mc] (m.2.2.2.2.1, m.2.2.2.2.2.2, m.2.2.2.2.2.1) := by
 obtain ⟨a, cap, e, i0, i1, i2, i3, i4, i6, k1, k2, k3⟩ := zBB h
 simp only [List.cons.injEq, Value.slice.injEq, true_and, and_true] at e
 obtain ⟨rfl, rfl⟩ := e
 exact ⟨[_], [_, _], rfl, ⟨rfl, i4⟩, [_], [_], rfl, ⟨rfl, i6⟩, _, _, rfl, k1, k2, k3⟩
theorem ta_6_6 (l f d : Value) (W : World) : (Instr.typeAssert (.iface 102 (.agg #[l])) 20 102 true).run Tryz.prog W = .ok (.tuple #[.agg #[l], .bool true]) W := by kernel_rfl
theorem ta_7_6 (l f d : Value) (W : World) : (Instr.typeAssert (.iface 104 (.agg #[l])) 20 102 true).run Tryz.prog W = .ok (.tuple #[.agg #[.int .i64 0], .bool false]) W := by kernel_rfl
theorem ta_7_7 (l f d : Value) (W : World) : (Instr.typeAssert (.iface 104 (.agg #[l])) 20 104 true).run Tryz.prog W = .ok (.tuple #[.agg #[l], .bool true]) W := by kernel_rfl
theorem ta_12_6 (l f d : Value) (W : World) : (Instr.typeAssert (.iface 105 (.agg #[l])) 20 102 true).run Tryz.prog W = .ok (.tuple #[.agg #[.int .i64 0], .bool false]) W := by kernel_rfl
theorem ta_12_7 (l f d : Value) (W : World) : (Instr.typeAssert (.iface 105 (.agg #[l])) 20 104 true).run Tryz.prog W = .ok (.tuple #[.agg #[.int .i64 0], .bool false]) W := by kernel_rfl
theorem ta_12_12 (l f d : Value) (W : World) : (Instr.typeAssert (.iface 105 (.agg #[l])) 20 105 true).run Tryz.prog W = .ok (.tuple #[.agg #[l], .bool true]) W := by kernel_rfl
theorem ta_11_6 (l f d : Value) (W : World) : (Instr.typeAssert (.iface 108 (.agg #[l, f, d])) 20 102 true).run Tryz.prog W = .ok (.tuple #[.agg #[.int .i64 0], .bool false]) W := by kernel_rfl
theorem ta_11_7 (l f d : Value) (W : World) : (Instr.typeAssert (.iface 108 (.agg #[l, f, d])) 20 104 true).run Tryz.prog W = .ok (.tuple #[.agg #[.int .i64 0], .bool false]) W := by kernel_rfl
theorem ta_11_12 (l f d : Value) (W : World) : (Instr.typeAssert (.iface 108 (.agg #[l, f, d])) 20 105 true).run Tryz.prog W = .ok (.tuple #[.agg #[.int .i64 0], .bool false]) W := by kernel_rfl
theorem ta_11_11 (l f d : Value) (W : World) : (Instr.typeAssert (.iface 108 (.agg #[l, f, d])) 20 108 true).run Tryz.prog W = .ok (.tuple #[.agg #[l, f, d], .bool true]) W := by kernel_rfl
theorem ta_0_6 (l f d : Value) (W : World) : (Instr.typeAssert .nilIface 20 102 true).run Tryz.prog W = .ok (.tuple #[.agg #[.int .i64 0], .bool false]) W := by kernel_rfl
theorem ta_0_7 (l f d : Value) (W : World) : (Instr.typeAssert .nilIface 20 104 true).run Tryz.prog W = .ok (.tuple #[.agg #[.int .i64 0], .bool false]) W := by kernel_rfl
theorem ta_0_12 (l f d : Value) (W : World) : (Instr.typeAssert .nilIface 20 105 true).run Tryz.prog W = .ok (.tuple #[.agg #[.int .i64 0], .bool false]) W := by kernel_rfl
theorem ta_0_11 (l f d : Value) (W : World) : (Instr.typeAssert .nilIface 20 108 true).run Tryz.prog W = .ok (.tuple #[.agg #[.int .i64 0, .int .i64 0, .slice none 0 0], .bool false]) W := by kernel_rfl
theorem zMq (S : zAX) (cs : List Value) (x : zAE) (id : Int) (m : zB5) (w : World) (hh : Hold w) (ho : zAn.own w S cs x) (hS : ∀ k, S k → k < w.heap.size) (hk : zAZ x = true) (hid : zBk id) (hbk : zAQ (zAt m) 0 15 = true) (h0 : ¬ S 0) (hm : zBm m = 6) :
    Calls Tryz.prog 35 #[zAM cs, .int .i64 id, .iface 102 (.agg #[.int .i64 m.2.2.2.2.1])] w fun e' w' => zEI S w (ofS (zBO (toS x) id m).1) (zBO (toS x) id m).2.1 (zBO (toS x) id m).2.2 e' w' := by
 obtain ⟨n0, hn0⟩ : ∃ n0, n0 = ofS (zBO (toS x) id m).1 := ⟨_, rfl⟩
 obtain ⟨m0, hm0⟩ : ∃ m0, m0 = (zBO (toS x) id m).2.1 := ⟨_, rfl⟩
 obtain ⟨k0, hk0⟩ : ∃ k0, k0 = (zBO (toS x) id m).2.2 := ⟨_, rfl⟩
 rw [← hn0, ← hm0, ← hk0]
 obtain ⟨v0, v1, v2, v5, v6, v7, v8, S0, S1, S4, S5, rfl, i2, i3, o0, o1, o4, o5, sb0, sb1, sb4, sb5, d01, d04, d05, d14, d15, d45⟩ := zBd ho
 have r0 := zAB.own_rd o0
 obtain ⟨a0, c0, b0, d0, e0, -⟩ := zAH r0
 simp only [List.cons.injEq, and_true] at e0
 obtain ⟨rfl, rfl⟩ := e0
 obtain ⟨a1, c1, e1, -⟩ := zBX.own_rd o1
 simp only [List.cons.injEq, and_true] at e1
 obtain rfl := e1
 obtain ⟨a4, c4, e4, ih1, ih2, -, -, -⟩ := zAL (zAS.own_rd o4)
 simp only [List.cons.injEq, and_true] at e4
 obtain ⟨rfl, rfl, rfl⟩ := e4
 obtain ⟨a5, c5, e5, -⟩ := zA5.own_rd o5
 simp only [List.cons.injEq, and_true] at e5
 obtain rfl := e5
 have HO : Hid (∀ W, Below w.heap.size w W → zAn.own W S [.slice a0 x.1.1.length c0, .slice b0 x.1.2.length d0, .slice a1 x.2.1.length c1, .int .i64 x.2.2.1, .int .i64 x.2.2.2.1, .int .i64 x.2.2.2.2.1.1, .int .i64 x.2.2.2.2.1.2.1, .slice a4 x.2.2.2.2.1.2.2.length c4, .slice a5 x.2.2.2.2.2.length c5] x) := fun W hb => zAn.own_keep ho (zAh hb)
 have HC : Hid (∀ W, Below w.heap.size w W → Calls Tryz.prog 73 #[.agg #[.slice a0 x.1.1.length c0, .slice b0 x.1.2.length d0, .slice a1 x.2.1.length c1, .int .i64 x.2.2.1, .int .i64 x.2.2.2.1, .int .i64 x.2.2.2.2.1.1, .int .i64 x.2.2.2.2.1.2.1, .slice a4 x.2.2.2.2.1.2.2.length c4, .slice a5 x.2.2.2.2.2.length c5], .int .i64 id, .int .i64 m.2.2.2.2.1, .int .i64 3] W fun e' w' => zEI S W n0 m0 k0 e' w') := fun W hb => by
  rw [hn0, hm0, hk0, ask_eq hk hbk (.inl hm)]
  have e9 : zBm m - 3 = 3 := by have : zBm m = 6 := hm; omega
  rw [e9]
  exact zHf S [.slice a0 x.1.1.length c0, .slice b0 x.1.2.length d0, .slice a1 x.2.1.length c1, .int .i64 x.2.2.1, .int .i64 x.2.2.2.1, .int .i64 x.2.2.2.2.1.1, .int .i64 x.2.2.2.2.1.2.1, .slice a4 x.2.2.2.2.1.2.2.length c4, .slice a5 x.2.2.2.2.2.length c5] x id m.2.2.2.2.1 3 W (hh.goes hb) (zAn.own_keep ho (zAh hb)) (fun j z => Nat.lt_of_lt_of_le (hS j z) hb.size) hk hid hbk (by decide) h0
 have HSS : Hid (∀ k, S k → k < w.heap.size) := hS
 clear hn0 hm0 hk0 ho hS r0 o0 o1 o4 o5 sb0 sb1 sb4 sb5 d01 d04 d05 d14 d15 d45 i2 i3 ih1 ih2 hk hh hm
 obtain ⟨c, p, at_, ph, h, t⟩ := x
 simp only at *
 rw [show zAM [.slice a0 c.1.length c0, .slice b0 c.2.length d0, .slice a1 p.length c1, .int .i64 at_, .int .i64 ph, .int .i64 h.1, .int .i64 h.2.1, .slice a4 h.2.2.length c4, .slice a5 t.length c5] = .agg #[.slice a0 c.1.length c0, .slice b0 c.2.length d0, .slice a1 p.length c1, .int .i64 at_, .int .i64 ph, .int .i64 h.1, .int .i64 h.2.1, .slice a4 h.2.2.length c4, .slice a5 t.length c5] from rfl]
 have q6 := ta_6_6 (.int .i64 m.2.2.2.2.1) (.int .i64 0) (.int .i64 0)
 have B := Below.refl w.heap.size w
 go_enter Tryz.func35, Tryz.ntmps35
 go_upto_region 1 with fail
 generalize hu1w : w.alloc _ = u1w
 have X := boxH hu1w
 have bz := boxB hu1w
 have zX := boxL hu1w
 clear hu1w
 replace B := zAb B bz
 clear bz
 have zXa := Nat.le_of_eq zX
 have zXb := Nat.le_of_eq zX.symm
 clear zX
 generalize hu2w : u1w.alloc _ = u2w
 have R := boxH hu2w
 have bz := boxB hu2w
 have zR := boxL hu2w
 clear hu2w
 rw [show u1w.heap.size = w.heap.size + 1 from by omega] at R
 replace B := zAb B bz
 replace X := zAa bz X
 clear bz
 have zRa := Nat.le_of_eq zR
 have zRb := Nat.le_of_eq zR.symm
 clear zR
 obtain ⟨Xc0, Xc1, Xc2, Xc3, Xc4, Xc5, Xc6, Xc7, Xc8⟩ := zAc X
 have Xlt := (Array.getElem?_eq_some_iff.1 X).1
 obtain ⟨Rc0, Rc1, Rc2, Rc3, Rc4, Rc5, Rc6, Rc7, Rc8⟩ := zAc R
 have Rlt := (Array.getElem?_eq_some_iff.1 R).1
 go_wp2_with fail
 clear Xc0 Xc1 Xc2 Xc3 Xc4 Xc5 Xc6 Xc7 Xc8 Xlt Rc0 Rc1 Rc2 Rc3 Rc4 Rc5 Rc6 Rc7 Rc8 Rlt
 generalize hu3w : u2w.alloc _ = u3w
 have L := boxH hu3w
 have bz := boxB hu3w
 have zL := boxL hu3w
 clear hu3w
 replace B := zAb B bz
 replace X := zAa bz X
 replace R := zAa bz R
 clear bz
 have zLa := Nat.le_of_eq zL
 have zLb := Nat.le_of_eq zL.symm
 clear zL
 clear q6
 refine (HC.out _ B).mono ?_
 rintro e wd hq
 obtain ⟨d0, d1, d2, d3, d4, d5, d6, d7, d8, d9, sa, sc, rfl, DO, DC⟩ := zCa hq
 clear hq
 have szd := DC.size
 have bsz := B.size
 have R2 := (DC.block _ (Array.getElem?_eq_some_iff.1 R).1 (fun q => by have := HSS.out _ q; omega)).trans R
 obtain ⟨z0, z1, z2, z3, z4, z5, z6, z7, z8⟩ := zAc R2
 obtain ⟨zf0, zf1, zf2, zf3, zf4, zf5, zf6, zf7, zf8⟩ := zAr R2
 have zlt := (Array.getElem?_eq_some_iff.1 R2).1
 have rlt := (Array.getElem?_eq_some_iff.1 R).1
 have HZ : Hid _ := And.intro DO (And.intro DC (And.intro R2 B))
 clear DO DC R2 B X R L
 go_wp2
 obtain ⟨DO, DC, R2, B⟩ := HZ.out
 obtain ⟨r0, r1, r2, r3, r4, r5, r6, r7, r8⟩ := zAc (zAV (y0 := .slice d0 n0.1.1.length d1) (y1 := .slice d2 n0.1.2.length d3) (y2 := .slice d4 n0.2.1.length d5) (y3 := .int .i64 n0.2.2.1) (y4 := .int .i64 n0.2.2.2.1) (y5 := .int .i64 n0.2.2.2.2.1.1) (y6 := .int .i64 n0.2.2.2.2.1.2.1) (y7 := .slice d6 n0.2.2.2.2.1.2.2.length d7) (y8 := .slice d8 n0.2.2.2.2.2.length d9) R2)
 have FQ := zCg (vs := [.slice d0 n0.1.1.length d1, .slice d2 n0.1.2.length d3, .slice d4 n0.2.1.length d5, .int .i64 n0.2.2.1, .int .i64 n0.2.2.2.1, .int .i64 n0.2.2.2.2.1.1, .int .i64 n0.2.2.2.2.1.2.1, .slice d6 n0.2.2.2.2.1.2.2.length d7, .slice d8 n0.2.2.2.2.2.length d9]) (k := k0) (r := w.heap.size + 1) (zA9 (S := S) B) (fun j q => .inl q) rfl DO (fun j q => by have := HSS.out _ q; omega) DC (by omega) rlt (fun q => by have := HSS.out _ q; omega)
 simp only [zA0, zA3, Nat.reduceAdd] at FQ
 clear DO DC R2 B HZ
 exact bodyPost_ret (v := .tuple #[.agg #[.slice d0 n0.1.1.length d1, .slice d2 n0.1.2.length d3, .slice d4 n0.2.1.length d5, .int .i64 n0.2.2.1, .int .i64 n0.2.2.2.1, .int .i64 n0.2.2.2.2.1.1, .int .i64 n0.2.2.2.2.1.2.1, .slice d6 n0.2.2.2.2.1.2.2.length d7, .slice d8 n0.2.2.2.2.2.length d9], .slice sa m0.length sc, .int .i64 k0]) (by simp [results, Tryz.results35, go_sem, r0, r1, r2, r3, r4, r5, r6, r7, r8]) rfl FQ
theorem zMr (S : zAX) (cs : List Value) (x : zAE) (id : Int) (m : zB5) (w : World) (hh : Hold w) (ho : zAn.own w S cs x) (hS : ∀ k, S k → k < w.heap.size) (hk : zAZ x = true) (hid : zBk id) (hbk : zAQ (zAt m) 0 15 = true) (h0 : ¬ S 0) (hm : zBm m = 7) :
    Calls Tryz.prog 35 #[zAM cs, .int .i64 id, .iface 104 (.agg #[.int .i64 m.2.2.2.2.1])] w fun e' w' => zEI S w (ofS (zBO (toS x) id m).1) (zBO (toS x) id m).2.1 (zBO (toS x) id m).2.2 e' w' := by
 obtain ⟨n0, hn0⟩ : ∃ n0, n0 = ofS (zBO (toS x) id m).1 := ⟨_, rfl⟩
 obtain ⟨m0, hm0⟩ : ∃ m0, m0 = (zBO (toS x) id m).2.1 := ⟨_, rfl⟩
 obtain ⟨k0, hk0⟩ : ∃ k0, k0 = (zBO (toS x) id m).2.2 := ⟨_, rfl⟩
 rw [← hn0, ← hm0, ← hk0]
 obtain ⟨v0, v1, v2, v5, v6, v7, v8, S0, S1, S4, S5, rfl, i2, i3, o0, o1, o4, o5, sb0, sb1, sb4, sb5, d01, d04, d05, d14, d15, d45⟩ := zBd ho
 have r0 := zAB.own_rd o0
 obtain ⟨a0, c0, b0, d0, e0, -⟩ := zAH r0
 simp only [List.cons.injEq, and_true] at e0
 obtain ⟨rfl, rfl⟩ := e0
 obtain ⟨a1, c1, e1, -⟩ := zBX.own_rd o1
 simp only [List.cons.injEq, and_true] at e1
 obtain rfl := e1
 obtain ⟨a4, c4, e4, ih1, ih2, -, -, -⟩ := zAL (zAS.own_rd o4)
 simp only [List.cons.injEq, and_true] at e4
 obtain ⟨rfl, rfl, rfl⟩ := e4
 obtain ⟨a5, c5, e5, -⟩ := zA5.own_rd o5
 simp only [List.cons.injEq, and_true] at e5
 obtain rfl := e5
 have HO : Hid (∀ W, Below w.heap.size w W → zAn.own W S [.slice a0 x.1.1.length c0, .slice b0 x.1.2.length d0, .slice a1 x.2.1.length c1, .int .i64 x.2.2.1, .int .i64 x.2.2.2.1, .int .i64 x.2.2.2.2.1.1, .int .i64 x.2.2.2.2.1.2.1, .slice a4 x.2.2.2.2.1.2.2.length c4, .slice a5 x.2.2.2.2.2.length c5] x) := fun W hb => zAn.own_keep ho (zAh hb)
 have HC : Hid (∀ W, Below w.heap.size w W → Calls Tryz.prog 73 #[.agg #[.slice a0 x.1.1.length c0, .slice b0 x.1.2.length d0, .slice a1 x.2.1.length c1, .int .i64 x.2.2.1, .int .i64 x.2.2.2.1, .int .i64 x.2.2.2.2.1.1, .int .i64 x.2.2.2.2.1.2.1, .slice a4 x.2.2.2.2.1.2.2.length c4, .slice a5 x.2.2.2.2.2.length c5], .int .i64 id, .int .i64 m.2.2.2.2.1, .int .i64 4] W fun e' w' => zEI S W n0 m0 k0 e' w') := fun W hb => by
  rw [hn0, hm0, hk0, ask_eq hk hbk (.inr hm)]
  have e9 : zBm m - 3 = 4 := by have : zBm m = 7 := hm; omega
  rw [e9]
  exact zHf S [.slice a0 x.1.1.length c0, .slice b0 x.1.2.length d0, .slice a1 x.2.1.length c1, .int .i64 x.2.2.1, .int .i64 x.2.2.2.1, .int .i64 x.2.2.2.2.1.1, .int .i64 x.2.2.2.2.1.2.1, .slice a4 x.2.2.2.2.1.2.2.length c4, .slice a5 x.2.2.2.2.2.length c5] x id m.2.2.2.2.1 4 W (hh.goes hb) (zAn.own_keep ho (zAh hb)) (fun j z => Nat.lt_of_lt_of_le (hS j z) hb.size) hk hid hbk (by decide) h0
 have HSS : Hid (∀ k, S k → k < w.heap.size) := hS
 clear hn0 hm0 hk0 ho hS r0 o0 o1 o4 o5 sb0 sb1 sb4 sb5 d01 d04 d05 d14 d15 d45 i2 i3 ih1 ih2 hk hh hm
 obtain ⟨c, p, at_, ph, h, t⟩ := x
 simp only at *
 rw [show zAM [.slice a0 c.1.length c0, .slice b0 c.2.length d0, .slice a1 p.length c1, .int .i64 at_, .int .i64 ph, .int .i64 h.1, .int .i64 h.2.1, .slice a4 h.2.2.length c4, .slice a5 t.length c5] = .agg #[.slice a0 c.1.length c0, .slice b0 c.2.length d0, .slice a1 p.length c1, .int .i64 at_, .int .i64 ph, .int .i64 h.1, .int .i64 h.2.1, .slice a4 h.2.2.length c4, .slice a5 t.length c5] from rfl]
 have q6 := ta_7_6 (.int .i64 m.2.2.2.2.1) (.int .i64 0) (.int .i64 0)
 have q7 := ta_7_7 (.int .i64 m.2.2.2.2.1) (.int .i64 0) (.int .i64 0)
 have B := Below.refl w.heap.size w
 go_enter Tryz.func35, Tryz.ntmps35
 go_upto_region 1 with fail
 generalize hu1w : w.alloc _ = u1w
 have X := boxH hu1w
 have bz := boxB hu1w
 have zX := boxL hu1w
 clear hu1w
 replace B := zAb B bz
 clear bz
 have zXa := Nat.le_of_eq zX
 have zXb := Nat.le_of_eq zX.symm
 clear zX
 generalize hu2w : u1w.alloc _ = u2w
 have R := boxH hu2w
 have bz := boxB hu2w
 have zR := boxL hu2w
 clear hu2w
 rw [show u1w.heap.size = w.heap.size + 1 from by omega] at R
 replace B := zAb B bz
 replace X := zAa bz X
 clear bz
 have zRa := Nat.le_of_eq zR
 have zRb := Nat.le_of_eq zR.symm
 clear zR
 obtain ⟨Xc0, Xc1, Xc2, Xc3, Xc4, Xc5, Xc6, Xc7, Xc8⟩ := zAc X
 have Xlt := (Array.getElem?_eq_some_iff.1 X).1
 obtain ⟨Rc0, Rc1, Rc2, Rc3, Rc4, Rc5, Rc6, Rc7, Rc8⟩ := zAc R
 have Rlt := (Array.getElem?_eq_some_iff.1 R).1
 go_wp2_with fail
 clear Xc0 Xc1 Xc2 Xc3 Xc4 Xc5 Xc6 Xc7 Xc8 Xlt Rc0 Rc1 Rc2 Rc3 Rc4 Rc5 Rc6 Rc7 Rc8 Rlt
 generalize hu3w : u2w.alloc _ = u3w
 have L := boxH hu3w
 have bz := boxB hu3w
 have zL := boxL hu3w
 clear hu3w
 replace B := zAb B bz
 replace X := zAa bz X
 replace R := zAa bz R
 clear bz
 have zLa := Nat.le_of_eq zL
 have zLb := Nat.le_of_eq zL.symm
 clear zL
 clear q6 q7
 refine (HC.out _ B).mono ?_
 rintro e wd hq
 obtain ⟨d0, d1, d2, d3, d4, d5, d6, d7, d8, d9, sa, sc, rfl, DO, DC⟩ := zCa hq
 clear hq
 have szd := DC.size
 have bsz := B.size
 have R2 := (DC.block _ (Array.getElem?_eq_some_iff.1 R).1 (fun q => by have := HSS.out _ q; omega)).trans R
 obtain ⟨z0, z1, z2, z3, z4, z5, z6, z7, z8⟩ := zAc R2
 obtain ⟨zf0, zf1, zf2, zf3, zf4, zf5, zf6, zf7, zf8⟩ := zAr R2
 have zlt := (Array.getElem?_eq_some_iff.1 R2).1
 have rlt := (Array.getElem?_eq_some_iff.1 R).1
 have HZ : Hid _ := And.intro DO (And.intro DC (And.intro R2 B))
 clear DO DC R2 B X R L
 go_wp2
 obtain ⟨DO, DC, R2, B⟩ := HZ.out
 obtain ⟨r0, r1, r2, r3, r4, r5, r6, r7, r8⟩ := zAc (zAV (y0 := .slice d0 n0.1.1.length d1) (y1 := .slice d2 n0.1.2.length d3) (y2 := .slice d4 n0.2.1.length d5) (y3 := .int .i64 n0.2.2.1) (y4 := .int .i64 n0.2.2.2.1) (y5 := .int .i64 n0.2.2.2.2.1.1) (y6 := .int .i64 n0.2.2.2.2.1.2.1) (y7 := .slice d6 n0.2.2.2.2.1.2.2.length d7) (y8 := .slice d8 n0.2.2.2.2.2.length d9) R2)
 have FQ := zCg (vs := [.slice d0 n0.1.1.length d1, .slice d2 n0.1.2.length d3, .slice d4 n0.2.1.length d5, .int .i64 n0.2.2.1, .int .i64 n0.2.2.2.1, .int .i64 n0.2.2.2.2.1.1, .int .i64 n0.2.2.2.2.1.2.1, .slice d6 n0.2.2.2.2.1.2.2.length d7, .slice d8 n0.2.2.2.2.2.length d9]) (k := k0) (r := w.heap.size + 1) (zA9 (S := S) B) (fun j q => .inl q) rfl DO (fun j q => by have := HSS.out _ q; omega) DC (by omega) rlt (fun q => by have := HSS.out _ q; omega)
 simp only [zA0, zA3, Nat.reduceAdd] at FQ
 clear DO DC R2 B HZ
 exact bodyPost_ret (v := .tuple #[.agg #[.slice d0 n0.1.1.length d1, .slice d2 n0.1.2.length d3, .slice d4 n0.2.1.length d5, .int .i64 n0.2.2.1, .int .i64 n0.2.2.2.1, .int .i64 n0.2.2.2.2.1.1, .int .i64 n0.2.2.2.2.1.2.1, .slice d6 n0.2.2.2.2.1.2.2.length d7, .slice d8 n0.2.2.2.2.2.length d9], .slice sa m0.length sc, .int .i64 k0]) (by simp [results, Tryz.results35, go_sem, r0, r1, r2, r3, r4, r5, r6, r7, r8]) rfl FQ
theorem zKK (S : zAX) (cs : List Value) (x : zAE) (id : Int) (m : zB5) (w : World) (hh : Hold w) (ho : zAn.own w S cs x) (hS : ∀ k, S k → k < w.heap.size) (hk : zAZ x = true) (hid : zBk id) (hbk : zAQ (zAt m) 0 15 = true) (h0 : ¬ S 0) (hm : zBm m = 12) :
    Calls Tryz.prog 35 #[zAM cs, .int .i64 id, .iface 105 (.agg #[.int .i64 m.2.2.2.2.1])] w fun e' w' => zEI S w (ofS (zBO (toS x) id m).1) (zBO (toS x) id m).2.1 (zBO (toS x) id m).2.2 e' w' := by
 obtain ⟨n0, hn0⟩ : ∃ n0, n0 = ofS (zBO (toS x) id m).1 := ⟨_, rfl⟩
 obtain ⟨m0, hm0⟩ : ∃ m0, m0 = (zBO (toS x) id m).2.1 := ⟨_, rfl⟩
 obtain ⟨k0, hk0⟩ : ∃ k0, k0 = (zBO (toS x) id m).2.2 := ⟨_, rfl⟩
 rw [← hn0, ← hm0, ← hk0]
 obtain ⟨v0, v1, v2, v5, v6, v7, v8, S0, S1, S4, S5, rfl, i2, i3, o0, o1, o4, o5, sb0, sb1, sb4, sb5, d01, d04, d05, d14, d15, d45⟩ := zBd ho
 have r0 := zAB.own_rd o0
 obtain ⟨a0, c0, b0, d0, e0, -⟩ := zAH r0
 simp only [List.cons.injEq, and_true] at e0
 obtain ⟨rfl, rfl⟩ := e0
 obtain ⟨a1, c1, e1, -⟩ := zBX.own_rd o1
 simp only [List.cons.injEq, and_true] at e1
 obtain rfl := e1
 obtain ⟨a4, c4, e4, ih1, ih2, -, -, -⟩ := zAL (zAS.own_rd o4)
 simp only [List.cons.injEq, and_true] at e4
 obtain ⟨rfl, rfl, rfl⟩ := e4
 obtain ⟨a5, c5, e5, -⟩ := zA5.own_rd o5
 simp only [List.cons.injEq, and_true] at e5
 obtain rfl := e5
 have HO : Hid (∀ W, Below w.heap.size w W → zAn.own W S [.slice a0 x.1.1.length c0, .slice b0 x.1.2.length d0, .slice a1 x.2.1.length c1, .int .i64 x.2.2.1, .int .i64 x.2.2.2.1, .int .i64 x.2.2.2.2.1.1, .int .i64 x.2.2.2.2.1.2.1, .slice a4 x.2.2.2.2.1.2.2.length c4, .slice a5 x.2.2.2.2.2.length c5] x) := fun W hb => zAn.own_keep ho (zAh hb)
 have HC : Hid (∀ W, Below w.heap.size w W → Calls Tryz.prog 74 #[.agg #[.slice a0 x.1.1.length c0, .slice b0 x.1.2.length d0, .slice a1 x.2.1.length c1, .int .i64 x.2.2.1, .int .i64 x.2.2.2.1, .int .i64 x.2.2.2.2.1.1, .int .i64 x.2.2.2.2.1.2.1, .slice a4 x.2.2.2.2.1.2.2.length c4, .slice a5 x.2.2.2.2.2.length c5], .int .i64 m.2.2.2.2.1] W fun e' w' => zEI S W n0 m0 k0 e' w') := fun W hb => by
  rw [hn0, hm0, hk0, ack_eq hm]
  exact zH2 S [.slice a0 x.1.1.length c0, .slice b0 x.1.2.length d0, .slice a1 x.2.1.length c1, .int .i64 x.2.2.1, .int .i64 x.2.2.2.1, .int .i64 x.2.2.2.2.1.1, .int .i64 x.2.2.2.2.1.2.1, .slice a4 x.2.2.2.2.1.2.2.length c4, .slice a5 x.2.2.2.2.2.length c5] x m.2.2.2.2.1 W (zAn.own_keep ho (zAh hb)) (fun j z => Nat.lt_of_lt_of_le (hS j z) hb.size)
 have HSS : Hid (∀ k, S k → k < w.heap.size) := hS
 clear hn0 hm0 hk0 ho hS r0 o0 o1 o4 o5 sb0 sb1 sb4 sb5 d01 d04 d05 d14 d15 d45 i2 i3 ih1 ih2 hk hh hm
 obtain ⟨c, p, at_, ph, h, t⟩ := x
 simp only at *
 rw [show zAM [.slice a0 c.1.length c0, .slice b0 c.2.length d0, .slice a1 p.length c1, .int .i64 at_, .int .i64 ph, .int .i64 h.1, .int .i64 h.2.1, .slice a4 h.2.2.length c4, .slice a5 t.length c5] = .agg #[.slice a0 c.1.length c0, .slice b0 c.2.length d0, .slice a1 p.length c1, .int .i64 at_, .int .i64 ph, .int .i64 h.1, .int .i64 h.2.1, .slice a4 h.2.2.length c4, .slice a5 t.length c5] from rfl]
 have q6 := ta_12_6 (.int .i64 m.2.2.2.2.1) (.int .i64 0) (.int .i64 0)
 have q7 := ta_12_7 (.int .i64 m.2.2.2.2.1) (.int .i64 0) (.int .i64 0)
 have q12 := ta_12_12 (.int .i64 m.2.2.2.2.1) (.int .i64 0) (.int .i64 0)
 have B := Below.refl w.heap.size w
 go_enter Tryz.func35, Tryz.ntmps35
 go_upto_region 1 with fail
 generalize hu1w : w.alloc _ = u1w
 have X := boxH hu1w
 have bz := boxB hu1w
 have zX := boxL hu1w
 clear hu1w
 replace B := zAb B bz
 clear bz
 have zXa := Nat.le_of_eq zX
 have zXb := Nat.le_of_eq zX.symm
 clear zX
 generalize hu2w : u1w.alloc _ = u2w
 have R := boxH hu2w
 have bz := boxB hu2w
 have zR := boxL hu2w
 clear hu2w
 rw [show u1w.heap.size = w.heap.size + 1 from by omega] at R
 replace B := zAb B bz
 replace X := zAa bz X
 clear bz
 have zRa := Nat.le_of_eq zR
 have zRb := Nat.le_of_eq zR.symm
 clear zR
 obtain ⟨Xc0, Xc1, Xc2, Xc3, Xc4, Xc5, Xc6, Xc7, Xc8⟩ := zAc X
 have Xlt := (Array.getElem?_eq_some_iff.1 X).1
 obtain ⟨Rc0, Rc1, Rc2, Rc3, Rc4, Rc5, Rc6, Rc7, Rc8⟩ := zAc R
 have Rlt := (Array.getElem?_eq_some_iff.1 R).1
 go_wp2_with fail
 clear Xc0 Xc1 Xc2 Xc3 Xc4 Xc5 Xc6 Xc7 Xc8 Xlt Rc0 Rc1 Rc2 Rc3 Rc4 Rc5 Rc6 Rc7 Rc8 Rlt
 generalize hu3w : u2w.alloc _ = u3w
 have L := boxH hu3w
 have bz := boxB hu3w
 have zL := boxL hu3w
 clear hu3w
 replace B := zAb B bz
 replace X := zAa bz X
 replace R := zAa bz R
 clear bz
 have zLa := Nat.le_of_eq zL
 have zLb := Nat.le_of_eq zL.symm
 clear zL
 clear q6 q7 q12
 refine (HC.out _ B).mono ?_
 rintro e wd hq
 obtain ⟨d0, d1, d2, d3, d4, d5, d6, d7, d8, d9, sa, sc, rfl, DO, DC⟩ := zCa hq
 clear hq
 have szd := DC.size
 have bsz := B.size
 have R2 := (DC.block _ (Array.getElem?_eq_some_iff.1 R).1 (fun q => by have := HSS.out _ q; omega)).trans R
 obtain ⟨z0, z1, z2, z3, z4, z5, z6, z7, z8⟩ := zAc R2
 obtain ⟨zf0, zf1, zf2, zf3, zf4, zf5, zf6, zf7, zf8⟩ := zAr R2
 have zlt := (Array.getElem?_eq_some_iff.1 R2).1
 have rlt := (Array.getElem?_eq_some_iff.1 R).1
 have HZ : Hid _ := And.intro DO (And.intro DC (And.intro R2 B))
 clear DO DC R2 B X R L
 go_wp2
 obtain ⟨DO, DC, R2, B⟩ := HZ.out
 obtain ⟨r0, r1, r2, r3, r4, r5, r6, r7, r8⟩ := zAc (zAV (y0 := .slice d0 n0.1.1.length d1) (y1 := .slice d2 n0.1.2.length d3) (y2 := .slice d4 n0.2.1.length d5) (y3 := .int .i64 n0.2.2.1) (y4 := .int .i64 n0.2.2.2.1) (y5 := .int .i64 n0.2.2.2.2.1.1) (y6 := .int .i64 n0.2.2.2.2.1.2.1) (y7 := .slice d6 n0.2.2.2.2.1.2.2.length d7) (y8 := .slice d8 n0.2.2.2.2.2.length d9) R2)
 have FQ := zCg (vs := [.slice d0 n0.1.1.length d1, .slice d2 n0.1.2.length d3, .slice d4 n0.2.1.length d5, .int .i64 n0.2.2.1, .int .i64 n0.2.2.2.1, .int .i64 n0.2.2.2.2.1.1, .int .i64 n0.2.2.2.2.1.2.1, .slice d6 n0.2.2.2.2.1.2.2.length d7, .slice d8 n0.2.2.2.2.2.length d9]) (k := k0) (r := w.heap.size + 1) (zA9 (S := S) B) (fun j q => .inl q) rfl DO (fun j q => by have := HSS.out _ q; omega) DC (by omega) rlt (fun q => by have := HSS.out _ q; omega)
 simp only [zA0, zA3, Nat.reduceAdd] at FQ
 clear DO DC R2 B HZ
 exact bodyPost_ret (v := .tuple #[.agg #[.slice d0 n0.1.1.length d1, .slice d2 n0.1.2.length d3, .slice d4 n0.2.1.length d5, .int .i64 n0.2.2.1, .int .i64 n0.2.2.2.1, .int .i64 n0.2.2.2.2.1.1, .int .i64 n0.2.2.2.2.1.2.1, .slice d6 n0.2.2.2.2.1.2.2.length d7, .slice d8 n0.2.2.2.2.2.length d9], .slice sa m0.length sc, .int .i64 k0]) (by simp [results, Tryz.results35, go_sem, r0, r1, r2, r3, r4, r5, r6, r7, r8]) rfl FQ
theorem zKL (S : zAX) (cs : List Value) (x : zAE) (id : Int) (m : zB5) (ma : Option Addr) (mc : Nat) (w : World) (hh : Hold w) (ho : zAn.own w S cs x) (hS : ∀ k, S k → k < w.heap.size) (hk : zAZ x = true) (hid : zBk id) (hbk : zAQ (zAt m) 0 15 = true) (h0 : ¬ S 0) (hm : zBm m = 11) (hmr : zBy.rd w [.int .i64 m.1, .int .i64 m.2.1, .int .i64 m.2.2.1, .int .i64 m.2.2.2.1, .int .i64 m.2.2.2.2.1, .slice ma m.2.2.2.2.2.1.length mc, .int .i64 m.2.2.2.2.2.2] m) (hml : m.2.2.2.2.2.1.length ≤ 1048576) :
    Calls Tryz.prog 35 #[zAM cs, .int .i64 id, .iface 108 (.agg #[.int .i64 m.2.2.2.2.1, .int .i64 m.2.2.2.2.2.2, .slice ma m.2.2.2.2.2.1.length mc])] w fun e' w' => zEI S w (ofS (zBO (toS x) id m).1) (zBO (toS x) id m).2.1 (zBO (toS x) id m).2.2 e' w' := by
 obtain ⟨n0, hn0⟩ : ∃ n0, n0 = ofS (zBO (toS x) id m).1 := ⟨_, rfl⟩
 obtain ⟨m0, hm0⟩ : ∃ m0, m0 = (zBO (toS x) id m).2.1 := ⟨_, rfl⟩
 obtain ⟨k0, hk0⟩ : ∃ k0, k0 = (zBO (toS x) id m).2.2 := ⟨_, rfl⟩
 rw [← hn0, ← hm0, ← hk0]
 obtain ⟨v0, v1, v2, v5, v6, v7, v8, S0, S1, S4, S5, rfl, i2, i3, o0, o1, o4, o5, sb0, sb1, sb4, sb5, d01, d04, d05, d14, d15, d45⟩ := zBd ho
 have r0 := zAB.own_rd o0
 obtain ⟨a0, c0, b0, d0, e0, -⟩ := zAH r0
 simp only [List.cons.injEq, and_true] at e0
 obtain ⟨rfl, rfl⟩ := e0
 obtain ⟨a1, c1, e1, -⟩ := zBX.own_rd o1
 simp only [List.cons.injEq, and_true] at e1
 obtain rfl := e1
 obtain ⟨a4, c4, e4, ih1, ih2, -, -, -⟩ := zAL (zAS.own_rd o4)
 simp only [List.cons.injEq, and_true] at e4
 obtain ⟨rfl, rfl, rfl⟩ := e4
 obtain ⟨a5, c5, e5, -⟩ := zA5.own_rd o5
 simp only [List.cons.injEq, and_true] at e5
 obtain rfl := e5
 have HO : Hid (∀ W, Below w.heap.size w W → zAn.own W S [.slice a0 x.1.1.length c0, .slice b0 x.1.2.length d0, .slice a1 x.2.1.length c1, .int .i64 x.2.2.1, .int .i64 x.2.2.2.1, .int .i64 x.2.2.2.2.1.1, .int .i64 x.2.2.2.2.1.2.1, .slice a4 x.2.2.2.2.1.2.2.length c4, .slice a5 x.2.2.2.2.2.length c5] x) := fun W hb => zAn.own_keep ho (zAh hb)
 have HC : Hid (∀ W, Below w.heap.size w W → Calls Tryz.prog 75 #[.agg #[.slice a0 x.1.1.length c0, .slice b0 x.1.2.length d0, .slice a1 x.2.1.length c1, .int .i64 x.2.2.1, .int .i64 x.2.2.2.1, .int .i64 x.2.2.2.2.1.1, .int .i64 x.2.2.2.2.1.2.1, .slice a4 x.2.2.2.2.1.2.2.length c4, .slice a5 x.2.2.2.2.2.length c5], .int .i64 id, .agg #[.int .i64 m.2.2.2.2.1, .int .i64 m.2.2.2.2.2.2, .slice ma m.2.2.2.2.2.1.length mc]] W fun e' w' => zEI S W n0 m0 k0 e' w') := fun W hb => by
  rw [hn0, hm0, hk0, grant_eq hk hm]
  exact zIG S [.slice a0 x.1.1.length c0, .slice b0 x.1.2.length d0, .slice a1 x.2.1.length c1, .int .i64 x.2.2.1, .int .i64 x.2.2.2.1, .int .i64 x.2.2.2.2.1.1, .int .i64 x.2.2.2.2.1.2.1, .slice a4 x.2.2.2.2.1.2.2.length c4, .slice a5 x.2.2.2.2.2.length c5] [.int .i64 m.2.2.2.2.1, .int .i64 m.2.2.2.2.2.2, .slice ma m.2.2.2.2.2.1.length mc] x id (m.2.2.2.2.1, m.2.2.2.2.2.2, m.2.2.2.2.2.1) W (hh.goes hb) (zAn.own_keep ho (zAh hb)) (fun j z => Nat.lt_of_lt_of_le (hS j z) hb.size) (zAN (msg_way hmr) hb) hml hk hid
 have HSS : Hid (∀ k, S k → k < w.heap.size) := hS
 clear hn0 hm0 hk0 ho hS r0 o0 o1 o4 o5 sb0 sb1 sb4 sb5 d01 d04 d05 d14 d15 d45 i2 i3 ih1 ih2 hk hh hm hmr hml
 obtain ⟨c, p, at_, ph, h, t⟩ := x
 simp only at *
 rw [show zAM [.slice a0 c.1.length c0, .slice b0 c.2.length d0, .slice a1 p.length c1, .int .i64 at_, .int .i64 ph, .int .i64 h.1, .int .i64 h.2.1, .slice a4 h.2.2.length c4, .slice a5 t.length c5] = .agg #[.slice a0 c.1.length c0, .slice b0 c.2.length d0, .slice a1 p.length c1, .int .i64 at_, .int .i64 ph, .int .i64 h.1, .int .i64 h.2.1, .slice a4 h.2.2.length c4, .slice a5 t.length c5] from rfl]
 have q6 := ta_11_6 (.int .i64 m.2.2.2.2.1) (.int .i64 m.2.2.2.2.2.2) (.slice ma m.2.2.2.2.2.1.length mc)
 have q7 := ta_11_7 (.int .i64 m.2.2.2.2.1) (.int .i64 m.2.2.2.2.2.2) (.slice ma m.2.2.2.2.2.1.length mc)
 have q12 := ta_11_12 (.int .i64 m.2.2.2.2.1) (.int .i64 m.2.2.2.2.2.2) (.slice ma m.2.2.2.2.2.1.length mc)
 have q11 := ta_11_11 (.int .i64 m.2.2.2.2.1) (.int .i64 m.2.2.2.2.2.2) (.slice ma m.2.2.2.2.2.1.length mc)
 have B := Below.refl w.heap.size w
 go_enter Tryz.func35, Tryz.ntmps35
 go_upto_region 1 with fail
 generalize hu1w : w.alloc _ = u1w
 have X := boxH hu1w
 have bz := boxB hu1w
 have zX := boxL hu1w
 clear hu1w
 replace B := zAb B bz
 clear bz
 have zXa := Nat.le_of_eq zX
 have zXb := Nat.le_of_eq zX.symm
 clear zX
 generalize hu2w : u1w.alloc _ = u2w
 have R := boxH hu2w
 have bz := boxB hu2w
 have zR := boxL hu2w
 clear hu2w
 rw [show u1w.heap.size = w.heap.size + 1 from by omega] at R
 replace B := zAb B bz
 replace X := zAa bz X
 clear bz
 have zRa := Nat.le_of_eq zR
 have zRb := Nat.le_of_eq zR.symm
 clear zR
 obtain ⟨Xc0, Xc1, Xc2, Xc3, Xc4, Xc5, Xc6, Xc7, Xc8⟩ := zAc X
 have Xlt := (Array.getElem?_eq_some_iff.1 X).1
 obtain ⟨Rc0, Rc1, Rc2, Rc3, Rc4, Rc5, Rc6, Rc7, Rc8⟩ := zAc R
 have Rlt := (Array.getElem?_eq_some_iff.1 R).1
 go_wp2_with fail
 clear Xc0 Xc1 Xc2 Xc3 Xc4 Xc5 Xc6 Xc7 Xc8 Xlt Rc0 Rc1 Rc2 Rc3 Rc4 Rc5 Rc6 Rc7 Rc8 Rlt
 generalize hu3w : u2w.alloc _ = u3w
 have L := boxH hu3w
 have bz := boxB hu3w
 have zL := boxL hu3w
 clear hu3w
 replace B := zAb B bz
 replace X := zAa bz X
 replace R := zAa bz R
 clear bz
 have zLa := Nat.le_of_eq zL
 have zLb := Nat.le_of_eq zL.symm
 clear zL
 clear q6 q7 q12 q11
 refine (HC.out _ B).mono ?_
 rintro e wd hq
 obtain ⟨d0, d1, d2, d3, d4, d5, d6, d7, d8, d9, sa, sc, rfl, DO, DC⟩ := zCa hq
 clear hq
 have szd := DC.size
 have bsz := B.size
 have R2 := (DC.block _ (Array.getElem?_eq_some_iff.1 R).1 (fun q => by have := HSS.out _ q; omega)).trans R
 obtain ⟨z0, z1, z2, z3, z4, z5, z6, z7, z8⟩ := zAc R2
 obtain ⟨zf0, zf1, zf2, zf3, zf4, zf5, zf6, zf7, zf8⟩ := zAr R2
 have zlt := (Array.getElem?_eq_some_iff.1 R2).1
 have rlt := (Array.getElem?_eq_some_iff.1 R).1
 have HZ : Hid _ := And.intro DO (And.intro DC (And.intro R2 B))
 clear DO DC R2 B X R L
 go_wp2
 obtain ⟨DO, DC, R2, B⟩ := HZ.out
 obtain ⟨r0, r1, r2, r3, r4, r5, r6, r7, r8⟩ := zAc (zAV (y0 := .slice d0 n0.1.1.length d1) (y1 := .slice d2 n0.1.2.length d3) (y2 := .slice d4 n0.2.1.length d5) (y3 := .int .i64 n0.2.2.1) (y4 := .int .i64 n0.2.2.2.1) (y5 := .int .i64 n0.2.2.2.2.1.1) (y6 := .int .i64 n0.2.2.2.2.1.2.1) (y7 := .slice d6 n0.2.2.2.2.1.2.2.length d7) (y8 := .slice d8 n0.2.2.2.2.2.length d9) R2)
 have FQ := zCg (vs := [.slice d0 n0.1.1.length d1, .slice d2 n0.1.2.length d3, .slice d4 n0.2.1.length d5, .int .i64 n0.2.2.1, .int .i64 n0.2.2.2.1, .int .i64 n0.2.2.2.2.1.1, .int .i64 n0.2.2.2.2.1.2.1, .slice d6 n0.2.2.2.2.1.2.2.length d7, .slice d8 n0.2.2.2.2.2.length d9]) (k := k0) (r := w.heap.size + 1) (zA9 (S := S) B) (fun j q => .inl q) rfl DO (fun j q => by have := HSS.out _ q; omega) DC (by omega) rlt (fun q => by have := HSS.out _ q; omega)
 simp only [zA0, zA3, Nat.reduceAdd] at FQ
 clear DO DC R2 B HZ
 exact bodyPost_ret (v := .tuple #[.agg #[.slice d0 n0.1.1.length d1, .slice d2 n0.1.2.length d3, .slice d4 n0.2.1.length d5, .int .i64 n0.2.2.1, .int .i64 n0.2.2.2.1, .int .i64 n0.2.2.2.2.1.1, .int .i64 n0.2.2.2.2.1.2.1, .slice d6 n0.2.2.2.2.1.2.2.length d7, .slice d8 n0.2.2.2.2.2.length d9], .slice sa m0.length sc, .int .i64 k0]) (by simp [results, Tryz.results35, go_sem, r0, r1, r2, r3, r4, r5, r6, r7, r8]) rfl FQ
theorem zMs (S : zAX) (cs : List Value) (x : zAE) (id : Int) (m : zB5) (w : World) (hh : Hold w) (ho : zAn.own w S cs x) (hS : ∀ k, S k → k < w.heap.size) (hk : zAZ x = true) (hid : zBk id) (hbk : zAQ (zAt m) 0 15 = true) (h0 : ¬ S 0) (h6 : zBm m ≠ 6) (h7 : zBm m ≠ 7) (h12 : zBm m ≠ 12) (h11 : zBm m ≠ 11) :
    Calls Tryz.prog 35 #[zAM cs, .int .i64 id, .nilIface] w fun e' w' => zEI S w (ofS (zBO (toS x) id m).1) (zBO (toS x) id m).2.1 (zBO (toS x) id m).2.2 e' w' := by
 obtain ⟨n0, hn0⟩ : ∃ n0, n0 = ofS (zBO (toS x) id m).1 := ⟨_, rfl⟩
 obtain ⟨m0, hm0⟩ : ∃ m0, m0 = (zBO (toS x) id m).2.1 := ⟨_, rfl⟩
 obtain ⟨k0, hk0⟩ : ∃ k0, k0 = (zBO (toS x) id m).2.2 := ⟨_, rfl⟩
 rw [← hn0, ← hm0, ← hk0]
 obtain ⟨v0, v1, v2, v5, v6, v7, v8, S0, S1, S4, S5, rfl, i2, i3, o0, o1, o4, o5, sb0, sb1, sb4, sb5, d01, d04, d05, d14, d15, d45⟩ := zBd ho
 have r0 := zAB.own_rd o0
 obtain ⟨a0, c0, b0, d0, e0, -⟩ := zAH r0
 simp only [List.cons.injEq, and_true] at e0
 obtain ⟨rfl, rfl⟩ := e0
 obtain ⟨a1, c1, e1, -⟩ := zBX.own_rd o1
 simp only [List.cons.injEq, and_true] at e1
 obtain rfl := e1
 obtain ⟨a4, c4, e4, ih1, ih2, -, -, -⟩ := zAL (zAS.own_rd o4)
 simp only [List.cons.injEq, and_true] at e4
 obtain ⟨rfl, rfl, rfl⟩ := e4
 obtain ⟨a5, c5, e5, -⟩ := zA5.own_rd o5
 simp only [List.cons.injEq, and_true] at e5
 obtain rfl := e5
 have HO : Hid (∀ W, Below w.heap.size w W → zAn.own W S [.slice a0 x.1.1.length c0, .slice b0 x.1.2.length d0, .slice a1 x.2.1.length c1, .int .i64 x.2.2.1, .int .i64 x.2.2.2.1, .int .i64 x.2.2.2.2.1.1, .int .i64 x.2.2.2.2.1.2.1, .slice a4 x.2.2.2.2.1.2.2.length c4, .slice a5 x.2.2.2.2.2.length c5] x) := fun W hb => zAn.own_keep ho (zAh hb)
 have HC : Hid (∀ W, Below w.heap.size w W → Calls Tryz.prog 34 #[.agg #[.slice a0 x.1.1.length c0, .slice b0 x.1.2.length d0, .slice a1 x.2.1.length c1, .int .i64 x.2.2.1, .int .i64 x.2.2.2.1, .int .i64 x.2.2.2.2.1.1, .int .i64 x.2.2.2.2.1.2.1, .slice a4 x.2.2.2.2.1.2.2.length c4, .slice a5 x.2.2.2.2.2.length c5]] W fun e' w' => zEI S W n0 m0 k0 e' w') := fun W hb => by
  rw [hn0, hm0, hk0, zIE h6 h7 h12 h11]
  exact zDY S [.slice a0 x.1.1.length c0, .slice b0 x.1.2.length d0, .slice a1 x.2.1.length c1, .int .i64 x.2.2.1, .int .i64 x.2.2.2.1, .int .i64 x.2.2.2.2.1.1, .int .i64 x.2.2.2.2.1.2.1, .slice a4 x.2.2.2.2.1.2.2.length c4, .slice a5 x.2.2.2.2.2.length c5] x W (zAn.own_keep ho (zAh hb)) (fun j z => Nat.lt_of_lt_of_le (hS j z) hb.size)
 have HSS : Hid (∀ k, S k → k < w.heap.size) := hS
 clear hn0 hm0 hk0 ho hS r0 o0 o1 o4 o5 sb0 sb1 sb4 sb5 d01 d04 d05 d14 d15 d45 i2 i3 ih1 ih2 hk hh
 obtain ⟨c, p, at_, ph, h, t⟩ := x
 simp only at *
 rw [show zAM [.slice a0 c.1.length c0, .slice b0 c.2.length d0, .slice a1 p.length c1, .int .i64 at_, .int .i64 ph, .int .i64 h.1, .int .i64 h.2.1, .slice a4 h.2.2.length c4, .slice a5 t.length c5] = .agg #[.slice a0 c.1.length c0, .slice b0 c.2.length d0, .slice a1 p.length c1, .int .i64 at_, .int .i64 ph, .int .i64 h.1, .int .i64 h.2.1, .slice a4 h.2.2.length c4, .slice a5 t.length c5] from rfl]
 have q6 := ta_0_6 (.int .i64 m.2.2.2.2.1) (.int .i64 0) (.int .i64 0)
 have q7 := ta_0_7 (.int .i64 m.2.2.2.2.1) (.int .i64 0) (.int .i64 0)
 have q12 := ta_0_12 (.int .i64 m.2.2.2.2.1) (.int .i64 0) (.int .i64 0)
 have q11 := ta_0_11 (.int .i64 m.2.2.2.2.1) (.int .i64 0) (.int .i64 0)
 have B := Below.refl w.heap.size w
 go_enter Tryz.func35, Tryz.ntmps35
 go_upto_region 1 with fail
 generalize hu1w : w.alloc _ = u1w
 have X := boxH hu1w
 have bz := boxB hu1w
 have zX := boxL hu1w
 clear hu1w
 replace B := zAb B bz
 clear bz
 have zXa := Nat.le_of_eq zX
 have zXb := Nat.le_of_eq zX.symm
 clear zX
 generalize hu2w : u1w.alloc _ = u2w
 have R := boxH hu2w
 have bz := boxB hu2w
 have zR := boxL hu2w
 clear hu2w
 rw [show u1w.heap.size = w.heap.size + 1 from by omega] at R
 replace B := zAb B bz
 replace X := zAa bz X
 clear bz
 have zRa := Nat.le_of_eq zR
 have zRb := Nat.le_of_eq zR.symm
 clear zR
 obtain ⟨Xc0, Xc1, Xc2, Xc3, Xc4, Xc5, Xc6, Xc7, Xc8⟩ := zAc X
 have Xlt := (Array.getElem?_eq_some_iff.1 X).1
 obtain ⟨Rc0, Rc1, Rc2, Rc3, Rc4, Rc5, Rc6, Rc7, Rc8⟩ := zAc R
 have Rlt := (Array.getElem?_eq_some_iff.1 R).1
 go_wp2_with fail
 clear Xc0 Xc1 Xc2 Xc3 Xc4 Xc5 Xc6 Xc7 Xc8 Xlt Rc0 Rc1 Rc2 Rc3 Rc4 Rc5 Rc6 Rc7 Rc8 Rlt
 clear q6 q7 q12 q11
 refine (HC.out _ B).mono ?_
 rintro e wd hq
 obtain ⟨d0, d1, d2, d3, d4, d5, d6, d7, d8, d9, sa, sc, rfl, DO, DC⟩ := zCa hq
 clear hq
 have szd := DC.size
 have bsz := B.size
 have R2 := (DC.block _ (Array.getElem?_eq_some_iff.1 R).1 (fun q => by have := HSS.out _ q; omega)).trans R
 obtain ⟨z0, z1, z2, z3, z4, z5, z6, z7, z8⟩ := zAc R2
 obtain ⟨zf0, zf1, zf2, zf3, zf4, zf5, zf6, zf7, zf8⟩ := zAr R2
 have zlt := (Array.getElem?_eq_some_iff.1 R2).1
 have rlt := (Array.getElem?_eq_some_iff.1 R).1
 have HZ : Hid _ := And.intro DO (And.intro DC (And.intro R2 B))
 clear DO DC R2 B X R
 go_wp2
 obtain ⟨DO, DC, R2, B⟩ := HZ.out
 obtain ⟨r0, r1, r2, r3, r4, r5, r6, r7, r8⟩ := zAc (zAV (y0 := .slice d0 n0.1.1.length d1) (y1 := .slice d2 n0.1.2.length d3) (y2 := .slice d4 n0.2.1.length d5) (y3 := .int .i64 n0.2.2.1) (y4 := .int .i64 n0.2.2.2.1) (y5 := .int .i64 n0.2.2.2.2.1.1) (y6 := .int .i64 n0.2.2.2.2.1.2.1) (y7 := .slice d6 n0.2.2.2.2.1.2.2.length d7) (y8 := .slice d8 n0.2.2.2.2.2.length d9) R2)
 have FQ := zCg (vs := [.slice d0 n0.1.1.length d1, .slice d2 n0.1.2.length d3, .slice d4 n0.2.1.length d5, .int .i64 n0.2.2.1, .int .i64 n0.2.2.2.1, .int .i64 n0.2.2.2.2.1.1, .int .i64 n0.2.2.2.2.1.2.1, .slice d6 n0.2.2.2.2.1.2.2.length d7, .slice d8 n0.2.2.2.2.2.length d9]) (k := k0) (r := w.heap.size + 1) (zA9 (S := S) B) (fun j q => .inl q) rfl DO (fun j q => by have := HSS.out _ q; omega) DC (by omega) rlt (fun q => by have := HSS.out _ q; omega)
 simp only [zA0, zA3, Nat.reduceAdd] at FQ
 clear DO DC R2 B HZ
 exact bodyPost_ret (v := .tuple #[.agg #[.slice d0 n0.1.1.length d1, .slice d2 n0.1.2.length d3, .slice d4 n0.2.1.length d5, .int .i64 n0.2.2.1, .int .i64 n0.2.2.2.1, .int .i64 n0.2.2.2.2.1.1, .int .i64 n0.2.2.2.2.1.2.1, .slice d6 n0.2.2.2.2.1.2.2.length d7, .slice d8 n0.2.2.2.2.2.length d9], .slice sa m0.length sc, .int .i64 k0]) (by simp [results, Tryz.results35, go_sem, r0, r1, r2, r3, r4, r5, r6, r7, r8]) rfl FQ
theorem zMt (S : zAX) (cs : List Value) (x : zAE) (id : Int) (m : zB5) (ma : Option Addr) (mc : Nat) (w : World) (hh : Hold w) (ho : zAn.own w S cs x) (hS : ∀ k, S k → k < w.heap.size) (hk : zAZ x = true) (hid : zBk id) (hbk : zAQ (zAt m) 0 15 = true) (h0 : ¬ S 0) (hmr : zBy.rd w [.int .i64 m.1, .int .i64 m.2.1, .int .i64 m.2.2.1, .int .i64 m.2.2.2.1, .int .i64 m.2.2.2.2.1, .slice ma m.2.2.2.2.2.1.length mc, .int .i64 m.2.2.2.2.2.2] m) (hml : m.2.2.2.2.2.1.length ≤ 1048576) :
    Calls Tryz.prog 35 #[zAM cs, .int .i64 id, zHd m ma mc] w fun e' w' => zEI S w (ofS (zBO (toS x) id m).1) (zBO (toS x) id m).2.1 (zBO (toS x) id m).2.2 e' w' := by
 unfold zHd
 by_cases h6 : m.2.2.2.1 = 6
 ·rw [if_pos h6]; exact zMq S cs x id m w hh ho hS hk hid hbk h0 h6
 rw [if_neg h6]
 by_cases h7 : m.2.2.2.1 = 7
 ·rw [if_pos h7]; exact zMr S cs x id m w hh ho hS hk hid hbk h0 h7
 rw [if_neg h7]
 by_cases h12 : m.2.2.2.1 = 12
 ·rw [if_pos h12]; exact zKK S cs x id m w hh ho hS hk hid hbk h0 h12
 rw [if_neg h12]
 by_cases h11 : m.2.2.2.1 = 11
 ·rw [if_pos h11]; exact zKL S cs x id m ma mc w hh ho hS hk hid hbk h0 h11 hmr hml
 rw [if_neg h11]
 exact zMs S cs x id m w hh ho hS hk hid hbk h0 h6 h7 h12 h11
end Go.Proofs.YtoihjejenjcokaaGreatDoor
