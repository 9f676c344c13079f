import Derived.Test.YtoihjejenjcokaaGreatDoorP00Box
import Derived.Test.YtoihjejenjcokaaGreatDoorP44GotHeld
import Derived.Test.YtoihjejenjcokaaGreatDoorP37GotCache
import Derived.Test.YtoihjejenjcokaaGreatDoorP30GotQ
namespace Go.Proofs.YtoihjejenjcokaaGreatDoor
set_option maxHeartbeats 16000000
set_option maxRecDepth 20000
open Go.ChangeShapes Go.WideShapes Go.ChangeAt Go.RowKit
set_option linter.unusedVariables false
noncomputable def askI (x : zAE) (id k e : Int) : zAE × zB5 := if x.2.2.2.2.1.1 = k then (inH x e, inHM x id e) else (inC x k e, inM x id k e)
theorem ask_eq {x : zAE} {id : Int} {m : zB5} (h : zAZ x = true) (hb : zAQ (zAt m) 0 15 = true) (hm : zBm m = 6 ∨ zBm m = 7) : zBO (toS x) id m = (toS (askI x id (zAt m) (zBm m - 3)).1, [(askI x id (zAt m) (zBm m - 3)).2], 1) := by
 rw [zGZ hm hb]
 unfold askI
 by_cases q : x.2.2.2.2.1.1 = zAt m
 ·rw [if_pos q, zMl h hb rfl hm q]
 ·rw [if_neg q, zKB h hb rfl hm q]
theorem zHf (S : zAX) (cs : List Value) (x : zAE) (id k e : Int) (w : World) (hh : Hold w) (ho : zAn.own w S cs x) (hS : ∀ k, S k → k < w.heap.size) (hk : zAZ x = true) (hid : zBk id) (hbk : zAQ k 0 15 = true) (he : e = 3 ∨ e = 4) (h0 : ¬ S 0) :
    Calls Tryz.prog 73 #[zAM cs, .int .i64 id, .int .i64 k, .int .i64 e] w fun e' w' => zEI S w (askI x id k e).1 [(askI x id k e).2] 1 e' w' := by
 obtain ⟨n0, hn0⟩ : ∃ n0, n0 = (askI x id k e).1 := ⟨_, rfl⟩
 obtain ⟨m0, hm0⟩ : ∃ m0, m0 = [(askI x id k e).2] := ⟨_, rfl⟩
 obtain ⟨k0, hk0⟩ : ∃ k0 : Int, k0 = 1 := ⟨_, rfl⟩
 rw [← hn0, ← hm0, ← hk0]
 obtain ⟨v0, v1, v2, v5, v6, v7, v8, S0, S1, S4, S5, rfl, i2, i3, o0, o1, o4, o5, sb0, sb1, sb4, sb5, d01, d04, d05, d14, d15, d45⟩ := zBd ho
 have r0 := zAB.own_rd o0
 obtain ⟨a0, c0, b0, d0, e0, -⟩ := zAH r0
 simp only [List.cons.injEq, and_true] at e0
 obtain ⟨rfl, rfl⟩ := e0
 obtain ⟨a1, c1, e1, -⟩ := zBX.own_rd o1
 simp only [List.cons.injEq, and_true] at e1
 obtain rfl := e1
 obtain ⟨a4, c4, e4, ih1, ih2, -, -, -⟩ := zAL (zAS.own_rd o4)
 simp only [List.cons.injEq, and_true] at e4
 obtain ⟨rfl, rfl, rfl⟩ := e4
 obtain ⟨a5, c5, e5, -⟩ := zA5.own_rd o5
 simp only [List.cons.injEq, and_true] at e5
 obtain rfl := e5
 have HO : Hid (∀ W, Below w.heap.size w W → zAn.own W S [.slice a0 x.1.1.length c0, .slice b0 x.1.2.length d0, .slice a1 x.2.1.length c1, .int .i64 x.2.2.1, .int .i64 x.2.2.2.1, .int .i64 x.2.2.2.2.1.1, .int .i64 x.2.2.2.2.1.2.1, .slice a4 x.2.2.2.2.1.2.2.length c4, .slice a5 x.2.2.2.2.2.length c5] x) := fun W hb => zAn.own_keep ho (zAh hb)
 have HAH : Hid (x.2.2.2.2.1.1 = k → ∀ W, Below w.heap.size w W → Calls Tryz.prog 101 #[.agg #[.slice a0 x.1.1.length c0, .slice b0 x.1.2.length d0, .slice a1 x.2.1.length c1, .int .i64 x.2.2.1, .int .i64 x.2.2.2.1, .int .i64 x.2.2.2.2.1.1, .int .i64 x.2.2.2.2.1.2.1, .slice a4 x.2.2.2.2.1.2.2.length c4, .slice a5 x.2.2.2.2.2.length c5], .int .i64 id, .int .i64 e] W fun e' w' => zEI S W n0 m0 k0 e' w') := fun q W hb => by rw [hn0, hm0, hk0]; unfold askI; rw [if_pos q]; exact zHe S [.slice a0 x.1.1.length c0, .slice b0 x.1.2.length d0, .slice a1 x.2.1.length c1, .int .i64 x.2.2.1, .int .i64 x.2.2.2.1, .int .i64 x.2.2.2.2.1.1, .int .i64 x.2.2.2.2.1.2.1, .slice a4 x.2.2.2.2.1.2.2.length c4, .slice a5 x.2.2.2.2.2.length c5] x id e W (hh.goes hb) (zAn.own_keep ho (zAh hb)) (fun j z => Nat.lt_of_lt_of_le (hS j z) hb.size) hk hid he
 have HAC : Hid (¬ x.2.2.2.2.1.1 = k → ∀ W, Below w.heap.size w W → Calls Tryz.prog 102 #[.agg #[.slice a0 x.1.1.length c0, .slice b0 x.1.2.length d0, .slice a1 x.2.1.length c1, .int .i64 x.2.2.1, .int .i64 x.2.2.2.1, .int .i64 x.2.2.2.2.1.1, .int .i64 x.2.2.2.2.1.2.1, .slice a4 x.2.2.2.2.1.2.2.length c4, .slice a5 x.2.2.2.2.2.length c5], .int .i64 id, .int .i64 k, .int .i64 e] W fun e' w' => zEI S W n0 m0 k0 e' w') := fun q W hb => by rw [hn0, hm0, hk0]; unfold askI; rw [if_neg q]; exact zGg S [.slice a0 x.1.1.length c0, .slice b0 x.1.2.length d0, .slice a1 x.2.1.length c1, .int .i64 x.2.2.1, .int .i64 x.2.2.2.1, .int .i64 x.2.2.2.2.1.1, .int .i64 x.2.2.2.2.1.2.1, .slice a4 x.2.2.2.2.1.2.2.length c4, .slice a5 x.2.2.2.2.2.length c5] x id k e W (hh.goes hb) (zAn.own_keep ho (zAh hb)) (fun j z => Nat.lt_of_lt_of_le (hS j z) hb.size) hk hid hbk he h0
 have HSS : Hid (∀ k, S k → k < w.heap.size) := hS
 clear hn0 hm0 hk0 ho hS r0 o0 o1 o4 o5 sb0 sb1 sb4 sb5 d01 d04 d05 d14 d15 d45 i2 i3 ih1 ih2 hk hh hbk
 obtain ⟨c, p, at_, ph, h, t⟩ := x
 simp only at *
 rw [show zAM [.slice a0 c.1.length c0, .slice b0 c.2.length d0, .slice a1 p.length c1, .int .i64 at_, .int .i64 ph, .int .i64 h.1, .int .i64 h.2.1, .slice a4 h.2.2.length c4, .slice a5 t.length c5] = .agg #[.slice a0 c.1.length c0, .slice b0 c.2.length d0, .slice a1 p.length c1, .int .i64 at_, .int .i64 ph, .int .i64 h.1, .int .i64 h.2.1, .slice a4 h.2.2.length c4, .slice a5 t.length c5] from rfl]
 have B := Below.refl w.heap.size w
 by_cases hc : h.1 = k
 ·have z1 : (h.1 == k) = true := by simp [hc]
  have hcall := HAH.out hc
  clear hc HAH HAC
  go_enter Tryz.func73, Tryz.ntmps73
  go_upto_region 1 with fail
  generalize hu1w : w.alloc _ = u1w
  have X := boxH hu1w
  have bz := boxB hu1w
  have zX := boxL hu1w
  clear hu1w
  replace B := zAb B bz
  clear bz
  have zXa := Nat.le_of_eq zX
  have zXb := Nat.le_of_eq zX.symm
  clear zX
  generalize hu2w : u1w.alloc _ = u2w
  have R := boxH hu2w
  have bz := boxB hu2w
  have zR := boxL hu2w
  clear hu2w
  rw [show u1w.heap.size = w.heap.size + 1 from by omega] at R
  replace B := zAb B bz
  replace X := zAa bz X
  clear bz
  have zRa := Nat.le_of_eq zR
  have zRb := Nat.le_of_eq zR.symm
  clear zR
  obtain ⟨Xc0, Xc1, Xc2, Xc3, Xc4, Xc5, Xc6, Xc7, Xc8⟩ := zAc X
  have Xlt := (Array.getElem?_eq_some_iff.1 X).1
  obtain ⟨Rc0, Rc1, Rc2, Rc3, Rc4, Rc5, Rc6, Rc7, Rc8⟩ := zAc R
  have Rlt := (Array.getElem?_eq_some_iff.1 R).1
  go_wp2_with fail
  clear Xc0 Xc1 Xc2 Xc3 Xc4 Xc5 Xc6 Xc7 Xc8 Xlt Rc0 Rc1 Rc2 Rc3 Rc4 Rc5 Rc6 Rc7 Rc8 Rlt
  refine (hcall _ B).mono ?_
  rintro e wd hq
  obtain ⟨d0, d1, d2, d3, d4, d5, d6, d7, d8, d9, sa, sc, rfl, DO, DC⟩ := zCa hq
  clear hq
  have szd := DC.size
  have bsz := B.size
  have R2 := (DC.block _ (Array.getElem?_eq_some_iff.1 R).1 (fun q => by have := HSS.out _ q; omega)).trans R
  obtain ⟨z0, z1, z2, z3, z4, z5, z6, z7, z8⟩ := zAc R2
  obtain ⟨zf0, zf1, zf2, zf3, zf4, zf5, zf6, zf7, zf8⟩ := zAr R2
  have zlt := (Array.getElem?_eq_some_iff.1 R2).1
  have rlt := (Array.getElem?_eq_some_iff.1 R).1
  have HZ : Hid _ := And.intro DO (And.intro DC (And.intro R2 B))
  clear DO DC R2 B X R
  go_wp2
  obtain ⟨DO, DC, R2, B⟩ := HZ.out
  obtain ⟨r0, r1, r2, r3, r4, r5, r6, r7, r8⟩ := zAc (zAV (y0 := .slice d0 n0.1.1.length d1) (y1 := .slice d2 n0.1.2.length d3) (y2 := .slice d4 n0.2.1.length d5) (y3 := .int .i64 n0.2.2.1) (y4 := .int .i64 n0.2.2.2.1) (y5 := .int .i64 n0.2.2.2.2.1.1) (y6 := .int .i64 n0.2.2.2.2.1.2.1) (y7 := .slice d6 n0.2.2.2.2.1.2.2.length d7) (y8 := .slice d8 n0.2.2.2.2.2.length d9) R2)
  have FQ := zCg (vs := [.slice d0 n0.1.1.length d1, .slice d2 n0.1.2.length d3, .slice d4 n0.2.1.length d5, .int .i64 n0.2.2.1, .int .i64 n0.2.2.2.1, .int .i64 n0.2.2.2.2.1.1, .int .i64 n0.2.2.2.2.1.2.1, .slice d6 n0.2.2.2.2.1.2.2.length d7, .slice d8 n0.2.2.2.2.2.length d9]) (k := k0) (r := w.heap.size + 1) (zA9 (S := S) B) (fun j q => .inl q) rfl DO (fun j q => by have := HSS.out _ q; omega) DC (by omega) rlt (fun q => by have := HSS.out _ q; omega)
  simp only [zA0, zA3, Nat.reduceAdd] at FQ
  clear DO DC R2 B HZ
  exact bodyPost_ret (v := .tuple #[.agg #[.slice d0 n0.1.1.length d1, .slice d2 n0.1.2.length d3, .slice d4 n0.2.1.length d5, .int .i64 n0.2.2.1, .int .i64 n0.2.2.2.1, .int .i64 n0.2.2.2.2.1.1, .int .i64 n0.2.2.2.2.1.2.1, .slice d6 n0.2.2.2.2.1.2.2.length d7, .slice d8 n0.2.2.2.2.2.length d9], .slice sa m0.length sc, .int .i64 k0]) (by simp [results, Tryz.results73, go_sem, r0, r1, r2, r3, r4, r5, r6, r7, r8]) rfl FQ
 ·have z1 : (h.1 == k) = false := by simp [hc]
  have hcall := HAC.out hc
  clear hc HAH HAC
  go_enter Tryz.func73, Tryz.ntmps73
  go_upto_region 1 with fail
  generalize hu3w : w.alloc _ = u3w
  have X := boxH hu3w
  have bz := boxB hu3w
  have zX := boxL hu3w
  clear hu3w
  replace B := zAb B bz
  clear bz
  have zXa := Nat.le_of_eq zX
  have zXb := Nat.le_of_eq zX.symm
  clear zX
  generalize hu4w : u3w.alloc _ = u4w
  have R := boxH hu4w
  have bz := boxB hu4w
  have zR := boxL hu4w
  clear hu4w
  rw [show u3w.heap.size = w.heap.size + 1 from by omega] at R
  replace B := zAb B bz
  replace X := zAa bz X
  clear bz
  have zRa := Nat.le_of_eq zR
  have zRb := Nat.le_of_eq zR.symm
  clear zR
  obtain ⟨Xc0, Xc1, Xc2, Xc3, Xc4, Xc5, Xc6, Xc7, Xc8⟩ := zAc X
  have Xlt := (Array.getElem?_eq_some_iff.1 X).1
  obtain ⟨Rc0, Rc1, Rc2, Rc3, Rc4, Rc5, Rc6, Rc7, Rc8⟩ := zAc R
  have Rlt := (Array.getElem?_eq_some_iff.1 R).1
  go_wp2_with fail
  clear Xc0 Xc1 Xc2 Xc3 Xc4 Xc5 Xc6 Xc7 Xc8 Xlt Rc0 Rc1 Rc2 Rc3 Rc4 Rc5 Rc6 Rc7 Rc8 Rlt
  refine (hcall _ B).mono ?_
  rintro e wd hq
  obtain ⟨d0, d1, d2, d3, d4, d5, d6, d7, d8, d9, sa, sc, rfl, DO, DC⟩ := zCa hq
  clear hq
  have szd := DC.size
  have bsz := B.size
  have R2 := (DC.block _ (Array.getElem?_eq_some_iff.1 R).1 (fun q => by have := HSS.out _ q; omega)).trans R
  obtain ⟨z0, z1, z2, z3, z4, z5, z6, z7, z8⟩ := zAc R2
  obtain ⟨zf0, zf1, zf2, zf3, zf4, zf5, zf6, zf7, zf8⟩ := zAr R2
  have zlt := (Array.getElem?_eq_some_iff.1 R2).1
  have rlt := (Array.getElem?_eq_some_iff.1 R).1
  have HZ : Hid _ := And.intro DO (And.intro DC (And.intro R2 B))
  clear DO DC R2 B X R
  go_wp2
  obtain ⟨DO, DC, R2, B⟩ := HZ.out
  obtain ⟨r0, r1, r2, r3, r4, r5, r6, r7, r8⟩ := zAc (zAV (y0 := .slice d0 n0.1.1.length d1) (y1 := .slice d2 n0.1.2.length d3) (y2 := .slice d4 n0.2.1.length d5) (y3 := .int .i64 n0.2.2.1) (y4 := .int .i64 n0.2.2.2.1) (y5 := .int .i64 n0.2.2.2.2.1.1) (y6 := .int .i64 n0.2.2.2.2.1.2.1) (y7 := .slice d6 n0.2.2.2.2.1.2.2.length d7) (y8 := .slice d8 n0.2.2.2.2.2.length d9) R2)
  have FQ := zCg (vs := [.slice d0 n0.1.1.length d1, .slice d2 n0.1.2.length d3, .slice d4 n0.2.1.length d5, .int .i64 n0.2.2.1, .int .i64 n0.2.2.2.1, .int .i64 n0.2.2.2.2.1.1, .int .i64 n0.2.2.2.2.1.2.1, .slice d6 n0.2.2.2.2.1.2.2.length d7, .slice d8 n0.2.2.2.2.2.length d9]) (k := k0) (r := w.heap.size + 1) (zA9 (S := S) B) (fun j q => .inl q) rfl DO (fun j q => by have := HSS.out _ q; omega) DC (by omega) rlt (fun q => by have := HSS.out _ q; omega)
  simp only [zA0, zA3, Nat.reduceAdd] at FQ
  clear DO DC R2 B HZ
  exact bodyPost_ret (v := .tuple #[.agg #[.slice d0 n0.1.1.length d1, .slice d2 n0.1.2.length d3, .slice d4 n0.2.1.length d5, .int .i64 n0.2.2.1, .int .i64 n0.2.2.2.1, .int .i64 n0.2.2.2.2.1.1, .int .i64 n0.2.2.2.2.1.2.1, .slice d6 n0.2.2.2.2.1.2.2.length d7, .slice d8 n0.2.2.2.2.2.length d9], .slice sa m0.length sc, .int .i64 k0]) (by simp [results, Tryz.results73, go_sem, r0, r1, r2, r3, r4, r5, r6, r7, r8]) rfl FQ
noncomputable def ackX (x : zAE) (k : Int) : zAE := if x.2.2.2.1 = 1 ∧ x.2.2.2.2.1.1 = k then (x.1, x.2.1, x.2.2.1, 0, zAA, x.2.2.2.2.2) else x
noncomputable def ackK (x : zAE) (k : Int) : Int := if x.2.2.2.1 = 1 ∧ x.2.2.2.2.1.1 = k then 1 else 0
theorem zH2 (S : zAX) (cs : List Value) (x : zAE) (k : Int) (w : World) (ho : zAn.own w S cs x) (hS : ∀ k, S k → k < w.heap.size) :
    Calls Tryz.prog 74 #[zAM cs, .int .i64 k] w fun e' w' => zEI S w (ackX x k) [] (ackK x k) e' w' := by
 have HSL : Hid (∀ (ds : List Value) (W : World), Below w.heap.size w W → zAn.own W S ds x → Calls Tryz.prog 34 #[zAM ds] W fun e w' => zEI S W x [] 0 e w') := fun ds W hb ho => zDY S ds x W ho (fun k q => Nat.lt_of_lt_of_le (hS k q) hb.size)
 obtain ⟨v0, v1, v2, v5, v6, v7, v8, S0, S1, S4, S5, rfl, i2, i3, o0, o1, o4, o5, sb0, sb1, sb4, sb5, d01, d04, d05, d14, d15, d45⟩ := zBd ho
 have r0 := zAB.own_rd o0
 obtain ⟨a0, c0, b0, d0, e0, -⟩ := zAH r0
 simp only [List.cons.injEq, and_true] at e0
 obtain ⟨rfl, rfl⟩ := e0
 obtain ⟨a1, c1, e1, -⟩ := zBX.own_rd o1
 simp only [List.cons.injEq, and_true] at e1
 obtain rfl := e1
 obtain ⟨a4, c4, e4, ih1, ih2, -, -, -⟩ := zAL (zAS.own_rd o4)
 simp only [List.cons.injEq, and_true] at e4
 obtain ⟨rfl, rfl, rfl⟩ := e4
 obtain ⟨a5, c5, e5, -⟩ := zA5.own_rd o5
 simp only [List.cons.injEq, and_true] at e5
 obtain rfl := e5
 have HO : Hid (∀ W, Below w.heap.size w W → zAn.own W S [.slice a0 x.1.1.length c0, .slice b0 x.1.2.length d0, .slice a1 x.2.1.length c1, .int .i64 x.2.2.1, .int .i64 x.2.2.2.1, .int .i64 x.2.2.2.2.1.1, .int .i64 x.2.2.2.2.1.2.1, .slice a4 x.2.2.2.2.1.2.2.length c4, .slice a5 x.2.2.2.2.2.length c5] x) := fun W hb => zAn.own_keep ho (zAh hb)
 have HSS : Hid (∀ k, S k → k < w.heap.size) := hS
 have HIN : Hid _ := And.intro i2 i3
 have HOW : Hid _ := And.intro o0 (And.intro o1 (And.intro o5 (And.intro sb0 (And.intro sb1 (And.intro sb5 (And.intro d01 (And.intro d05 d15)))))))
 clear ho hS r0 o0 o1 o4 o5 sb0 sb1 sb4 sb5 d01 d04 d05 d14 d15 d45 i2 i3 ih1 ih2
 obtain ⟨y9, hy9⟩ : ∃ y9, y9 = ackX x k := ⟨_, rfl⟩
 obtain ⟨k9, hk9⟩ : ∃ k9, k9 = ackK x k := ⟨_, rfl⟩
 obtain ⟨l9, hl9⟩ : ∃ l9 : List zB5, l9 = [] := ⟨_, rfl⟩
 rw [← hy9, ← hk9, ← hl9]
 have HYK : Hid _ := And.intro hy9 (And.intro hk9 hl9)
 clear hy9 hk9 hl9
 obtain ⟨c, p, at_, ph, h, t⟩ := x
 simp only at *
 rw [show zAM [.slice a0 c.1.length c0, .slice b0 c.2.length d0, .slice a1 p.length c1, .int .i64 at_, .int .i64 ph, .int .i64 h.1, .int .i64 h.2.1, .slice a4 h.2.2.length c4, .slice a5 t.length c5] = .agg #[.slice a0 c.1.length c0, .slice b0 c.2.length d0, .slice a1 p.length c1, .int .i64 at_, .int .i64 ph, .int .i64 h.1, .int .i64 h.2.1, .slice a4 h.2.2.length c4, .slice a5 t.length c5] from rfl]
 have B := Below.refl w.heap.size w
 by_cases hc : ph = 1 ∧ h.1 = k
 ·obtain ⟨hc1, hc2⟩ := hc
  have hy : (c, p, at_, 0, zAA, t) = y9 := by rw [HYK.out.1]; unfold ackX; rw [if_pos ⟨hc1, hc2⟩]
  have hy2 : (1 : Int) = k9 := by rw [HYK.out.2.1]; unfold ackK; rw [if_pos ⟨hc1, hc2⟩]
  have HEND : Hid _ := And.intro hy (And.intro hy2 HYK.out.2.2.symm)
  have z1 : (ph != 1) = false := by simp [hc1]
  have z2 : (h.1 != k) = false := by simp [hc2]
  clear hy hy2 HYK HSL hc1 hc2
  go_enter Tryz.func74, Tryz.ntmps74
  go_upto_region 1 with fail
  generalize hu1w : w.alloc _ = u1w
  have X := boxH hu1w
  have bz := boxB hu1w
  have zX := boxL hu1w
  clear hu1w
  replace B := zAb B bz
  clear bz
  have zXa := Nat.le_of_eq zX
  have zXb := Nat.le_of_eq zX.symm
  clear zX
  generalize hu2w : u1w.alloc _ = u2w
  have R := boxH hu2w
  have bz := boxB hu2w
  have zR := boxL hu2w
  clear hu2w
  rw [show u1w.heap.size = w.heap.size + 1 from by omega] at R
  replace B := zAb B bz
  replace X := zAa bz X
  clear bz
  have zRa := Nat.le_of_eq zR
  have zRb := Nat.le_of_eq zR.symm
  clear zR
  obtain ⟨Xc0, Xc1, Xc2, Xc3, Xc4, Xc5, Xc6, Xc7, Xc8⟩ := zAc X
  have Xlt := (Array.getElem?_eq_some_iff.1 X).1
  obtain ⟨Rc0, Rc1, Rc2, Rc3, Rc4, Rc5, Rc6, Rc7, Rc8⟩ := zAc R
  have Rlt := (Array.getElem?_eq_some_iff.1 R).1
  go_wp2_with fail
  clear Xc0 Xc1 Xc2 Xc3 Xc4 Xc5 Xc6 Xc7 Xc8 Xlt Rc0 Rc1 Rc2 Rc3 Rc4 Rc5 Rc6 Rc7 Rc8 Rlt
  refine (zHH _).mono ?_
  rintro e u3w ⟨us, rfl, mm⟩
  obtain ⟨na, nc, e9, -, -, -, -, -⟩ := zAL (zAS.own_rd mm.1)
  obtain rfl : us = [.int .i64 (-1), .int .i64 0, .slice na 0 nc] := e9
  rw [show zAM [.int .i64 (-1), .int .i64 0, .slice na 0 nc] = .agg #[.int .i64 (-1), .int .i64 0, .slice na 0 nc] from rfl]
  have N := zAR (R := zAS) mm
  have mb := mm.2
  have tu3w : u2w.heap.size ≤ u3w.heap.size := mb.size
  replace B := zAb B mb
  replace X := zAa mb X
  replace R := zAa mb R
  clear mb mm
  obtain ⟨Xc0, Xc1, Xc2, Xc3, Xc4, Xc5, Xc6, Xc7, Xc8⟩ := zAc X
  have Xlt := (Array.getElem?_eq_some_iff.1 X).1
  obtain ⟨Xf0, Xf1, Xf2, Xf3, Xf4, Xf5, Xf6, Xf7, Xf8⟩ := zAr X
  obtain ⟨Rc0, Rc1, Rc2, Rc3, Rc4, Rc5, Rc6, Rc7, Rc8⟩ := zAc R
  have Rlt := (Array.getElem?_eq_some_iff.1 R).1
  go_upto_region 4 with fail
  clear Xc0 Xc1 Xc2 Xc3 Xc4 Xc5 Xc6 Xc7 Xc8 Xlt Xf0 Xf1 Xf2 Xf3 Xf4 Xf5 Xf6 Xf7 Xf8 Rc0 Rc1 Rc2 Rc3 Rc4 Rc5 Rc6 Rc7 Rc8 Rlt
  rw [show ((((u3w.setCell ⟨w.heap.size, 4, none⟩ (.int .i64 0)).setCell ⟨w.heap.size, 5, none⟩ (.int .i64 (-1))).setCell ⟨w.heap.size, 6, none⟩ (.int .i64 0)).setCell ⟨w.heap.size, 7, none⟩ (.slice na 0 nc)) = (zAo u3w (w.heap.size) 4 [.int .i64 0, .int .i64 (-1), .int .i64 0, .slice na 0 nc]) from rfl]
  replace R := zAk (g := w.heap.size) (o := 4) (vs := [.int .i64 0, .int .i64 (-1), .int .i64 0, .slice na 0 nc]) R (by omega)
  replace N := zAw (g := w.heap.size) (o := 4) (vs := [.int .i64 0, .int .i64 (-1), .int .i64 0, .slice na 0 nc]) N (by omega)
  replace B := zAv (g := w.heap.size) (o := 4) (vs := [.int .i64 0, .int .i64 (-1), .int .i64 0, .slice na 0 nc]) B (by omega)
  replace X : (zAo u3w (w.heap.size) 4 [.int .i64 0, .int .i64 (-1), .int .i64 0, .slice na 0 nc]).heap[w.heap.size]? = some (.cells #[.slice a0 c.1.length c0, .slice b0 c.2.length d0, .slice a1 p.length c1, .int .i64 at_, .int .i64 0, .int .i64 (-1), .int .i64 0, .slice na 0 nc, .slice a5 t.length c5] 41 (0, 0)) := zAC _ _ X
  have tu4w := Nat.le_of_eq (zAj (g := w.heap.size) [.int .i64 0, .int .i64 (-1), .int .i64 0, .slice na 0 nc] 4 u3w)
  have qu4w := Nat.le_of_eq (zAj (g := w.heap.size) [.int .i64 0, .int .i64 (-1), .int .i64 0, .slice na 0 nc] 4 u3w).symm
  generalize (zAo u3w (w.heap.size) 4 [.int .i64 0, .int .i64 (-1), .int .i64 0, .slice na 0 nc]) = u4w at B X R N tu4w qu4w ⊢
  have hNs := N.2
  obtain ⟨Xc0, Xc1, Xc2, Xc3, Xc4, Xc5, Xc6, Xc7, Xc8⟩ := zAc X
  have Xlt := (Array.getElem?_eq_some_iff.1 X).1
  obtain ⟨Rc0, Rc1, Rc2, Rc3, Rc4, Rc5, Rc6, Rc7, Rc8⟩ := zAc R
  have Rlt := (Array.getElem?_eq_some_iff.1 R).1
  obtain ⟨Rf0, Rf1, Rf2, Rf3, Rf4, Rf5, Rf6, Rf7, Rf8⟩ := zAr R
  have HK : Hid _ := And.intro B (And.intro X (And.intro R (N)))
  clear B X R N
  go_wp2
  clear Xc0 Xc1 Xc2 Xc3 Xc4 Xc5 Xc6 Xc7 Xc8 Xlt Rc0 Rc1 Rc2 Rc3 Rc4 Rc5 Rc6 Rc7 Rc8 Rlt Rf0 Rf1 Rf2 Rf3 Rf4 Rf5 Rf6 Rf7 Rf8
  obtain ⟨B, X, R, N⟩ := HK.out
  clear HK
  have V2 := zAa (zAf _ (.cells #[] 46)) (zAV (y0 := .slice a0 c.1.length c0) (y1 := .slice b0 c.2.length d0) (y2 := .slice a1 p.length c1) (y3 := .int .i64 at_) (y4 := .int .i64 0) (y5 := .int .i64 (-1)) (y6 := .int .i64 0) (y7 := .slice na 0 nc) (y8 := .slice a5 t.length c5) R)
  obtain ⟨r0, r1, r2, r3, r4, r5, r6, r7, r8⟩ := zAc V2
  have bsz := B.size
  have FQ := zJ5 (S := S) (T := fun k => S k ∨ rng (u2w.heap.size) (u3w.heap.size) k) (k := 1) (r := w.heap.size + 1) (vs := [.slice a0 c.1.length c0, .slice b0 c.2.length d0, .slice a1 p.length c1, .int .i64 at_, .int .i64 0, .int .i64 (-1), .int .i64 0, .slice na 0 nc, .slice a5 t.length c5]) (zA9 B) (zCo (x := (c, p, at_, 0, zAA, t)) (S := fun k => S k ∨ rng (u2w.heap.size) (u3w.heap.size) k) HIN.out.1 (show zBk 0 by constructor <;> decide) (zAB.own_keep HOW.out.1 (zAh B)) (zBX.own_keep HOW.out.2.1 (zAh B)) N.1 (zA5.own_keep HOW.out.2.2.1 (zAh B)) (fun k q => .inl (HOW.out.2.2.2.1 k q)) (fun k q => .inl (HOW.out.2.2.2.2.1 k q)) (fun k q => .inr q) (fun k q => .inl (HOW.out.2.2.2.2.2.1 k q)) HOW.out.2.2.2.2.2.2.1 (fun k a b => by have := HSS.out _ (HOW.out.2.2.2.1 k a); have := b.1; omega) HOW.out.2.2.2.2.2.2.2.1 (fun k a b => by have := HSS.out _ (HOW.out.2.2.2.2.1 k a); have := b.1; omega) HOW.out.2.2.2.2.2.2.2.2 (fun k a b => by have := HSS.out _ (HOW.out.2.2.2.2.2.1 k b); have := a.1; omega)) (fun j q => by rcases q with q | q; exact ⟨.inl q, by have := HSS.out j q; omega⟩; exact ⟨.inr (by have := q.1; omega), by have := q.2; omega⟩) (by omega) (fun q => by rcases q with q | q; (have := HSS.out _ q; omega); (have := q.1; omega))
  simp only [zA0, zA3, Nat.reduceAdd] at FQ
  clear B X R N V2
  obtain ⟨e1, e2, e3⟩ := HEND.out
  rw [e1, e3] at FQ
  subst e2
  exact bodyPost_ret (v := .tuple #[.agg #[.slice a0 c.1.length c0, .slice b0 c.2.length d0, .slice a1 p.length c1, .int .i64 at_, .int .i64 0, .int .i64 (-1), .int .i64 0, .slice na 0 nc, .slice a5 t.length c5], .slice (some ⟨u4w.heap.size, 0, none⟩) 0 0, .int .i64 1]) (by simp [results, Tryz.results74, go_sem, r0, r1, r2, r3, r4, r5, r6, r7, r8]) rfl FQ
 ·have hy : (c, p, at_, ph, h, t) = y9 := by rw [HYK.out.1]; unfold ackX; rw [if_neg hc]
  have hy2 : (0 : Int) = k9 := by rw [HYK.out.2.1]; unfold ackK; rw [if_neg hc]
  have HEND : Hid _ := And.intro hy (And.intro hy2 HYK.out.2.2.symm)
  clear hy hy2 HYK
  by_cases hz : ph = 1
  ·have z1 : (ph != 1) = false := by simp [hz]
   have z2 : (h.1 != k) = true := by simp; exact fun q => hc ⟨hz, q⟩
   clear hc hz
   go_enter Tryz.func74, Tryz.ntmps74
   go_upto_region 1 with fail
   generalize hu5w : w.alloc _ = u5w
   have X := boxH hu5w
   have bz := boxB hu5w
   have zX := boxL hu5w
   clear hu5w
   replace B := zAb B bz
   clear bz
   have zXa := Nat.le_of_eq zX
   have zXb := Nat.le_of_eq zX.symm
   clear zX
   generalize hu6w : u5w.alloc _ = u6w
   have R := boxH hu6w
   have bz := boxB hu6w
   have zR := boxL hu6w
   clear hu6w
   rw [show u5w.heap.size = w.heap.size + 1 from by omega] at R
   replace B := zAb B bz
   replace X := zAa bz X
   clear bz
   have zRa := Nat.le_of_eq zR
   have zRb := Nat.le_of_eq zR.symm
   clear zR
   obtain ⟨Xc0, Xc1, Xc2, Xc3, Xc4, Xc5, Xc6, Xc7, Xc8⟩ := zAc X
   have Xlt := (Array.getElem?_eq_some_iff.1 X).1
   obtain ⟨Rc0, Rc1, Rc2, Rc3, Rc4, Rc5, Rc6, Rc7, Rc8⟩ := zAc R
   have Rlt := (Array.getElem?_eq_some_iff.1 R).1
   go_wp2_with fail
   clear Xc0 Xc1 Xc2 Xc3 Xc4 Xc5 Xc6 Xc7 Xc8 Xlt Rc0 Rc1 Rc2 Rc3 Rc4 Rc5 Rc6 Rc7 Rc8 Rlt
   have hst := HSL.out [.slice a0 c.1.length c0, .slice b0 c.2.length d0, .slice a1 p.length c1, .int .i64 at_, .int .i64 ph, .int .i64 h.1, .int .i64 h.2.1, .slice a4 h.2.2.length c4, .slice a5 t.length c5] _ B (HO.out _ B)
   obtain ⟨n0, hn0⟩ : ∃ n0 : zAE, n0 = (c, p, at_, ph, h, t) := ⟨_, rfl⟩
   obtain ⟨m0, hm0⟩ : ∃ m0 : List zB5, m0 = [] := ⟨_, rfl⟩
   obtain ⟨k0, hk0⟩ : ∃ k0 : Int, k0 = 0 := ⟨_, rfl⟩
   rw [← hn0, ← hm0, ← hk0] at hst
   obtain ⟨e1, e2, e3⟩ := HEND.out
   have f1 := hn0.trans e1
   have f2 := hm0.trans e3
   have f3 := hk0.trans e2
   subst f1
   subst f2
   subst f3
   clear e1 e2 e3
   clear hn0 hm0 hk0
   refine (hst).mono ?_
   rintro e wd hq
   obtain ⟨d0, d1, d2, d3, d4, d5, d6, d7, d8, d9, sa, sc, rfl, DO, DC⟩ := zCa hq
   clear hq
   have szd := DC.size
   have bsz := B.size
   have R2 := (DC.block _ (Array.getElem?_eq_some_iff.1 R).1 (fun q => by have := HSS.out _ q; omega)).trans R
   obtain ⟨z0, z1, z2, z3, z4, z5, z6, z7, z8⟩ := zAc R2
   obtain ⟨zf0, zf1, zf2, zf3, zf4, zf5, zf6, zf7, zf8⟩ := zAr R2
   have zlt := (Array.getElem?_eq_some_iff.1 R2).1
   have rlt := (Array.getElem?_eq_some_iff.1 R).1
   have HZ : Hid _ := And.intro DO (And.intro DC (And.intro R2 B))
   clear DO DC R2 B X R
   go_wp2
   obtain ⟨DO, DC, R2, B⟩ := HZ.out
   obtain ⟨r0, r1, r2, r3, r4, r5, r6, r7, r8⟩ := zAc (zAV (y0 := .slice d0 n0.1.1.length d1) (y1 := .slice d2 n0.1.2.length d3) (y2 := .slice d4 n0.2.1.length d5) (y3 := .int .i64 n0.2.2.1) (y4 := .int .i64 n0.2.2.2.1) (y5 := .int .i64 n0.2.2.2.2.1.1) (y6 := .int .i64 n0.2.2.2.2.1.2.1) (y7 := .slice d6 n0.2.2.2.2.1.2.2.length d7) (y8 := .slice d8 n0.2.2.2.2.2.length d9) R2)
   have FQ := zCg (vs := [.slice d0 n0.1.1.length d1, .slice d2 n0.1.2.length d3, .slice d4 n0.2.1.length d5, .int .i64 n0.2.2.1, .int .i64 n0.2.2.2.1, .int .i64 n0.2.2.2.2.1.1, .int .i64 n0.2.2.2.2.1.2.1, .slice d6 n0.2.2.2.2.1.2.2.length d7, .slice d8 n0.2.2.2.2.2.length d9]) (k := k0) (r := w.heap.size + 1) (zA9 (S := S) B) (fun j q => .inl q) rfl DO (fun j q => by have := HSS.out _ q; omega) DC (by omega) rlt (fun q => by have := HSS.out _ q; omega)
   simp only [zA0, zA3, Nat.reduceAdd] at FQ
   clear DO DC R2 B HZ
   exact bodyPost_ret (v := .tuple #[.agg #[.slice d0 n0.1.1.length d1, .slice d2 n0.1.2.length d3, .slice d4 n0.2.1.length d5, .int .i64 n0.2.2.1, .int .i64 n0.2.2.2.1, .int .i64 n0.2.2.2.2.1.1, .int .i64 n0.2.2.2.2.1.2.1, .slice d6 n0.2.2.2.2.1.2.2.length d7, .slice d8 n0.2.2.2.2.2.length d9], .slice sa m0.length sc, .int .i64 k0]) (by simp [results, Tryz.results74, go_sem, r0, r1, r2, r3, r4, r5, r6, r7, r8]) rfl FQ
  ·have z1 : (ph != 1) = true := by simp [hz]
   clear hc hz
   go_enter Tryz.func74, Tryz.ntmps74
   go_upto_region 1 with fail
   generalize hu7w : w.alloc _ = u7w
   have X := boxH hu7w
   have bz := boxB hu7w
   have zX := boxL hu7w
   clear hu7w
   replace B := zAb B bz
   clear bz
   have zXa := Nat.le_of_eq zX
   have zXb := Nat.le_of_eq zX.symm
   clear zX
   generalize hu8w : u7w.alloc _ = u8w
   have R := boxH hu8w
   have bz := boxB hu8w
   have zR := boxL hu8w
   clear hu8w
   rw [show u7w.heap.size = w.heap.size + 1 from by omega] at R
   replace B := zAb B bz
   replace X := zAa bz X
   clear bz
   have zRa := Nat.le_of_eq zR
   have zRb := Nat.le_of_eq zR.symm
   clear zR
   obtain ⟨Xc0, Xc1, Xc2, Xc3, Xc4, Xc5, Xc6, Xc7, Xc8⟩ := zAc X
   have Xlt := (Array.getElem?_eq_some_iff.1 X).1
   obtain ⟨Rc0, Rc1, Rc2, Rc3, Rc4, Rc5, Rc6, Rc7, Rc8⟩ := zAc R
   have Rlt := (Array.getElem?_eq_some_iff.1 R).1
   go_wp2_with fail
   clear Xc0 Xc1 Xc2 Xc3 Xc4 Xc5 Xc6 Xc7 Xc8 Xlt Rc0 Rc1 Rc2 Rc3 Rc4 Rc5 Rc6 Rc7 Rc8 Rlt
   have hst := HSL.out [.slice a0 c.1.length c0, .slice b0 c.2.length d0, .slice a1 p.length c1, .int .i64 at_, .int .i64 ph, .int .i64 h.1, .int .i64 h.2.1, .slice a4 h.2.2.length c4, .slice a5 t.length c5] _ B (HO.out _ B)
   obtain ⟨n0, hn0⟩ : ∃ n0 : zAE, n0 = (c, p, at_, ph, h, t) := ⟨_, rfl⟩
   obtain ⟨m0, hm0⟩ : ∃ m0 : List zB5, m0 = [] := ⟨_, rfl⟩
   obtain ⟨k0, hk0⟩ : ∃ k0 : Int, k0 = 0 := ⟨_, rfl⟩
   rw [← hn0, ← hm0, ← hk0] at hst
   obtain ⟨e1, e2, e3⟩ := HEND.out
   have f1 := hn0.trans e1
   have f2 := hm0.trans e3
   have f3 := hk0.trans e2
   subst f1
   subst f2
   subst f3
   clear e1 e2 e3
   clear hn0 hm0 hk0
   refine (hst).mono ?_
   rintro e wd hq
   obtain ⟨d0, d1, d2, d3, d4, d5, d6, d7, d8, d9, sa, sc, rfl, DO, DC⟩ := zCa hq
   clear hq
   have szd := DC.size
   have bsz := B.size
   have R2 := (DC.block _ (Array.getElem?_eq_some_iff.1 R).1 (fun q => by have := HSS.out _ q; omega)).trans R
   obtain ⟨z0, z1, z2, z3, z4, z5, z6, z7, z8⟩ := zAc R2
   obtain ⟨zf0, zf1, zf2, zf3, zf4, zf5, zf6, zf7, zf8⟩ := zAr R2
   have zlt := (Array.getElem?_eq_some_iff.1 R2).1
   have rlt := (Array.getElem?_eq_some_iff.1 R).1
   have HZ : Hid _ := And.intro DO (And.intro DC (And.intro R2 B))
   clear DO DC R2 B X R
   go_wp2
   obtain ⟨DO, DC, R2, B⟩ := HZ.out
   obtain ⟨r0, r1, r2, r3, r4, r5, r6, r7, r8⟩ := zAc (zAV (y0 := .slice d0 n0.1.1.length d1) (y1 := .slice d2 n0.1.2.length d3) (y2 := .slice d4 n0.2.1.length d5) (y3 := .int .i64 n0.2.2.1) (y4 := .int .i64 n0.2.2.2.1) (y5 := .int .i64 n0.2.2.2.2.1.1) (y6 := .int .i64 n0.2.2.2.2.1.2.1) (y7 := .slice d6 n0.2.2.2.2.1.2.2.length d7) (y8 := .slice d8 n0.2.2.2.2.2.length d9) R2)
   have FQ := zCg (vs := [.slice d0 n0.1.1.length d1, .slice d2 n0.1.2.length d3, .slice d4 n0.2.1.length d5, .int .i64 n0.2.2.1, .int .i64 n0.2.2.2.1, .int .i64 n0.2.2.2.2.1.1, .int .i64 n0.2.2.2.2.1.2.1, .slice d6 n0.2.2.2.2.1.2.2.length d7, .slice d8 n0.2.2.2.2.2.length d9]) (k := k0) (r := w.heap.size + 1) (zA9 (S := S) B) (fun j q => .inl q) rfl DO (fun j q => by have := HSS.out _ q; omega) DC (by omega) rlt (fun q => by have := HSS.out _ q; omega)
   simp only [zA0, zA3, Nat.reduceAdd] at FQ
   clear DO DC R2 B HZ
   exact bodyPost_ret (v := .tuple #[.agg #[.slice d0 n0.1.1.length d1, .slice d2 n0.1.2.length d3, .slice d4 n0.2.1.length d5, .int .i64 n0.2.2.1, .int .i64 n0.2.2.2.1, .int .i64 n0.2.2.2.2.1.1, .int .i64 n0.2.2.2.2.1.2.1, .slice d6 n0.2.2.2.2.1.2.2.length d7, .slice d8 n0.2.2.2.2.2.length d9], .slice sa m0.length sc, .int .i64 k0]) (by simp [results, Tryz.results74, go_sem, r0, r1, r2, r3, r4, r5, r6, r7, r8]) rfl FQ
end Go.Proofs.YtoihjejenjcokaaGreatDoor
