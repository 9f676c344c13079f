import Derived.Test.YtoihjejenjcokaaGreatDoorP00Box
import Derived.Test.YtoihjejenjcokaaGreatDoorP33SpecAsk
namespace Go.Proofs.YtoihjejenjcokaaGreatDoor
set_option maxHeartbeats 8000000
set_option maxRecDepth 20000
open Go.ChangeShapes Go.WideShapes Go.ChangeAt Go.RowKit
set_option linter.unusedVariables false
def GtP (S : zAX) (g : Nat) (w : World) (y : zAE) (l : List zB5) (k : Int) (e : Ending) (w' : World) : Prop := ∃ ds ms, e = .returned (.tuple #[ms, .int .i64 k]) ∧ zAn.own w' (fun j => S j ∨ (w.heap.size ≤ j ∧ j < w'.heap.size)) ds y ∧ zBp.own w' (rng w.heap.size w'.heap.size) [ms] l ∧ w'.heap[g]? = some (.cells ds.toArray 41 (0, 0)) ∧ Chg (fun j => S j ∨ j = g) w w'
theorem zKD (S : zAX) (g : Nat) (cs ns : List Value) (x : zAE) (id : Int) (m : zB5) (w : World) (ho : zAn.own w S cs x) (hS : ∀ k, S k → k < w.heap.size) (hg : ¬ S g) (hbox : w.heap[g]? = some (.cells cs.toArray 41 (0, 0))) (hm : zBy.rd w ns m) (h6 : ¬ m.2.2.2.1 = 6) (h7 : ¬ m.2.2.2.1 = 7) (h12 : ¬ m.2.2.2.1 = 12) (h11 : ¬ m.2.2.2.1 = 11) :
    Calls Tryz.prog 25 #[.pointer (some ⟨g, 0, none⟩), .int .i64 id, zAM ns] w fun e w' => GtP S g w x [] 0 e w' := by
 obtain ⟨ma, mc, rfl, im0, im1, im2, im3, im4, im6, -, -, -⟩ := zBB hm
 obtain ⟨v0, v1, v2, v5, v6, v7, v8, S0, S1, S4, S5, rfl, i2, i3, o0, o1, o4, o5, sb0, sb1, sb4, sb5, d01, d04, d05, d14, d15, d45⟩ := zBd ho
 have r0 := zAB.own_rd o0
 obtain ⟨a0, c0, b0, d0, e0, -⟩ := zAH r0
 simp only [List.cons.injEq, and_true] at e0
 obtain ⟨rfl, rfl⟩ := e0
 obtain ⟨a1, c1, e1, -⟩ := zBX.own_rd o1
 simp only [List.cons.injEq, and_true] at e1
 obtain rfl := e1
 have r4 := zAS.own_rd o4
 obtain ⟨a4, c4, e4, ih1, ih2, -, -, q4⟩ := zAL r4
 simp only [List.cons.injEq, and_true] at e4
 obtain ⟨rfl, rfl, rfl⟩ := e4
 obtain ⟨a5, c5, e5, -⟩ := zA5.own_rd o5
 simp only [List.cons.injEq, and_true] at e5
 obtain rfl := e5
 have HO : Hid (∀ W, Below w.heap.size w W → zAn.own W S [.slice a0 x.1.1.length c0, .slice b0 x.1.2.length d0, .slice a1 x.2.1.length c1, .int .i64 x.2.2.1, .int .i64 x.2.2.2.1, .int .i64 x.2.2.2.2.1.1, .int .i64 x.2.2.2.2.1.2.1, .slice a4 x.2.2.2.2.1.2.2.length c4, .slice a5 x.2.2.2.2.2.length c5] x) := fun W hb => zAn.own_keep ho (zAh hb)
 have HSS : Hid _ := And.intro hS hg
 have G : w.heap[g]? = some (.cells #[.slice a0 x.1.1.length c0, .slice b0 x.1.2.length d0, .slice a1 x.2.1.length c1, .int .i64 x.2.2.1, .int .i64 x.2.2.2.1, .int .i64 x.2.2.2.2.1.1, .int .i64 x.2.2.2.2.1.2.1, .slice a4 x.2.2.2.2.1.2.2.length c4, .slice a5 x.2.2.2.2.2.length c5] 41 (0, 0)) := hbox
 have gl := (Array.getElem?_eq_some_iff.1 G).1
 obtain ⟨c, p, at_, ph, h, t⟩ := x
 simp only at *
 clear ho hS hg r0 r4 q4 o0 o1 o4 o5 sb0 sb1 sb4 sb5 d01 d04 d05 d14 d15 d45 i2 i3 ih1 ih2 hm hbox im0 im1 im2 im3 im4 im6 
 have z6 : (m.2.2.2.1 == 6) = false := by simp [h6]
 have z7 : (m.2.2.2.1 == 7) = false := by simp [h7]
 have z12 : (m.2.2.2.1 == 12) = false := by simp [h12]
 have z11 : (m.2.2.2.1 == 11) = false := by simp [h11]
 clear h6 h7 h12 h11
 rw [show zAM [.int .i64 m.1, .int .i64 m.2.1, .int .i64 m.2.2.1, .int .i64 m.2.2.2.1, .int .i64 m.2.2.2.2.1, .slice ma m.2.2.2.2.2.1.length mc, .int .i64 m.2.2.2.2.2.2] = .agg #[.int .i64 m.1, .int .i64 m.2.1, .int .i64 m.2.2.1, .int .i64 m.2.2.2.1, .int .i64 m.2.2.2.2.1, .slice ma m.2.2.2.2.2.1.length mc, .int .i64 m.2.2.2.2.2.2] from rfl]
 have B := Below.refl w.heap.size w
 go_enter Tryz.func25, Tryz.ntmps25
 go_upto_region 1 with fail
 generalize hu1w : w.alloc _ = u1w
 have N := boxH hu1w
 have bz := boxB hu1w
 have zN := boxL hu1w
 clear hu1w
 replace B := zAb B bz
 replace G := zAa bz G
 clear bz
 have zNa := Nat.le_of_eq zN
 have zNb := Nat.le_of_eq zN.symm
 clear zN
 obtain ⟨Gc0, Gc1, Gc2, Gc3, Gc4, Gc5, Gc6, Gc7, Gc8⟩ := zAc G
 have Glt := (Array.getElem?_eq_some_iff.1 G).1
 obtain ⟨Nc0, Nc1, Nc2, Nc3, Nc4, Nc5, Nc6⟩ := zAe N
 have Nlt := (Array.getElem?_eq_some_iff.1 N).1
 go_upto_region 2 with fail
 clear Gc0 Gc1 Gc2 Gc3 Gc4 Gc5 Gc6 Gc7 Gc8 Glt Nc0 Nc1 Nc2 Nc3 Nc4 Nc5 Nc6 Nlt
 have Zo : zCp zBp (w.heap.size + 1) (w.heap.size + 1 + 1) (u1w.alloc (.cells #[] 46)) [.slice (some ⟨w.heap.size + 1, 0, none⟩) 0 0] [] := by
  have q := zC3 (e := 46) (R := zBy) u1w
  rw [show u1w.heap.size = w.heap.size + 1 from by omega] at q
  exact And.intro (zBp.own_mono q (fun k z => by have z2 : k = w.heap.size + 1 := z; exact ⟨by omega, by omega⟩)) (by rw [zAp]; omega)
 have bz := zAf u1w (.cells #[] 46)
 have zz := zAp u1w (.cells #[] 46)
 replace B := zAb B bz
 replace G := zAa bz G
 replace N := zAa bz N
 clear bz
 generalize u1w.alloc (.cells #[] 46) = u2w at B G N Zo zz ⊢
 have zza := Nat.le_of_eq zz
 have zzb := Nat.le_of_eq zz.symm
 clear zz
 obtain ⟨Gc0, Gc1, Gc2, Gc3, Gc4, Gc5, Gc6, Gc7, Gc8⟩ := zAc G
 have Glt := (Array.getElem?_eq_some_iff.1 G).1
 obtain ⟨Nc0, Nc1, Nc2, Nc3, Nc4, Nc5, Nc6⟩ := zAe N
 have Nlt := (Array.getElem?_eq_some_iff.1 N).1
 have HK : Hid _ := And.intro B (And.intro G (And.intro N (Zo)))
 clear B G N Zo
 go_wp2
 clear Gc0 Gc1 Gc2 Gc3 Gc4 Gc5 Gc6 Gc7 Gc8 Glt Nc0 Nc1 Nc2 Nc3 Nc4 Nc5 Nc6 Nlt
 obtain ⟨B, G, N, Zo⟩ := HK.out
 clear HK
 have bsz := B.size
 have zs := Zo.2
 refine bodyPost_ret (v := .tuple #[.slice (some ⟨w.heap.size + 1, 0, none⟩) 0 0, .int .i64 0]) (by simp [results, Tryz.results25, go_sem]) rfl ?_
 exact ⟨[.slice a0 c.1.length c0, .slice b0 c.2.length d0, .slice a1 p.length c1, .int .i64 at_, .int .i64 ph, .int .i64 h.1, .int .i64 h.2.1, .slice a4 h.2.2.length c4, .slice a5 t.length c5], _, rfl, zAn.own_mono (HO.out _ B) (fun k q => .inl q), zBp.own_mono Zo.1 (fun k q => ⟨by have := q.1; omega, by have := q.2; omega⟩), G, zII B⟩
theorem zKE (S : zAX) (g : Nat) (cs ns : List Value) (x : zAE) (id : Int) (m : zB5) (w : World) (ho : zAn.own w S cs x) (hS : ∀ k, S k → k < w.heap.size) (hg : ¬ S g) (hbox : w.heap[g]? = some (.cells cs.toArray 41 (0, 0))) (hm : zBy.rd w ns m) (hkd : m.2.2.2.1 = 6) (hb : zAQ m.2.2.2.2.1 0 15 = false) :
    Calls Tryz.prog 25 #[.pointer (some ⟨g, 0, none⟩), .int .i64 id, zAM ns] w fun e w' => GtP S g w x [] 0 e w' := by
 obtain ⟨ma, mc, rfl, im0, im1, im2, im3, im4, im6, -, -, -⟩ := zBB hm
 obtain ⟨v0, v1, v2, v5, v6, v7, v8, S0, S1, S4, S5, rfl, i2, i3, o0, o1, o4, o5, sb0, sb1, sb4, sb5, d01, d04, d05, d14, d15, d45⟩ := zBd ho
 have r0 := zAB.own_rd o0
 obtain ⟨a0, c0, b0, d0, e0, -⟩ := zAH r0
 simp only [List.cons.injEq, and_true] at e0
 obtain ⟨rfl, rfl⟩ := e0
 obtain ⟨a1, c1, e1, -⟩ := zBX.own_rd o1
 simp only [List.cons.injEq, and_true] at e1
 obtain rfl := e1
 have r4 := zAS.own_rd o4
 obtain ⟨a4, c4, e4, ih1, ih2, -, -, q4⟩ := zAL r4
 simp only [List.cons.injEq, and_true] at e4
 obtain ⟨rfl, rfl, rfl⟩ := e4
 obtain ⟨a5, c5, e5, -⟩ := zA5.own_rd o5
 simp only [List.cons.injEq, and_true] at e5
 obtain rfl := e5
 have HO : Hid (∀ W, Below w.heap.size w W → zAn.own W S [.slice a0 x.1.1.length c0, .slice b0 x.1.2.length d0, .slice a1 x.2.1.length c1, .int .i64 x.2.2.1, .int .i64 x.2.2.2.1, .int .i64 x.2.2.2.2.1.1, .int .i64 x.2.2.2.2.1.2.1, .slice a4 x.2.2.2.2.1.2.2.length c4, .slice a5 x.2.2.2.2.2.length c5] x) := fun W hb => zAn.own_keep ho (zAh hb)
 have HSS : Hid _ := And.intro hS hg
 have G : w.heap[g]? = some (.cells #[.slice a0 x.1.1.length c0, .slice b0 x.1.2.length d0, .slice a1 x.2.1.length c1, .int .i64 x.2.2.1, .int .i64 x.2.2.2.1, .int .i64 x.2.2.2.2.1.1, .int .i64 x.2.2.2.2.1.2.1, .slice a4 x.2.2.2.2.1.2.2.length c4, .slice a5 x.2.2.2.2.2.length c5] 41 (0, 0)) := hbox
 have gl := (Array.getElem?_eq_some_iff.1 G).1
 have HIN : Hid (∀ W, Calls Tryz.prog 23 #[.int .i64 m.2.2.2.2.1, .int .i64 0, .int .i64 15] W fun e w' => e = .returned (.bool false) ∧ Below W.heap.size W w') := fun W => (zBa m.2.2.2.2.1 0 15 W).mono fun e w' ⟨q, r⟩ => ⟨by rw [q, hb], zFj r⟩
 obtain ⟨c, p, at_, ph, h, t⟩ := x
 simp only at *
 clear ho hS hg r0 r4 q4 o0 o1 o4 o5 sb0 sb1 sb4 sb5 d01 d04 d05 d14 d15 d45 i2 i3 ih1 ih2 hm hbox im0 im1 im2 im3 im4 im6 hb
 have z6 : (m.2.2.2.1 == 6) = true := by simp [hkd]
 clear hkd
 rw [show zAM [.int .i64 m.1, .int .i64 m.2.1, .int .i64 m.2.2.1, .int .i64 m.2.2.2.1, .int .i64 m.2.2.2.2.1, .slice ma m.2.2.2.2.2.1.length mc, .int .i64 m.2.2.2.2.2.2] = .agg #[.int .i64 m.1, .int .i64 m.2.1, .int .i64 m.2.2.1, .int .i64 m.2.2.2.1, .int .i64 m.2.2.2.2.1, .slice ma m.2.2.2.2.2.1.length mc, .int .i64 m.2.2.2.2.2.2] from rfl]
 have B := Below.refl w.heap.size w
 go_enter Tryz.func25, Tryz.ntmps25
 go_upto_region 1 with fail
 generalize hu1w : w.alloc _ = u1w
 have N := boxH hu1w
 have bz := boxB hu1w
 have zN := boxL hu1w
 clear hu1w
 replace B := zAb B bz
 replace G := zAa bz G
 clear bz
 have zNa := Nat.le_of_eq zN
 have zNb := Nat.le_of_eq zN.symm
 clear zN
 obtain ⟨Gc0, Gc1, Gc2, Gc3, Gc4, Gc5, Gc6, Gc7, Gc8⟩ := zAc G
 have Glt := (Array.getElem?_eq_some_iff.1 G).1
 obtain ⟨Nc0, Nc1, Nc2, Nc3, Nc4, Nc5, Nc6⟩ := zAe N
 have Nlt := (Array.getElem?_eq_some_iff.1 N).1
 go_upto_region 2 with fail
 clear Gc0 Gc1 Gc2 Gc3 Gc4 Gc5 Gc6 Gc7 Gc8 Glt Nc0 Nc1 Nc2 Nc3 Nc4 Nc5 Nc6 Nlt
 have Zo : zCp zBp (w.heap.size + 1) (w.heap.size + 1 + 1) (u1w.alloc (.cells #[] 46)) [.slice (some ⟨w.heap.size + 1, 0, none⟩) 0 0] [] := by
  have q := zC3 (e := 46) (R := zBy) u1w
  rw [show u1w.heap.size = w.heap.size + 1 from by omega] at q
  exact And.intro (zBp.own_mono q (fun k z => by have z2 : k = w.heap.size + 1 := z; exact ⟨by omega, by omega⟩)) (by rw [zAp]; omega)
 have bz := zAf u1w (.cells #[] 46)
 have zz := zAp u1w (.cells #[] 46)
 replace B := zAb B bz
 replace G := zAa bz G
 replace N := zAa bz N
 clear bz
 generalize u1w.alloc (.cells #[] 46) = u2w at B G N Zo zz ⊢
 have zza := Nat.le_of_eq zz
 have zzb := Nat.le_of_eq zz.symm
 clear zz
 obtain ⟨Gc0, Gc1, Gc2, Gc3, Gc4, Gc5, Gc6, Gc7, Gc8⟩ := zAc G
 have Glt := (Array.getElem?_eq_some_iff.1 G).1
 obtain ⟨Nc0, Nc1, Nc2, Nc3, Nc4, Nc5, Nc6⟩ := zAe N
 have Nlt := (Array.getElem?_eq_some_iff.1 N).1
 go_wp2_with fail
 clear Gc0 Gc1 Gc2 Gc3 Gc4 Gc5 Gc6 Gc7 Gc8 Glt Nc0 Nc1 Nc2 Nc3 Nc4 Nc5 Nc6 Nlt
 refine (HIN.out _).mono ?_
 rintro e u3w ⟨rfl, bq⟩
 have tu3w : u2w.heap.size ≤ u3w.heap.size := bq.size
 replace B := zAb B bq
 replace G := zAa bq G
 replace N := zAa bq N
 replace Zo := zA6 Zo bq
 clear bq
 obtain ⟨Gc0, Gc1, Gc2, Gc3, Gc4, Gc5, Gc6, Gc7, Gc8⟩ := zAc G
 have Glt := (Array.getElem?_eq_some_iff.1 G).1
 obtain ⟨Nc0, Nc1, Nc2, Nc3, Nc4, Nc5, Nc6⟩ := zAe N
 have Nlt := (Array.getElem?_eq_some_iff.1 N).1
 have HK : Hid _ := And.intro B (And.intro G (And.intro N (Zo)))
 clear B G N Zo
 go_wp2
 clear Gc0 Gc1 Gc2 Gc3 Gc4 Gc5 Gc6 Gc7 Gc8 Glt Nc0 Nc1 Nc2 Nc3 Nc4 Nc5 Nc6 Nlt
 obtain ⟨B, G, N, Zo⟩ := HK.out
 clear HK
 have bsz := B.size
 have zs := Zo.2
 refine bodyPost_ret (v := .tuple #[.slice (some ⟨w.heap.size + 1, 0, none⟩) 0 0, .int .i64 0]) (by simp [results, Tryz.results25, go_sem]) rfl ?_
 exact ⟨[.slice a0 c.1.length c0, .slice b0 c.2.length d0, .slice a1 p.length c1, .int .i64 at_, .int .i64 ph, .int .i64 h.1, .int .i64 h.2.1, .slice a4 h.2.2.length c4, .slice a5 t.length c5], _, rfl, zAn.own_mono (HO.out _ B) (fun k q => .inl q), zBp.own_mono Zo.1 (fun k q => ⟨by have := q.1; omega, by have := q.2; omega⟩), G, zII B⟩
theorem zKF (S : zAX) (g : Nat) (cs ns : List Value) (x : zAE) (id : Int) (m : zB5) (w : World) (ho : zAn.own w S cs x) (hS : ∀ k, S k → k < w.heap.size) (hg : ¬ S g) (hbox : w.heap[g]? = some (.cells cs.toArray 41 (0, 0))) (hm : zBy.rd w ns m) (hkd : m.2.2.2.1 = 7) (hb : zAQ m.2.2.2.2.1 0 15 = false) :
    Calls Tryz.prog 25 #[.pointer (some ⟨g, 0, none⟩), .int .i64 id, zAM ns] w fun e w' => GtP S g w x [] 0 e w' := by
 obtain ⟨ma, mc, rfl, im0, im1, im2, im3, im4, im6, -, -, -⟩ := zBB hm
 obtain ⟨v0, v1, v2, v5, v6, v7, v8, S0, S1, S4, S5, rfl, i2, i3, o0, o1, o4, o5, sb0, sb1, sb4, sb5, d01, d04, d05, d14, d15, d45⟩ := zBd ho
 have r0 := zAB.own_rd o0
 obtain ⟨a0, c0, b0, d0, e0, -⟩ := zAH r0
 simp only [List.cons.injEq, and_true] at e0
 obtain ⟨rfl, rfl⟩ := e0
 obtain ⟨a1, c1, e1, -⟩ := zBX.own_rd o1
 simp only [List.cons.injEq, and_true] at e1
 obtain rfl := e1
 have r4 := zAS.own_rd o4
 obtain ⟨a4, c4, e4, ih1, ih2, -, -, q4⟩ := zAL r4
 simp only [List.cons.injEq, and_true] at e4
 obtain ⟨rfl, rfl, rfl⟩ := e4
 obtain ⟨a5, c5, e5, -⟩ := zA5.own_rd o5
 simp only [List.cons.injEq, and_true] at e5
 obtain rfl := e5
 have HO : Hid (∀ W, Below w.heap.size w W → zAn.own W S [.slice a0 x.1.1.length c0, .slice b0 x.1.2.length d0, .slice a1 x.2.1.length c1, .int .i64 x.2.2.1, .int .i64 x.2.2.2.1, .int .i64 x.2.2.2.2.1.1, .int .i64 x.2.2.2.2.1.2.1, .slice a4 x.2.2.2.2.1.2.2.length c4, .slice a5 x.2.2.2.2.2.length c5] x) := fun W hb => zAn.own_keep ho (zAh hb)
 have HSS : Hid _ := And.intro hS hg
 have G : w.heap[g]? = some (.cells #[.slice a0 x.1.1.length c0, .slice b0 x.1.2.length d0, .slice a1 x.2.1.length c1, .int .i64 x.2.2.1, .int .i64 x.2.2.2.1, .int .i64 x.2.2.2.2.1.1, .int .i64 x.2.2.2.2.1.2.1, .slice a4 x.2.2.2.2.1.2.2.length c4, .slice a5 x.2.2.2.2.2.length c5] 41 (0, 0)) := hbox
 have gl := (Array.getElem?_eq_some_iff.1 G).1
 have HIN : Hid (∀ W, Calls Tryz.prog 23 #[.int .i64 m.2.2.2.2.1, .int .i64 0, .int .i64 15] W fun e w' => e = .returned (.bool false) ∧ Below W.heap.size W w') := fun W => (zBa m.2.2.2.2.1 0 15 W).mono fun e w' ⟨q, r⟩ => ⟨by rw [q, hb], zFj r⟩
 obtain ⟨c, p, at_, ph, h, t⟩ := x
 simp only at *
 clear ho hS hg r0 r4 q4 o0 o1 o4 o5 sb0 sb1 sb4 sb5 d01 d04 d05 d14 d15 d45 i2 i3 ih1 ih2 hm hbox im0 im1 im2 im3 im4 im6 hb
 have z6 : (m.2.2.2.1 == 6) = false := by simp [hkd]
 have z7 : (m.2.2.2.1 == 7) = true := by simp [hkd]
 clear hkd
 rw [show zAM [.int .i64 m.1, .int .i64 m.2.1, .int .i64 m.2.2.1, .int .i64 m.2.2.2.1, .int .i64 m.2.2.2.2.1, .slice ma m.2.2.2.2.2.1.length mc, .int .i64 m.2.2.2.2.2.2] = .agg #[.int .i64 m.1, .int .i64 m.2.1, .int .i64 m.2.2.1, .int .i64 m.2.2.2.1, .int .i64 m.2.2.2.2.1, .slice ma m.2.2.2.2.2.1.length mc, .int .i64 m.2.2.2.2.2.2] from rfl]
 have B := Below.refl w.heap.size w
 go_enter Tryz.func25, Tryz.ntmps25
 go_upto_region 1 with fail
 generalize hu1w : w.alloc _ = u1w
 have N := boxH hu1w
 have bz := boxB hu1w
 have zN := boxL hu1w
 clear hu1w
 replace B := zAb B bz
 replace G := zAa bz G
 clear bz
 have zNa := Nat.le_of_eq zN
 have zNb := Nat.le_of_eq zN.symm
 clear zN
 obtain ⟨Gc0, Gc1, Gc2, Gc3, Gc4, Gc5, Gc6, Gc7, Gc8⟩ := zAc G
 have Glt := (Array.getElem?_eq_some_iff.1 G).1
 obtain ⟨Nc0, Nc1, Nc2, Nc3, Nc4, Nc5, Nc6⟩ := zAe N
 have Nlt := (Array.getElem?_eq_some_iff.1 N).1
 go_upto_region 2 with fail
 clear Gc0 Gc1 Gc2 Gc3 Gc4 Gc5 Gc6 Gc7 Gc8 Glt Nc0 Nc1 Nc2 Nc3 Nc4 Nc5 Nc6 Nlt
 have Zo : zCp zBp (w.heap.size + 1) (w.heap.size + 1 + 1) (u1w.alloc (.cells #[] 46)) [.slice (some ⟨w.heap.size + 1, 0, none⟩) 0 0] [] := by
  have q := zC3 (e := 46) (R := zBy) u1w
  rw [show u1w.heap.size = w.heap.size + 1 from by omega] at q
  exact And.intro (zBp.own_mono q (fun k z => by have z2 : k = w.heap.size + 1 := z; exact ⟨by omega, by omega⟩)) (by rw [zAp]; omega)
 have bz := zAf u1w (.cells #[] 46)
 have zz := zAp u1w (.cells #[] 46)
 replace B := zAb B bz
 replace G := zAa bz G
 replace N := zAa bz N
 clear bz
 generalize u1w.alloc (.cells #[] 46) = u2w at B G N Zo zz ⊢
 have zza := Nat.le_of_eq zz
 have zzb := Nat.le_of_eq zz.symm
 clear zz
 obtain ⟨Gc0, Gc1, Gc2, Gc3, Gc4, Gc5, Gc6, Gc7, Gc8⟩ := zAc G
 have Glt := (Array.getElem?_eq_some_iff.1 G).1
 obtain ⟨Nc0, Nc1, Nc2, Nc3, Nc4, Nc5, Nc6⟩ := zAe N
 have Nlt := (Array.getElem?_eq_some_iff.1 N).1
 go_wp2_with fail
 clear Gc0 Gc1 Gc2 Gc3 Gc4 Gc5 Gc6 Gc7 Gc8 Glt Nc0 Nc1 Nc2 Nc3 Nc4 Nc5 Nc6 Nlt
 refine (HIN.out _).mono ?_
 rintro e u3w ⟨rfl, bq⟩
 have tu3w : u2w.heap.size ≤ u3w.heap.size := bq.size
 replace B := zAb B bq
 replace G := zAa bq G
 replace N := zAa bq N
 replace Zo := zA6 Zo bq
 clear bq
 obtain ⟨Gc0, Gc1, Gc2, Gc3, Gc4, Gc5, Gc6, Gc7, Gc8⟩ := zAc G
 have Glt := (Array.getElem?_eq_some_iff.1 G).1
 obtain ⟨Nc0, Nc1, Nc2, Nc3, Nc4, Nc5, Nc6⟩ := zAe N
 have Nlt := (Array.getElem?_eq_some_iff.1 N).1
 have HK : Hid _ := And.intro B (And.intro G (And.intro N (Zo)))
 clear B G N Zo
 go_wp2
 clear Gc0 Gc1 Gc2 Gc3 Gc4 Gc5 Gc6 Gc7 Gc8 Glt Nc0 Nc1 Nc2 Nc3 Nc4 Nc5 Nc6 Nlt
 obtain ⟨B, G, N, Zo⟩ := HK.out
 clear HK
 have bsz := B.size
 have zs := Zo.2
 refine bodyPost_ret (v := .tuple #[.slice (some ⟨w.heap.size + 1, 0, none⟩) 0 0, .int .i64 0]) (by simp [results, Tryz.results25, go_sem]) rfl ?_
 exact ⟨[.slice a0 c.1.length c0, .slice b0 c.2.length d0, .slice a1 p.length c1, .int .i64 at_, .int .i64 ph, .int .i64 h.1, .int .i64 h.2.1, .slice a4 h.2.2.length c4, .slice a5 t.length c5], _, rfl, zAn.own_mono (HO.out _ B) (fun k q => .inl q), zBp.own_mono Zo.1 (fun k q => ⟨by have := q.1; omega, by have := q.2; omega⟩), G, zII B⟩
theorem zFY (S : zAX) (g : Nat) (cs ns : List Value) (x : zAE) (id : Int) (m : zB5) (w : World) (ho : zAn.own w S cs x) (hS : ∀ k, S k → k < w.heap.size) (hg : ¬ S g) (hbox : w.heap[g]? = some (.cells cs.toArray 41 (0, 0))) (hm : zBy.rd w ns m) (hkd : m.2.2.2.1 = 12) (hno : ¬ x.2.2.2.1 = 1 ∨ ¬ x.2.2.2.2.1.1 = m.2.2.2.2.1) :
    Calls Tryz.prog 25 #[.pointer (some ⟨g, 0, none⟩), .int .i64 id, zAM ns] w fun e w' => GtP S g w x [] 0 e w' := by
 obtain ⟨ma, mc, rfl, im0, im1, im2, im3, im4, im6, -, -, -⟩ := zBB hm
 obtain ⟨v0, v1, v2, v5, v6, v7, v8, S0, S1, S4, S5, rfl, i2, i3, o0, o1, o4, o5, sb0, sb1, sb4, sb5, d01, d04, d05, d14, d15, d45⟩ := zBd ho
 have r0 := zAB.own_rd o0
 obtain ⟨a0, c0, b0, d0, e0, -⟩ := zAH r0
 simp only [List.cons.injEq, and_true] at e0
 obtain ⟨rfl, rfl⟩ := e0
 obtain ⟨a1, c1, e1, -⟩ := zBX.own_rd o1
 simp only [List.cons.injEq, and_true] at e1
 obtain rfl := e1
 have r4 := zAS.own_rd o4
 obtain ⟨a4, c4, e4, ih1, ih2, -, -, q4⟩ := zAL r4
 simp only [List.cons.injEq, and_true] at e4
 obtain ⟨rfl, rfl, rfl⟩ := e4
 obtain ⟨a5, c5, e5, -⟩ := zA5.own_rd o5
 simp only [List.cons.injEq, and_true] at e5
 obtain rfl := e5
 have HO : Hid (∀ W, Below w.heap.size w W → zAn.own W S [.slice a0 x.1.1.length c0, .slice b0 x.1.2.length d0, .slice a1 x.2.1.length c1, .int .i64 x.2.2.1, .int .i64 x.2.2.2.1, .int .i64 x.2.2.2.2.1.1, .int .i64 x.2.2.2.2.1.2.1, .slice a4 x.2.2.2.2.1.2.2.length c4, .slice a5 x.2.2.2.2.2.length c5] x) := fun W hb => zAn.own_keep ho (zAh hb)
 have HSS : Hid _ := And.intro hS hg
 have G : w.heap[g]? = some (.cells #[.slice a0 x.1.1.length c0, .slice b0 x.1.2.length d0, .slice a1 x.2.1.length c1, .int .i64 x.2.2.1, .int .i64 x.2.2.2.1, .int .i64 x.2.2.2.2.1.1, .int .i64 x.2.2.2.2.1.2.1, .slice a4 x.2.2.2.2.1.2.2.length c4, .slice a5 x.2.2.2.2.2.length c5] 41 (0, 0)) := hbox
 have gl := (Array.getElem?_eq_some_iff.1 G).1
 obtain ⟨c, p, at_, ph, h, t⟩ := x
 simp only at *
 clear ho hS hg r0 r4 q4 o0 o1 o4 o5 sb0 sb1 sb4 sb5 d01 d04 d05 d14 d15 d45 i2 i3 ih1 ih2 hm hbox im0 im1 im2 im3 im4 im6 
 have z6 : (m.2.2.2.1 == 6) = false := by simp [hkd]
 have z7 : (m.2.2.2.1 == 7) = false := by simp [hkd]
 have z12 : (m.2.2.2.1 == 12) = true := by simp [hkd]
 clear hkd
 by_cases hp : ph = 1
 ·have y1 : (ph != 1) = false := by simp [hp]
  have y2 : (h.1 != m.2.2.2.2.1) = true := by
   have q : ¬ h.1 = m.2.2.2.2.1 := fun z => by rcases hno with n | n; exact n hp; exact n z
   simp [q]
  clear hno hp
  rw [show zAM [.int .i64 m.1, .int .i64 m.2.1, .int .i64 m.2.2.1, .int .i64 m.2.2.2.1, .int .i64 m.2.2.2.2.1, .slice ma m.2.2.2.2.2.1.length mc, .int .i64 m.2.2.2.2.2.2] = .agg #[.int .i64 m.1, .int .i64 m.2.1, .int .i64 m.2.2.1, .int .i64 m.2.2.2.1, .int .i64 m.2.2.2.2.1, .slice ma m.2.2.2.2.2.1.length mc, .int .i64 m.2.2.2.2.2.2] from rfl]
  have B := Below.refl w.heap.size w
  go_enter Tryz.func25, Tryz.ntmps25
  go_upto_region 1 with fail
  generalize hu1w : w.alloc _ = u1w
  have N := boxH hu1w
  have bz := boxB hu1w
  have zN := boxL hu1w
  clear hu1w
  replace B := zAb B bz
  replace G := zAa bz G
  clear bz
  have zNa := Nat.le_of_eq zN
  have zNb := Nat.le_of_eq zN.symm
  clear zN
  obtain ⟨Gc0, Gc1, Gc2, Gc3, Gc4, Gc5, Gc6, Gc7, Gc8⟩ := zAc G
  have Glt := (Array.getElem?_eq_some_iff.1 G).1
  obtain ⟨Nc0, Nc1, Nc2, Nc3, Nc4, Nc5, Nc6⟩ := zAe N
  have Nlt := (Array.getElem?_eq_some_iff.1 N).1
  go_upto_region 2 with fail
  clear Gc0 Gc1 Gc2 Gc3 Gc4 Gc5 Gc6 Gc7 Gc8 Glt Nc0 Nc1 Nc2 Nc3 Nc4 Nc5 Nc6 Nlt
  have Zo : zCp zBp (w.heap.size + 1) (w.heap.size + 1 + 1) (u1w.alloc (.cells #[] 46)) [.slice (some ⟨w.heap.size + 1, 0, none⟩) 0 0] [] := by
   have q := zC3 (e := 46) (R := zBy) u1w
   rw [show u1w.heap.size = w.heap.size + 1 from by omega] at q
   exact And.intro (zBp.own_mono q (fun k z => by have z2 : k = w.heap.size + 1 := z; exact ⟨by omega, by omega⟩)) (by rw [zAp]; omega)
  have bz := zAf u1w (.cells #[] 46)
  have zz := zAp u1w (.cells #[] 46)
  replace B := zAb B bz
  replace G := zAa bz G
  replace N := zAa bz N
  clear bz
  generalize u1w.alloc (.cells #[] 46) = u2w at B G N Zo zz ⊢
  have zza := Nat.le_of_eq zz
  have zzb := Nat.le_of_eq zz.symm
  clear zz
  obtain ⟨Gc0, Gc1, Gc2, Gc3, Gc4, Gc5, Gc6, Gc7, Gc8⟩ := zAc G
  have Glt := (Array.getElem?_eq_some_iff.1 G).1
  obtain ⟨Nc0, Nc1, Nc2, Nc3, Nc4, Nc5, Nc6⟩ := zAe N
  have Nlt := (Array.getElem?_eq_some_iff.1 N).1
  go_upto_region 11 with fail
  clear Gc0 Gc1 Gc2 Gc3 Gc4 Gc5 Gc6 Gc7 Gc8 Glt Nc0 Nc1 Nc2 Nc3 Nc4 Nc5 Nc6 Nlt
  go_cut [44] (fun q wx => q = .bool true ∧ Below u2w.heap.size u2w wx)
  case first =>
   obtain ⟨Gc0, Gc1, Gc2, Gc3, Gc4, Gc5, Gc6, Gc7, Gc8⟩ := zAc G
   have Glt := (Array.getElem?_eq_some_iff.1 G).1
   obtain ⟨Nc0, Nc1, Nc2, Nc3, Nc4, Nc5, Nc6⟩ := zAe N
   have Nlt := (Array.getElem?_eq_some_iff.1 N).1
   clear B G N Zo
   go_quiet (fail)
   go_wp2_with fail
   go_meet
   exact ⟨rfl, zBt (Below.refl _ _) _⟩
  case rest =>
   obtain ⟨rfl, bq⟩ := hcut
   generalize wc = u3w at bq ⊢
   have tu3w : u2w.heap.size ≤ u3w.heap.size := bq.size
   replace B := zAb B bq
   replace G := zAa bq G
   replace N := zAa bq N
   replace Zo := zA6 Zo bq
   clear bq
   obtain ⟨Gc0, Gc1, Gc2, Gc3, Gc4, Gc5, Gc6, Gc7, Gc8⟩ := zAc G
   have Glt := (Array.getElem?_eq_some_iff.1 G).1
   obtain ⟨Nc0, Nc1, Nc2, Nc3, Nc4, Nc5, Nc6⟩ := zAe N
   have Nlt := (Array.getElem?_eq_some_iff.1 N).1
   have HK : Hid _ := And.intro B (And.intro G (And.intro N (Zo)))
   clear B G N Zo
   go_wp2
   clear Gc0 Gc1 Gc2 Gc3 Gc4 Gc5 Gc6 Gc7 Gc8 Glt Nc0 Nc1 Nc2 Nc3 Nc4 Nc5 Nc6 Nlt
   obtain ⟨B, G, N, Zo⟩ := HK.out
   clear HK
   have bsz := B.size
   have zs := Zo.2
   refine bodyPost_ret (v := .tuple #[.slice (some ⟨w.heap.size + 1, 0, none⟩) 0 0, .int .i64 0]) (by simp [results, Tryz.results25, go_sem]) rfl ?_
   exact ⟨[.slice a0 c.1.length c0, .slice b0 c.2.length d0, .slice a1 p.length c1, .int .i64 at_, .int .i64 ph, .int .i64 h.1, .int .i64 h.2.1, .slice a4 h.2.2.length c4, .slice a5 t.length c5], _, rfl, zAn.own_mono (HO.out _ B) (fun k q => .inl q), zBp.own_mono Zo.1 (fun k q => ⟨by have := q.1; omega, by have := q.2; omega⟩), G, zII B⟩
 ·have y1 : (ph != 1) = true := by simp [hp]
  clear hno hp
  rw [show zAM [.int .i64 m.1, .int .i64 m.2.1, .int .i64 m.2.2.1, .int .i64 m.2.2.2.1, .int .i64 m.2.2.2.2.1, .slice ma m.2.2.2.2.2.1.length mc, .int .i64 m.2.2.2.2.2.2] = .agg #[.int .i64 m.1, .int .i64 m.2.1, .int .i64 m.2.2.1, .int .i64 m.2.2.2.1, .int .i64 m.2.2.2.2.1, .slice ma m.2.2.2.2.2.1.length mc, .int .i64 m.2.2.2.2.2.2] from rfl]
  have B := Below.refl w.heap.size w
  go_enter Tryz.func25, Tryz.ntmps25
  go_upto_region 1 with fail
  generalize hu1w : w.alloc _ = u1w
  have N := boxH hu1w
  have bz := boxB hu1w
  have zN := boxL hu1w
  clear hu1w
  replace B := zAb B bz
  replace G := zAa bz G
  clear bz
  have zNa := Nat.le_of_eq zN
  have zNb := Nat.le_of_eq zN.symm
  clear zN
  obtain ⟨Gc0, Gc1, Gc2, Gc3, Gc4, Gc5, Gc6, Gc7, Gc8⟩ := zAc G
  have Glt := (Array.getElem?_eq_some_iff.1 G).1
  obtain ⟨Nc0, Nc1, Nc2, Nc3, Nc4, Nc5, Nc6⟩ := zAe N
  have Nlt := (Array.getElem?_eq_some_iff.1 N).1
  go_upto_region 2 with fail
  clear Gc0 Gc1 Gc2 Gc3 Gc4 Gc5 Gc6 Gc7 Gc8 Glt Nc0 Nc1 Nc2 Nc3 Nc4 Nc5 Nc6 Nlt
  have Zo : zCp zBp (w.heap.size + 1) (w.heap.size + 1 + 1) (u1w.alloc (.cells #[] 46)) [.slice (some ⟨w.heap.size + 1, 0, none⟩) 0 0] [] := by
   have q := zC3 (e := 46) (R := zBy) u1w
   rw [show u1w.heap.size = w.heap.size + 1 from by omega] at q
   exact And.intro (zBp.own_mono q (fun k z => by have z2 : k = w.heap.size + 1 := z; exact ⟨by omega, by omega⟩)) (by rw [zAp]; omega)
  have bz := zAf u1w (.cells #[] 46)
  have zz := zAp u1w (.cells #[] 46)
  replace B := zAb B bz
  replace G := zAa bz G
  replace N := zAa bz N
  clear bz
  generalize u1w.alloc (.cells #[] 46) = u2w at B G N Zo zz ⊢
  have zza := Nat.le_of_eq zz
  have zzb := Nat.le_of_eq zz.symm
  clear zz
  obtain ⟨Gc0, Gc1, Gc2, Gc3, Gc4, Gc5, Gc6, Gc7, Gc8⟩ := zAc G
  have Glt := (Array.getElem?_eq_some_iff.1 G).1
  obtain ⟨Nc0, Nc1, Nc2, Nc3, Nc4, Nc5, Nc6⟩ := zAe N
  have Nlt := (Array.getElem?_eq_some_iff.1 N).1
  go_upto_region 11 with fail
  clear Gc0 Gc1 Gc2 Gc3 Gc4 Gc5 Gc6 Gc7 Gc8 Glt Nc0 Nc1 Nc2 Nc3 Nc4 Nc5 Nc6 Nlt
  go_cut [44] (fun q wx => q = .bool true ∧ Below u2w.heap.size u2w wx)
  case first =>
   obtain ⟨Gc0, Gc1, Gc2, Gc3, Gc4, Gc5, Gc6, Gc7, Gc8⟩ := zAc G
   have Glt := (Array.getElem?_eq_some_iff.1 G).1
   obtain ⟨Nc0, Nc1, Nc2, Nc3, Nc4, Nc5, Nc6⟩ := zAe N
   have Nlt := (Array.getElem?_eq_some_iff.1 N).1
   clear B G N Zo
   go_quiet (fail)
   go_wp2_with fail
   go_meet
   exact ⟨rfl, zBt (Below.refl _ _) _⟩
  case rest =>
   obtain ⟨rfl, bq⟩ := hcut
   generalize wc = u3w at bq ⊢
   have tu3w : u2w.heap.size ≤ u3w.heap.size := bq.size
   replace B := zAb B bq
   replace G := zAa bq G
   replace N := zAa bq N
   replace Zo := zA6 Zo bq
   clear bq
   obtain ⟨Gc0, Gc1, Gc2, Gc3, Gc4, Gc5, Gc6, Gc7, Gc8⟩ := zAc G
   have Glt := (Array.getElem?_eq_some_iff.1 G).1
   obtain ⟨Nc0, Nc1, Nc2, Nc3, Nc4, Nc5, Nc6⟩ := zAe N
   have Nlt := (Array.getElem?_eq_some_iff.1 N).1
   have HK : Hid _ := And.intro B (And.intro G (And.intro N (Zo)))
   clear B G N Zo
   go_wp2
   clear Gc0 Gc1 Gc2 Gc3 Gc4 Gc5 Gc6 Gc7 Gc8 Glt Nc0 Nc1 Nc2 Nc3 Nc4 Nc5 Nc6 Nlt
   obtain ⟨B, G, N, Zo⟩ := HK.out
   clear HK
   have bsz := B.size
   have zs := Zo.2
   refine bodyPost_ret (v := .tuple #[.slice (some ⟨w.heap.size + 1, 0, none⟩) 0 0, .int .i64 0]) (by simp [results, Tryz.results25, go_sem]) rfl ?_
   exact ⟨[.slice a0 c.1.length c0, .slice b0 c.2.length d0, .slice a1 p.length c1, .int .i64 at_, .int .i64 ph, .int .i64 h.1, .int .i64 h.2.1, .slice a4 h.2.2.length c4, .slice a5 t.length c5], _, rfl, zAn.own_mono (HO.out _ B) (fun k q => .inl q), zBp.own_mono Zo.1 (fun k q => ⟨by have := q.1; omega, by have := q.2; omega⟩), G, zII B⟩
end Go.Proofs.YtoihjejenjcokaaGreatDoor
