import Derived.Test.YtoihjejenjcokaaGreatDoorP00Box
import Derived.Test.YtoihjejenjcokaaGreatDoorP30GotQ
import Derived.Deep.RegionHeld3
namespace Go.Proofs.YtoihjejenjcokaaGreatDoor
open Go.ChangeShapes Go.WideShapes Go.ChangeAt Go.RowKit
set_option linter.unusedVariables false
set_option maxHeartbeats 16000000 in
set_option maxRecDepth 20000 in
theorem zHe (S : zAX) (cs : List Value) (x : zAE) (id e : Int) (w : World) (hh : Hold w) (ho : zAn.own w S cs x) (hS : ∀ k, S k → k < w.heap.size) (hk : zAZ x = true) (hid : zBk id) (he : e = 3 ∨ e = 4) :
    Calls Tryz.prog 101 #[zAM cs, .int .i64 id, .int .i64 e] w fun e' w' => zEI S w (inH x e) [inHM x id e] 1 e' w' := by
 have hia := zJ1 hk
 have hst := held_st hk
 have hln := zDX hk
 obtain ⟨v0, v1, v2, v5, v6, v7, v8, S0, S1, S4, S5, rfl, i2, i3, o0, o1, o4, o5, sb0, sb1, sb4, sb5, d01, d04, d05, d14, d15, d45⟩ := zBd ho
 have r0 := zAB.own_rd o0
 obtain ⟨a0, c0, b0, d0, e0, -⟩ := zAH r0
 simp only [List.cons.injEq, and_true] at e0
 obtain ⟨rfl, rfl⟩ := e0
 obtain ⟨a1, c1, e1, -⟩ := zBX.own_rd o1
 simp only [List.cons.injEq, and_true] at e1
 obtain rfl := e1
 obtain ⟨a4, c4, e4, ih1, ih2, -, -, -⟩ := zAL (zAS.own_rd o4)
 simp only [List.cons.injEq, and_true] at e4
 obtain ⟨rfl, rfl, rfl⟩ := e4
 obtain ⟨a5, c5, e5, -⟩ := zA5.own_rd o5
 simp only [List.cons.injEq, and_true] at e5
 obtain rfl := e5
 have HO : Hid (∀ W, Below w.heap.size w W → zAn.own W S [.slice a0 x.1.1.length c0, .slice b0 x.1.2.length d0, .slice a1 x.2.1.length c1, .int .i64 x.2.2.1, .int .i64 x.2.2.2.1, .int .i64 x.2.2.2.2.1.1, .int .i64 x.2.2.2.2.1.2.1, .slice a4 x.2.2.2.2.1.2.2.length c4, .slice a5 x.2.2.2.2.2.length c5] x) := fun W hb => zAn.own_keep ho (zAh hb)
 have HWR : Hid (∀ W, Below w.heap.size w W → zAS.rd W [.int .i64 x.2.2.2.2.1.1, .int .i64 x.2.2.2.2.1.2.1, .slice a4 x.2.2.2.2.1.2.2.length c4] x.2.2.2.2.1) := fun W hb => zAN (zAS.own_rd o4) hb
 obtain ⟨c, p, at_, ph, h, t⟩ := x
 simp only at *
 have HIN : Hid _ := And.intro i2 i3
 have HOW : Hid _ := And.intro o0 (And.intro o1 (And.intro o5 (And.intro sb0 (And.intro sb1 (And.intro sb5 (And.intro d01 (And.intro d05 d15)))))))
 obtain ⟨y9, hy9⟩ : ∃ y9, y9 = inH (c, p, at_, ph, h, t) e := ⟨_, rfl⟩
 obtain ⟨m9, hm9⟩ : ∃ m9, m9 = inHM (c, p, at_, ph, h, t) id e := ⟨_, rfl⟩
 rw [← hy9, ← hm9]
 unfold inH at hy9
 unfold inHM at hm9
 simp only at hy9 hm9
 have HYM : Hid _ := And.intro hy9 hm9
 have HSS : Hid (∀ k, S k → k < w.heap.size) := hS
 have HHH : Hid (Hold w) := hh
 have HAN0 : Hid (∀ (left : Int) (W : World), Below w.heap.size w W → Calls Tryz.prog 124 #[.int .i64 id, .int .i64 h.1, .agg #[.int .i64 h.1, .int .i64 h.2.1, .slice a4 h.2.2.length c4], .int .i64 left] W fun e w' => ∃ ds, e = .returned (zAM ds) ∧ zAY zBy W w' ds (zJI id h.1 h left)) := fun left W hb => zEx id h.1 left [.int .i64 h.1, .int .i64 h.2.1, .slice a4 h.2.2.length c4] h W (hh.goes hb) (HWR.out W hb) hst (by omega) hid ih1
 clear ho hS r0 o0 o1 o4 o5 sb0 sb1 sb4 sb5 d01 d04 d05 d14 d15 d45 hk hh hia i2 i3 hy9 hm9 ih2
 rw [show zAM [.slice a0 c.1.length c0, .slice b0 c.2.length d0, .slice a1 p.length c1, .int .i64 at_, .int .i64 ph, .int .i64 h.1, .int .i64 h.2.1, .slice a4 h.2.2.length c4, .slice a5 t.length c5] = .agg #[.slice a0 c.1.length c0, .slice b0 c.2.length d0, .slice a1 p.length c1, .int .i64 at_, .int .i64 ph, .int .i64 h.1, .int .i64 h.2.1, .slice a4 h.2.2.length c4, .slice a5 t.length c5] from rfl]
 have B := Below.refl w.heap.size w
 go_enter Tryz.func101, Tryz.ntmps101
 go_upto_region 1 with fail
 generalize hu1w : w.alloc _ = u1w
 have X := boxH hu1w
 have bz := boxB hu1w
 have zX := boxL hu1w
 clear hu1w
 replace B := zAb B bz
 clear bz
 have zXa := Nat.le_of_eq zX
 have zXb := Nat.le_of_eq zX.symm
 clear zX
 generalize hu2w : u1w.alloc _ = u2w
 have R := boxH hu2w
 have bz := boxB hu2w
 have zR := boxL hu2w
 clear hu2w
 rw [show u1w.heap.size = w.heap.size + 1 from by omega] at R
 replace B := zAb B bz
 replace X := zAa bz X
 clear bz
 have zRa := Nat.le_of_eq zR
 have zRb := Nat.le_of_eq zR.symm
 clear zR
 obtain ⟨Xc0, Xc1, Xc2, Xc3, Xc4, Xc5, Xc6, Xc7, Xc8⟩ := zAc X
 have Xlt := (Array.getElem?_eq_some_iff.1 X).1
 obtain ⟨Rc0, Rc1, Rc2, Rc3, Rc4, Rc5, Rc6, Rc7, Rc8⟩ := zAc R
 have Rlt := (Array.getElem?_eq_some_iff.1 R).1
 go_upto_region 2 with fail
 clear Xc0 Xc1 Xc2 Xc3 Xc4 Xc5 Xc6 Xc7 Xc8 Xlt Rc0 Rc1 Rc2 Rc3 Rc4 Rc5 Rc6 Rc7 Rc8 Rlt
 generalize hu3w : u2w.alloc _ = u3w
 have H := boxH hu3w
 have bz := boxB hu3w
 have zH := boxL hu3w
 clear hu3w
 replace B := zAb B bz
 replace X := zAa bz X
 replace R := zAa bz R
 clear bz
 have zHa := Nat.le_of_eq zH
 have zHb := Nat.le_of_eq zH.symm
 clear zH
 obtain ⟨Xc0, Xc1, Xc2, Xc3, Xc4, Xc5, Xc6, Xc7, Xc8⟩ := zAc X
 have Xlt := (Array.getElem?_eq_some_iff.1 X).1
 obtain ⟨Rc0, Rc1, Rc2, Rc3, Rc4, Rc5, Rc6, Rc7, Rc8⟩ := zAc R
 have Rlt := (Array.getElem?_eq_some_iff.1 R).1
 obtain ⟨Hc0, Hc1, Hc2⟩ := zAg H
 have Hlt := (Array.getElem?_eq_some_iff.1 H).1
 go_wp2_with fail
 clear Xc0 Xc1 Xc2 Xc3 Xc4 Xc5 Xc6 Xc7 Xc8 Xlt Rc0 Rc1 Rc2 Rc3 Rc4 Rc5 Rc6 Rc7 Rc8 Rlt Hc0 Hc1 Hc2 Hlt
 refine (zGW [.int .i64 h.1, .int .i64 h.2.1, .slice a4 h.2.2.length c4] h _ (HHH.out.goes B) (HWR.out _ B) hst).mono ?_
 rintro e u4w ⟨rfl, bq⟩
 have tu4w : u3w.heap.size ≤ u4w.heap.size := bq.size
 replace B := zAb B bq
 replace X := zAa bq X
 replace R := zAa bq R
 replace H := zAa bq H
 clear bq
 by_cases h2 : 2 ≤ h.2.1
 ·rw [decide_eq_true h2]
  obtain ⟨Xc0, Xc1, Xc2, Xc3, Xc4, Xc5, Xc6, Xc7, Xc8⟩ := zAc X
  have Xlt := (Array.getElem?_eq_some_iff.1 X).1
  obtain ⟨Rc0, Rc1, Rc2, Rc3, Rc4, Rc5, Rc6, Rc7, Rc8⟩ := zAc R
  have Rlt := (Array.getElem?_eq_some_iff.1 R).1
  obtain ⟨Hc0, Hc1, Hc2⟩ := zAg H
  have Hlt := (Array.getElem?_eq_some_iff.1 H).1
  go_wp2_with fail
  clear Xc0 Xc1 Xc2 Xc3 Xc4 Xc5 Xc6 Xc7 Xc8 Xlt Rc0 Rc1 Rc2 Rc3 Rc4 Rc5 Rc6 Rc7 Rc8 Rlt Hc0 Hc1 Hc2 Hlt
  refine (zHL [.int .i64 h.1, .int .i64 h.2.1, .slice a4 h.2.2.length c4] h _ (HWR.out _ B)).mono ?_
  rintro e u5w ⟨us, rfl, mm⟩
  obtain ⟨na, nc, e9, -, -, -, -, -⟩ := zAL (zAS.own_rd mm.1)
  obtain rfl : us = [.int .i64 h.1, .int .i64 0, .slice na 0 nc] := e9
  rw [show zAM [.int .i64 h.1, .int .i64 0, .slice na 0 nc] = .agg #[.int .i64 h.1, .int .i64 0, .slice na 0 nc] from rfl]
  have N := zAR (R := zAS) mm
  have mb := mm.2
  have tu5w : u4w.heap.size ≤ u5w.heap.size := mb.size
  replace B := zAb B mb
  replace X := zAa mb X
  replace R := zAa mb R
  replace H := zAa mb H
  clear mb mm
  obtain ⟨Xc0, Xc1, Xc2, Xc3, Xc4, Xc5, Xc6, Xc7, Xc8⟩ := zAc X
  have Xlt := (Array.getElem?_eq_some_iff.1 X).1
  obtain ⟨Xf0, Xf1, Xf2, Xf3, Xf4, Xf5, Xf6, Xf7, Xf8⟩ := zAr X
  obtain ⟨Rc0, Rc1, Rc2, Rc3, Rc4, Rc5, Rc6, Rc7, Rc8⟩ := zAc R
  have Rlt := (Array.getElem?_eq_some_iff.1 R).1
  obtain ⟨Hc0, Hc1, Hc2⟩ := zAg H
  have Hlt := (Array.getElem?_eq_some_iff.1 H).1
  go_upto_region 4 with fail
  clear Xc0 Xc1 Xc2 Xc3 Xc4 Xc5 Xc6 Xc7 Xc8 Xlt Xf0 Xf1 Xf2 Xf3 Xf4 Xf5 Xf6 Xf7 Xf8 Rc0 Rc1 Rc2 Rc3 Rc4 Rc5 Rc6 Rc7 Rc8 Rlt Hc0 Hc1 Hc2 Hlt
  rw [show (((u5w.setCell ⟨w.heap.size, 5, none⟩ (.int .i64 h.1)).setCell ⟨w.heap.size, 6, none⟩ (.int .i64 0)).setCell ⟨w.heap.size, 7, none⟩ (.slice na 0 nc)) = (zAo u5w (w.heap.size) 5 [.int .i64 h.1, .int .i64 0, .slice na 0 nc]) from rfl]
  replace R := zAk (g := w.heap.size) (o := 5) (vs := [.int .i64 h.1, .int .i64 0, .slice na 0 nc]) R (by omega)
  replace H := zAk (g := w.heap.size) (o := 5) (vs := [.int .i64 h.1, .int .i64 0, .slice na 0 nc]) H (by omega)
  replace N := zAw (g := w.heap.size) (o := 5) (vs := [.int .i64 h.1, .int .i64 0, .slice na 0 nc]) N (by omega)
  replace B := zAv (g := w.heap.size) (o := 5) (vs := [.int .i64 h.1, .int .i64 0, .slice na 0 nc]) B (by omega)
  replace X : (zAo u5w (w.heap.size) 5 [.int .i64 h.1, .int .i64 0, .slice na 0 nc]).heap[w.heap.size]? = some (.cells #[.slice a0 c.1.length c0, .slice b0 c.2.length d0, .slice a1 p.length c1, .int .i64 at_, .int .i64 ph, .int .i64 h.1, .int .i64 0, .slice na 0 nc, .slice a5 t.length c5] 41 (0, 0)) := zAC _ _ X
  have tu6w := Nat.le_of_eq (zAj (g := w.heap.size) [.int .i64 h.1, .int .i64 0, .slice na 0 nc] 5 u5w)
  have qu6w := Nat.le_of_eq (zAj (g := w.heap.size) [.int .i64 h.1, .int .i64 0, .slice na 0 nc] 5 u5w).symm
  generalize (zAo u5w (w.heap.size) 5 [.int .i64 h.1, .int .i64 0, .slice na 0 nc]) = u6w at B X R H N tu6w qu6w ⊢
  obtain ⟨hy9, hm9⟩ := HYM.out
  have ehn : zMk h e = (h.1, 0, []) := if_pos (.inl h2)
  rw [ehn] at hy9 hm9
  simp only at hm9
  obtain ⟨am, ham⟩ : ∃ am, am = zJI id h.1 h 0 := ⟨_, rfl⟩
  have HEND : Hid ((c, p, at_, ph, (h.1, 0, []), t) = y9 ∧ am = m9) := And.intro hy9.symm (ham.trans hm9.symm)
  have HAN : Hid (∀ W, Below w.heap.size w W → Calls Tryz.prog 124 #[.int .i64 id, .int .i64 h.1, .agg #[.int .i64 h.1, .int .i64 h.2.1, .slice a4 h.2.2.length c4], .int .i64 0] W fun e w' => ∃ ds, e = .returned (zAM ds) ∧ zAY zBy W w' ds am) := fun W hb => by rw [ham]; exact HAN0.out 0 W hb
  clear hy9 hm9 ham ehn HAN0 HYM
  have hNs := N.2
  obtain ⟨Xc0, Xc1, Xc2, Xc3, Xc4, Xc5, Xc6, Xc7, Xc8⟩ := zAc X
  have Xlt := (Array.getElem?_eq_some_iff.1 X).1
  obtain ⟨Rc0, Rc1, Rc2, Rc3, Rc4, Rc5, Rc6, Rc7, Rc8⟩ := zAc R
  have Rlt := (Array.getElem?_eq_some_iff.1 R).1
  obtain ⟨Hc0, Hc1, Hc2⟩ := zAg H
  have Hlt := (Array.getElem?_eq_some_iff.1 H).1
  go_upto_region 4 with fail
  clear Xc0 Xc1 Xc2 Xc3 Xc4 Xc5 Xc6 Xc7 Xc8 Xlt Rc0 Rc1 Rc2 Rc3 Rc4 Rc5 Rc6 Rc7 Rc8 Rlt Hc0 Hc1 Hc2 Hlt
  replace B := B.drew
  replace N := zCJ N
  replace X := zBj X
  replace R := zBj R
  replace H := zBj H
  obtain ⟨Xc0, Xc1, Xc2, Xc3, Xc4, Xc5, Xc6, Xc7, Xc8⟩ := zAc X
  have Xlt := (Array.getElem?_eq_some_iff.1 X).1
  obtain ⟨Rc0, Rc1, Rc2, Rc3, Rc4, Rc5, Rc6, Rc7, Rc8⟩ := zAc R
  have Rlt := (Array.getElem?_eq_some_iff.1 R).1
  obtain ⟨Rf0, Rf1, Rf2, Rf3, Rf4, Rf5, Rf6, Rf7, Rf8⟩ := zAr R
  obtain ⟨Hc0, Hc1, Hc2⟩ := zAg H
  have Hlt := (Array.getElem?_eq_some_iff.1 H).1
  have neX : Hid (w.heap.size ≠ w.heap.size + 1) := by unfold Hid; omega
  have neH : Hid (u2w.heap.size ≠ w.heap.size + 1) := by unfold Hid; omega
  go_region_held3 (fun wx => wx.cell? ⟨w.heap.size, 0, none⟩ = some (.slice a0 c.1.length c0) ∧ wx.cell? ⟨w.heap.size, 1, none⟩ = some (.slice b0 c.2.length d0) ∧ wx.cell? ⟨w.heap.size, 2, none⟩ = some (.slice a1 p.length c1) ∧ wx.cell? ⟨w.heap.size, 3, none⟩ = some (.int .i64 at_) ∧ wx.cell? ⟨w.heap.size, 4, none⟩ = some (.int .i64 ph) ∧ wx.cell? ⟨w.heap.size, 5, none⟩ = some (.int .i64 h.1) ∧ wx.cell? ⟨w.heap.size, 6, none⟩ = some (.int .i64 0) ∧ wx.cell? ⟨w.heap.size, 7, none⟩ = some (.slice na 0 nc) ∧ wx.cell? ⟨w.heap.size, 8, none⟩ = some (.slice a5 t.length c5) ∧ wx.cell? ⟨u2w.heap.size, 0, none⟩ = some (.int .i64 h.1) ∧ wx.cell? ⟨u2w.heap.size, 1, none⟩ = some (.int .i64 h.2.1) ∧ wx.cell? ⟨u2w.heap.size, 2, none⟩ = some (.slice a4 h.2.2.length c4)) (first | (with_reducible exact ⟨Xc0, Xc1, Xc2, Xc3, Xc4, Xc5, Xc6, Xc7, Xc8, Hc0, Hc1, Hc2⟩) | (with_reducible exact ⟨Xq0, Xq1, Xq2, Xq3, Xq4, Xq5, Xq6, Xq7, Xq8, Hq0, Hq1, Hq2⟩) | (with_reducible exact ⟨cs9 neX.out Xq0, cs9 neX.out Xq1, cs9 neX.out Xq2, cs9 neX.out Xq3, cs9 neX.out Xq4, cs9 neX.out Xq5, cs9 neX.out Xq6, cs9 neX.out Xq7, cs9 neX.out Xq8, cs9 neH.out Hq0, cs9 neH.out Hq1, cs9 neH.out Hq2⟩) | (with_reducible exact ⟨cs9 neX.out Xc0, cs9 neX.out Xc1, cs9 neX.out Xc2, cs9 neX.out Xc3, cs9 neX.out Xc4, cs9 neX.out Xc5, cs9 neX.out Xc6, cs9 neX.out Xc7, cs9 neX.out Xc8, cs9 neH.out Hc0, cs9 neH.out Hc1, cs9 neH.out Hc2⟩) | (with_reducible exact ⟨al9 neX.out HXL.out Xc0, al9 neX.out HXL.out Xc1, al9 neX.out HXL.out Xc2, al9 neX.out HXL.out Xc3, al9 neX.out HXL.out Xc4, al9 neX.out HXL.out Xc5, al9 neX.out HXL.out Xc6, al9 neX.out HXL.out Xc7, al9 neX.out HXL.out Xc8, al9 neH.out HHL.out Hc0, al9 neH.out HHL.out Hc1, al9 neH.out HHL.out Hc2⟩) | fail) (first | (go_at_call 124; refine (HAN.out _ B).mono ?_; rintro e wq ⟨ds, rfl, mm⟩; obtain ⟨ma, mc, rfl, -, -, -, -, -, -, -, -, -⟩ := zBB (zBy.own_rd mm.1); rw [show zAM [.int .i64 am.1, .int .i64 am.2.1, .int .i64 am.2.2.1, .int .i64 am.2.2.2.1, .int .i64 am.2.2.2.2.1, .slice ma am.2.2.2.2.2.1.length mc, .int .i64 am.2.2.2.2.2.2] = .agg #[.int .i64 am.1, .int .i64 am.2.1, .int .i64 am.2.2.1, .int .i64 am.2.2.2.1, .int .i64 am.2.2.2.2.1, .slice ma am.2.2.2.2.2.1.length mc, .int .i64 am.2.2.2.2.2.2] from rfl]; have AM := zAR (R := zBy) mm; have mb := mm.2; have tq : u6w.heap.size ≤ wq.heap.size := mb.size; replace B := zAb B mb; replace X := zAa mb X; replace R := zAa mb R; replace H := zAa mb H; replace N := zA6 N mb; clear mb mm; clear Xc0 Xc1 Xc2 Xc3 Xc4 Xc5 Xc6 Xc7 Xc8 Xlt Rc0 Rc1 Rc2 Rc3 Rc4 Rc5 Rc6 Rc7 Rc8 Rlt Rf0 Rf1 Rf2 Rf3 Rf4 Rf5 Rf6 Rf7 Rf8 Hc0 Hc1 Hc2 Hlt; obtain ⟨Xc0, Xc1, Xc2, Xc3, Xc4, Xc5, Xc6, Xc7, Xc8⟩ := zAc X; have Xlt := (Array.getElem?_eq_some_iff.1 X).1; obtain ⟨Rc0, Rc1, Rc2, Rc3, Rc4, Rc5, Rc6, Rc7, Rc8⟩ := zAc R; have Rlt := (Array.getElem?_eq_some_iff.1 R).1; obtain ⟨Rf0, Rf1, Rf2, Rf3, Rf4, Rf5, Rf6, Rf7, Rf8⟩ := zAr R; obtain ⟨Hc0, Hc1, Hc2⟩ := zAg H; have Hlt := (Array.getElem?_eq_some_iff.1 H).1; have RA := zAa (zAf wq (.cells #[.int .i64 am.1, .int .i64 am.2.1, .int .i64 am.2.2.1, .int .i64 am.2.2.2.1, .int .i64 am.2.2.2.2.1, .slice ma am.2.2.2.2.2.1.length mc, .int .i64 am.2.2.2.2.2.2] 46)) R; obtain ⟨Qc0, Qc1, Qc2, Qc3, Qc4, Qc5, Qc6, Qc7, Qc8⟩ := zAc RA; obtain ⟨Qf0, Qf1, Qf2, Qf3, Qf4, Qf5, Qf6, Qf7, Qf8⟩ := zAr RA; have XA := zAa (zAf wq (.cells #[.int .i64 am.1, .int .i64 am.2.1, .int .i64 am.2.2.1, .int .i64 am.2.2.2.1, .int .i64 am.2.2.2.2.1, .slice ma am.2.2.2.2.2.1.length mc, .int .i64 am.2.2.2.2.2.2] 46)) X; have HA := zAa (zAf wq (.cells #[.int .i64 am.1, .int .i64 am.2.1, .int .i64 am.2.2.1, .int .i64 am.2.2.2.1, .int .i64 am.2.2.2.2.1, .slice ma am.2.2.2.2.2.1.length mc, .int .i64 am.2.2.2.2.2.2] 46)) H; obtain ⟨Xq0, Xq1, Xq2, Xq3, Xq4, Xq5, Xq6, Xq7, Xq8⟩ := zAc XA; obtain ⟨Hq0, Hq1, Hq2⟩ := zAg HA; have HXL : Hid _ := Xlt; have HHL : Hid _ := Hlt; clear RA XA HA Rlt Xlt Hlt; have HK : Hid _ := And.intro B (And.intro X (And.intro R (And.intro H (And.intro N (AM))))); clear B X R H N AM) | fail)
  all_goals go_wp2
  all_goals
   obtain ⟨B, X, R, H, N, AM⟩ := HK.out
   clear HK
   have bsz := B.size
   clear Qc0 Qf0 Rc0 Rf0 Qc1 Qf1 Rc1 Rf1 Qc2 Qf2 Rc2 Rf2 Qc3 Qf3 Rc3 Rf3 Qc4 Qf4 Rc4 Rf4 Qc5 Qf5 Rc5 Rf5 Qc6 Qf6 Rc6 Rf6 Qc7 Qf7 Rc7 Rf7 Qc8 Qf8 Rc8 Rf8 HXL HHL neX neH Xq0 Xq1 Xq2 Xq3 Xq4 Xq5 Xq6 Xq7 Xq8 Hq0 Hq1 Hq2
   first | (have V2 := zAa (zAf _ (.cells #[.int .i64 am.1, .int .i64 am.2.1, .int .i64 am.2.2.1, .int .i64 am.2.2.2.1, .int .i64 am.2.2.2.2.1, .slice ma am.2.2.2.2.2.1.length mc, .int .i64 am.2.2.2.2.2.2] 46)) (zAV (y0 := .slice a0 c.1.length c0) (y1 := .slice b0 c.2.length d0) (y2 := .slice a1 p.length c1) (y3 := .int .i64 at_) (y4 := .int .i64 ph) (y5 := .int .i64 h.1) (y6 := .int .i64 0) (y7 := .slice na 0 nc) (y8 := .slice a5 t.length c5) R); obtain ⟨r0, r1, r2, r3, r4, r5, r6, r7, r8⟩ := zAc V2; have FQ := zEF (S := S) (T := fun k => S k ∨ rng (u4w.heap.size) (u5w.heap.size) k) (U := rng u6w.heap.size wq.heap.size) (k := 1) (r := w.heap.size + 1) (vs := [.slice a0 c.1.length c0, .slice b0 c.2.length d0, .slice a1 p.length c1, .int .i64 at_, .int .i64 ph, .int .i64 h.1, .int .i64 0, .slice na 0 nc, .slice a5 t.length c5]) (cm := [.int .i64 am.1, .int .i64 am.2.1, .int .i64 am.2.2.1, .int .i64 am.2.2.2.1, .int .i64 am.2.2.2.2.1, .slice ma am.2.2.2.2.2.1.length mc, .int .i64 am.2.2.2.2.2.2]) (zA9 B) (zCo (x := (c, p, at_, ph, (h.1, 0, []), t)) (S := fun k => S k ∨ rng (u4w.heap.size) (u5w.heap.size) k) HIN.out.1 HIN.out.2 (zAB.own_keep HOW.out.1 (zAh B)) (zBX.own_keep HOW.out.2.1 (zAh B)) N.1 (zA5.own_keep HOW.out.2.2.1 (zAh B)) (fun k q => .inl (HOW.out.2.2.2.1 k q)) (fun k q => .inl (HOW.out.2.2.2.2.1 k q)) (fun k q => .inr q) (fun k q => .inl (HOW.out.2.2.2.2.2.1 k q)) HOW.out.2.2.2.2.2.2.1 (fun k a b => by have := HSS.out _ (HOW.out.2.2.2.1 k a); have := b.1; omega) HOW.out.2.2.2.2.2.2.2.1 (fun k a b => by have := HSS.out _ (HOW.out.2.2.2.2.1 k a); have := b.1; omega) HOW.out.2.2.2.2.2.2.2.2 (fun k a b => by have := HSS.out _ (HOW.out.2.2.2.2.2.1 k b); have := a.1; omega)) AM.1 (fun j a b => by have := b.1; rcases a with a | a; (have := HSS.out _ a; omega); (have := a.2; omega)) (fun j q => by rcases q with q | q; exact ⟨.inl q, by have := HSS.out _ q; omega⟩; exact ⟨.inr (by have := q.1; omega), by have := q.2; omega⟩) (fun j q => ⟨.inr (by have := q.1; omega), q.2⟩) (by omega) (fun q => by rcases q with q | q; (have := HSS.out _ q; omega); (have := q.1; omega)) (fun q => by have := q.1; omega); simp only [zA0, zA3, Nat.reduceAdd] at FQ; obtain ⟨e1, e2⟩ := HEND.out; subst e2; rw [e1] at FQ; rw [show zAM [.slice a0 c.1.length c0, .slice b0 c.2.length d0, .slice a1 p.length c1, .int .i64 at_, .int .i64 ph, .int .i64 h.1, .int .i64 0, .slice na 0 nc, .slice a5 t.length c5] = .agg #[.slice a0 c.1.length c0, .slice b0 c.2.length d0, .slice a1 p.length c1, .int .i64 at_, .int .i64 ph, .int .i64 h.1, .int .i64 0, .slice na 0 nc, .slice a5 t.length c5] from rfl] at FQ; clear B X R H N AM V2; refine bodyPost_ret (v := .tuple #[.agg #[.slice a0 c.1.length c0, .slice b0 c.2.length d0, .slice a1 p.length c1, .int .i64 at_, .int .i64 ph, .int .i64 h.1, .int .i64 0, .slice na 0 nc, .slice a5 t.length c5], .slice (some ⟨wq.heap.size, 0, none⟩) 1 1, .int .i64 1]) (by simp [results, Tryz.results101, go_sem, r0, r1, r2, r3, r4, r5, r6, r7, r8]) rfl ?_; with_reducible exact FQ) | (have V2 := zAV (y0 := .slice a0 c.1.length c0) (y1 := .slice b0 c.2.length d0) (y2 := .slice a1 p.length c1) (y3 := .int .i64 at_) (y4 := .int .i64 ph) (y5 := .int .i64 h.1) (y6 := .int .i64 0) (y7 := .slice na 0 nc) (y8 := .slice a5 t.length c5) (zAa (zAf _ (.cells #[.int .i64 am.1, .int .i64 am.2.1, .int .i64 am.2.2.1, .int .i64 am.2.2.2.1, .int .i64 am.2.2.2.2.1, .slice ma am.2.2.2.2.2.1.length mc, .int .i64 am.2.2.2.2.2.2] 46)) R); obtain ⟨r0, r1, r2, r3, r4, r5, r6, r7, r8⟩ := zAc V2; have FQ := zDE (S := S) (T := fun k => S k ∨ rng (u4w.heap.size) (u5w.heap.size) k) (U := rng u6w.heap.size wq.heap.size) (k := 1) (r := w.heap.size + 1) (vs := [.slice a0 c.1.length c0, .slice b0 c.2.length d0, .slice a1 p.length c1, .int .i64 at_, .int .i64 ph, .int .i64 h.1, .int .i64 0, .slice na 0 nc, .slice a5 t.length c5]) (cm := [.int .i64 am.1, .int .i64 am.2.1, .int .i64 am.2.2.1, .int .i64 am.2.2.2.1, .int .i64 am.2.2.2.2.1, .slice ma am.2.2.2.2.2.1.length mc, .int .i64 am.2.2.2.2.2.2]) (zA9 B) (zCo (x := (c, p, at_, ph, (h.1, 0, []), t)) (S := fun k => S k ∨ rng (u4w.heap.size) (u5w.heap.size) k) HIN.out.1 HIN.out.2 (zAB.own_keep HOW.out.1 (zAh B)) (zBX.own_keep HOW.out.2.1 (zAh B)) N.1 (zA5.own_keep HOW.out.2.2.1 (zAh B)) (fun k q => .inl (HOW.out.2.2.2.1 k q)) (fun k q => .inl (HOW.out.2.2.2.2.1 k q)) (fun k q => .inr q) (fun k q => .inl (HOW.out.2.2.2.2.2.1 k q)) HOW.out.2.2.2.2.2.2.1 (fun k a b => by have := HSS.out _ (HOW.out.2.2.2.1 k a); have := b.1; omega) HOW.out.2.2.2.2.2.2.2.1 (fun k a b => by have := HSS.out _ (HOW.out.2.2.2.2.1 k a); have := b.1; omega) HOW.out.2.2.2.2.2.2.2.2 (fun k a b => by have := HSS.out _ (HOW.out.2.2.2.2.2.1 k b); have := a.1; omega)) AM.1 (fun j a b => by have := b.1; rcases a with a | a; (have := HSS.out _ a; omega); (have := a.2; omega)) (fun j q => by rcases q with q | q; exact ⟨.inl q, by have := HSS.out _ q; omega⟩; exact ⟨.inr (by have := q.1; omega), by have := q.2; omega⟩) (fun j q => ⟨.inr (by have := q.1; omega), q.2⟩) (by omega) (fun q => by rcases q with q | q; (have := HSS.out _ q; omega); (have := q.1; omega)) (fun q => by have := q.1; omega) (Array.getElem?_eq_some_iff.1 R).1; simp only [zA0, zA3, Nat.reduceAdd] at FQ; obtain ⟨e1, e2⟩ := HEND.out; subst e2; rw [e1] at FQ; rw [show zAM [.slice a0 c.1.length c0, .slice b0 c.2.length d0, .slice a1 p.length c1, .int .i64 at_, .int .i64 ph, .int .i64 h.1, .int .i64 0, .slice na 0 nc, .slice a5 t.length c5] = .agg #[.slice a0 c.1.length c0, .slice b0 c.2.length d0, .slice a1 p.length c1, .int .i64 at_, .int .i64 ph, .int .i64 h.1, .int .i64 0, .slice na 0 nc, .slice a5 t.length c5] from rfl] at FQ; clear B X R H N AM V2; refine bodyPost_ret (v := .tuple #[.agg #[.slice a0 c.1.length c0, .slice b0 c.2.length d0, .slice a1 p.length c1, .int .i64 at_, .int .i64 ph, .int .i64 h.1, .int .i64 0, .slice na 0 nc, .slice a5 t.length c5], .slice (some ⟨wq.heap.size, 0, none⟩) 1 1, .int .i64 1]) (by simp [results, Tryz.results101, go_sem, r0, r1, r2, r3, r4, r5, r6, r7, r8]) rfl ?_; with_reducible exact FQ)
 ·rw [decide_eq_false h2]
  rcases he with rfl | rfl
  ·obtain ⟨hy9, hm9⟩ := HYM.out
   have ehn : zMk h 3 = h := if_neg (by rintro (q | q); exact h2 q; exact absurd q (by decide))
   rw [ehn] at hy9 hm9
   obtain ⟨am, ham⟩ : ∃ am, am = zJI id h.1 h h.2.1 := ⟨_, rfl⟩
   have HEND : Hid ((c, p, at_, ph, h, t) = y9 ∧ am = m9) := And.intro hy9.symm (ham.trans hm9.symm)
   have HAN : Hid (∀ W, Below w.heap.size w W → Calls Tryz.prog 124 #[.int .i64 id, .int .i64 h.1, .agg #[.int .i64 h.1, .int .i64 h.2.1, .slice a4 h.2.2.length c4], .int .i64 h.2.1] W fun e w' => ∃ ds, e = .returned (zAM ds) ∧ zAY zBy W w' ds am) := fun W hb => by rw [ham]; exact HAN0.out _ W hb
   clear hy9 hm9 ham ehn HAN0 HYM
   obtain ⟨Xc0, Xc1, Xc2, Xc3, Xc4, Xc5, Xc6, Xc7, Xc8⟩ := zAc X
   have Xlt := (Array.getElem?_eq_some_iff.1 X).1
   obtain ⟨Rc0, Rc1, Rc2, Rc3, Rc4, Rc5, Rc6, Rc7, Rc8⟩ := zAc R
   have Rlt := (Array.getElem?_eq_some_iff.1 R).1
   obtain ⟨Hc0, Hc1, Hc2⟩ := zAg H
   have Hlt := (Array.getElem?_eq_some_iff.1 H).1
   go_upto_region 4 with fail
   clear Xc0 Xc1 Xc2 Xc3 Xc4 Xc5 Xc6 Xc7 Xc8 Xlt Rc0 Rc1 Rc2 Rc3 Rc4 Rc5 Rc6 Rc7 Rc8 Rlt Hc0 Hc1 Hc2 Hlt
   replace B := B.drew
   replace X := zBj X
   replace R := zBj R
   replace H := zBj H
   obtain ⟨Xc0, Xc1, Xc2, Xc3, Xc4, Xc5, Xc6, Xc7, Xc8⟩ := zAc X
   have Xlt := (Array.getElem?_eq_some_iff.1 X).1
   obtain ⟨Rc0, Rc1, Rc2, Rc3, Rc4, Rc5, Rc6, Rc7, Rc8⟩ := zAc R
   have Rlt := (Array.getElem?_eq_some_iff.1 R).1
   obtain ⟨Rf0, Rf1, Rf2, Rf3, Rf4, Rf5, Rf6, Rf7, Rf8⟩ := zAr R
   obtain ⟨Hc0, Hc1, Hc2⟩ := zAg H
   have Hlt := (Array.getElem?_eq_some_iff.1 H).1
   have neX : Hid (w.heap.size ≠ w.heap.size + 1) := by unfold Hid; omega
   have neH : Hid (u2w.heap.size ≠ w.heap.size + 1) := by unfold Hid; omega
   go_region_held3 (fun wx => wx.cell? ⟨w.heap.size, 0, none⟩ = some (.slice a0 c.1.length c0) ∧ wx.cell? ⟨w.heap.size, 1, none⟩ = some (.slice b0 c.2.length d0) ∧ wx.cell? ⟨w.heap.size, 2, none⟩ = some (.slice a1 p.length c1) ∧ wx.cell? ⟨w.heap.size, 3, none⟩ = some (.int .i64 at_) ∧ wx.cell? ⟨w.heap.size, 4, none⟩ = some (.int .i64 ph) ∧ wx.cell? ⟨w.heap.size, 5, none⟩ = some (.int .i64 h.1) ∧ wx.cell? ⟨w.heap.size, 6, none⟩ = some (.int .i64 h.2.1) ∧ wx.cell? ⟨w.heap.size, 7, none⟩ = some (.slice a4 h.2.2.length c4) ∧ wx.cell? ⟨w.heap.size, 8, none⟩ = some (.slice a5 t.length c5) ∧ wx.cell? ⟨u2w.heap.size, 0, none⟩ = some (.int .i64 h.1) ∧ wx.cell? ⟨u2w.heap.size, 1, none⟩ = some (.int .i64 h.2.1) ∧ wx.cell? ⟨u2w.heap.size, 2, none⟩ = some (.slice a4 h.2.2.length c4)) (first | (with_reducible exact ⟨Xc0, Xc1, Xc2, Xc3, Xc4, Xc5, Xc6, Xc7, Xc8, Hc0, Hc1, Hc2⟩) | (with_reducible exact ⟨Xq0, Xq1, Xq2, Xq3, Xq4, Xq5, Xq6, Xq7, Xq8, Hq0, Hq1, Hq2⟩) | (with_reducible exact ⟨cs9 neX.out Xq0, cs9 neX.out Xq1, cs9 neX.out Xq2, cs9 neX.out Xq3, cs9 neX.out Xq4, cs9 neX.out Xq5, cs9 neX.out Xq6, cs9 neX.out Xq7, cs9 neX.out Xq8, cs9 neH.out Hq0, cs9 neH.out Hq1, cs9 neH.out Hq2⟩) | (with_reducible exact ⟨cs9 neX.out Xc0, cs9 neX.out Xc1, cs9 neX.out Xc2, cs9 neX.out Xc3, cs9 neX.out Xc4, cs9 neX.out Xc5, cs9 neX.out Xc6, cs9 neX.out Xc7, cs9 neX.out Xc8, cs9 neH.out Hc0, cs9 neH.out Hc1, cs9 neH.out Hc2⟩) | (with_reducible exact ⟨al9 neX.out HXL.out Xc0, al9 neX.out HXL.out Xc1, al9 neX.out HXL.out Xc2, al9 neX.out HXL.out Xc3, al9 neX.out HXL.out Xc4, al9 neX.out HXL.out Xc5, al9 neX.out HXL.out Xc6, al9 neX.out HXL.out Xc7, al9 neX.out HXL.out Xc8, al9 neH.out HHL.out Hc0, al9 neH.out HHL.out Hc1, al9 neH.out HHL.out Hc2⟩) | fail) (first | (go_at_call 124; refine (HAN.out _ B).mono ?_; rintro e wq ⟨ds, rfl, mm⟩; obtain ⟨ma, mc, rfl, -, -, -, -, -, -, -, -, -⟩ := zBB (zBy.own_rd mm.1); rw [show zAM [.int .i64 am.1, .int .i64 am.2.1, .int .i64 am.2.2.1, .int .i64 am.2.2.2.1, .int .i64 am.2.2.2.2.1, .slice ma am.2.2.2.2.2.1.length mc, .int .i64 am.2.2.2.2.2.2] = .agg #[.int .i64 am.1, .int .i64 am.2.1, .int .i64 am.2.2.1, .int .i64 am.2.2.2.1, .int .i64 am.2.2.2.2.1, .slice ma am.2.2.2.2.2.1.length mc, .int .i64 am.2.2.2.2.2.2] from rfl]; have AM := zAR (R := zBy) mm; have mb := mm.2; have tq : u4w.heap.size ≤ wq.heap.size := mb.size; replace B := zAb B mb; replace X := zAa mb X; replace R := zAa mb R; replace H := zAa mb H; clear mb mm; clear Xc0 Xc1 Xc2 Xc3 Xc4 Xc5 Xc6 Xc7 Xc8 Xlt Rc0 Rc1 Rc2 Rc3 Rc4 Rc5 Rc6 Rc7 Rc8 Rlt Rf0 Rf1 Rf2 Rf3 Rf4 Rf5 Rf6 Rf7 Rf8 Hc0 Hc1 Hc2 Hlt; obtain ⟨Xc0, Xc1, Xc2, Xc3, Xc4, Xc5, Xc6, Xc7, Xc8⟩ := zAc X; have Xlt := (Array.getElem?_eq_some_iff.1 X).1; obtain ⟨Rc0, Rc1, Rc2, Rc3, Rc4, Rc5, Rc6, Rc7, Rc8⟩ := zAc R; have Rlt := (Array.getElem?_eq_some_iff.1 R).1; obtain ⟨Rf0, Rf1, Rf2, Rf3, Rf4, Rf5, Rf6, Rf7, Rf8⟩ := zAr R; obtain ⟨Hc0, Hc1, Hc2⟩ := zAg H; have Hlt := (Array.getElem?_eq_some_iff.1 H).1; have RA := zAa (zAf wq (.cells #[.int .i64 am.1, .int .i64 am.2.1, .int .i64 am.2.2.1, .int .i64 am.2.2.2.1, .int .i64 am.2.2.2.2.1, .slice ma am.2.2.2.2.2.1.length mc, .int .i64 am.2.2.2.2.2.2] 46)) R; obtain ⟨Qc0, Qc1, Qc2, Qc3, Qc4, Qc5, Qc6, Qc7, Qc8⟩ := zAc RA; obtain ⟨Qf0, Qf1, Qf2, Qf3, Qf4, Qf5, Qf6, Qf7, Qf8⟩ := zAr RA; have XA := zAa (zAf wq (.cells #[.int .i64 am.1, .int .i64 am.2.1, .int .i64 am.2.2.1, .int .i64 am.2.2.2.1, .int .i64 am.2.2.2.2.1, .slice ma am.2.2.2.2.2.1.length mc, .int .i64 am.2.2.2.2.2.2] 46)) X; have HA := zAa (zAf wq (.cells #[.int .i64 am.1, .int .i64 am.2.1, .int .i64 am.2.2.1, .int .i64 am.2.2.2.1, .int .i64 am.2.2.2.2.1, .slice ma am.2.2.2.2.2.1.length mc, .int .i64 am.2.2.2.2.2.2] 46)) H; obtain ⟨Xq0, Xq1, Xq2, Xq3, Xq4, Xq5, Xq6, Xq7, Xq8⟩ := zAc XA; obtain ⟨Hq0, Hq1, Hq2⟩ := zAg HA; have HXL : Hid _ := Xlt; have HHL : Hid _ := Hlt; clear RA XA HA Rlt Xlt Hlt; have HK : Hid _ := And.intro B (And.intro X (And.intro R (And.intro H (AM)))); clear B X R H AM) | fail)
   all_goals go_wp2
   all_goals
    obtain ⟨B, X, R, H, AM⟩ := HK.out
    clear HK
    have bsz := B.size
    clear Qc0 Qf0 Rc0 Rf0 Qc1 Qf1 Rc1 Rf1 Qc2 Qf2 Rc2 Rf2 Qc3 Qf3 Rc3 Rf3 Qc4 Qf4 Rc4 Rf4 Qc5 Qf5 Rc5 Rf5 Qc6 Qf6 Rc6 Rf6 Qc7 Qf7 Rc7 Rf7 Qc8 Qf8 Rc8 Rf8 HXL HHL neX neH Xq0 Xq1 Xq2 Xq3 Xq4 Xq5 Xq6 Xq7 Xq8 Hq0 Hq1 Hq2
    first | (have V2 := zAa (zAf _ (.cells #[.int .i64 am.1, .int .i64 am.2.1, .int .i64 am.2.2.1, .int .i64 am.2.2.2.1, .int .i64 am.2.2.2.2.1, .slice ma am.2.2.2.2.2.1.length mc, .int .i64 am.2.2.2.2.2.2] 46)) (zAV (y0 := .slice a0 c.1.length c0) (y1 := .slice b0 c.2.length d0) (y2 := .slice a1 p.length c1) (y3 := .int .i64 at_) (y4 := .int .i64 ph) (y5 := .int .i64 h.1) (y6 := .int .i64 h.2.1) (y7 := .slice a4 h.2.2.length c4) (y8 := .slice a5 t.length c5) R); obtain ⟨r0, r1, r2, r3, r4, r5, r6, r7, r8⟩ := zAc V2; have FQ := zEF (S := S) (T := S) (U := rng u4w.heap.size wq.heap.size) (k := 1) (r := w.heap.size + 1) (vs := [.slice a0 c.1.length c0, .slice b0 c.2.length d0, .slice a1 p.length c1, .int .i64 at_, .int .i64 ph, .int .i64 h.1, .int .i64 h.2.1, .slice a4 h.2.2.length c4, .slice a5 t.length c5]) (cm := [.int .i64 am.1, .int .i64 am.2.1, .int .i64 am.2.2.1, .int .i64 am.2.2.2.1, .int .i64 am.2.2.2.2.1, .slice ma am.2.2.2.2.2.1.length mc, .int .i64 am.2.2.2.2.2.2]) (zA9 B) (HO.out _ B) AM.1 (fun j a b => by have := b.1; have := HSS.out _ a; omega) (fun j q => ⟨.inl q, by have := HSS.out _ q; omega⟩) (fun j q => ⟨.inr (by have := q.1; omega), q.2⟩) (by omega) (fun q => by have := HSS.out _ q; omega) (fun q => by have := q.1; omega); simp only [zA0, zA3, Nat.reduceAdd] at FQ; obtain ⟨e1, e2⟩ := HEND.out; subst e2; rw [e1] at FQ; rw [show zAM [.slice a0 c.1.length c0, .slice b0 c.2.length d0, .slice a1 p.length c1, .int .i64 at_, .int .i64 ph, .int .i64 h.1, .int .i64 h.2.1, .slice a4 h.2.2.length c4, .slice a5 t.length c5] = .agg #[.slice a0 c.1.length c0, .slice b0 c.2.length d0, .slice a1 p.length c1, .int .i64 at_, .int .i64 ph, .int .i64 h.1, .int .i64 h.2.1, .slice a4 h.2.2.length c4, .slice a5 t.length c5] from rfl] at FQ; clear B X R H AM V2; refine bodyPost_ret (v := .tuple #[.agg #[.slice a0 c.1.length c0, .slice b0 c.2.length d0, .slice a1 p.length c1, .int .i64 at_, .int .i64 ph, .int .i64 h.1, .int .i64 h.2.1, .slice a4 h.2.2.length c4, .slice a5 t.length c5], .slice (some ⟨wq.heap.size, 0, none⟩) 1 1, .int .i64 1]) (by simp [results, Tryz.results101, go_sem, r0, r1, r2, r3, r4, r5, r6, r7, r8]) rfl ?_; with_reducible exact FQ) | (have V2 := zAV (y0 := .slice a0 c.1.length c0) (y1 := .slice b0 c.2.length d0) (y2 := .slice a1 p.length c1) (y3 := .int .i64 at_) (y4 := .int .i64 ph) (y5 := .int .i64 h.1) (y6 := .int .i64 h.2.1) (y7 := .slice a4 h.2.2.length c4) (y8 := .slice a5 t.length c5) (zAa (zAf _ (.cells #[.int .i64 am.1, .int .i64 am.2.1, .int .i64 am.2.2.1, .int .i64 am.2.2.2.1, .int .i64 am.2.2.2.2.1, .slice ma am.2.2.2.2.2.1.length mc, .int .i64 am.2.2.2.2.2.2] 46)) R); obtain ⟨r0, r1, r2, r3, r4, r5, r6, r7, r8⟩ := zAc V2; have FQ := zDE (S := S) (T := S) (U := rng u4w.heap.size wq.heap.size) (k := 1) (r := w.heap.size + 1) (vs := [.slice a0 c.1.length c0, .slice b0 c.2.length d0, .slice a1 p.length c1, .int .i64 at_, .int .i64 ph, .int .i64 h.1, .int .i64 h.2.1, .slice a4 h.2.2.length c4, .slice a5 t.length c5]) (cm := [.int .i64 am.1, .int .i64 am.2.1, .int .i64 am.2.2.1, .int .i64 am.2.2.2.1, .int .i64 am.2.2.2.2.1, .slice ma am.2.2.2.2.2.1.length mc, .int .i64 am.2.2.2.2.2.2]) (zA9 B) (HO.out _ B) AM.1 (fun j a b => by have := b.1; have := HSS.out _ a; omega) (fun j q => ⟨.inl q, by have := HSS.out _ q; omega⟩) (fun j q => ⟨.inr (by have := q.1; omega), q.2⟩) (by omega) (fun q => by have := HSS.out _ q; omega) (fun q => by have := q.1; omega) (Array.getElem?_eq_some_iff.1 R).1; simp only [zA0, zA3, Nat.reduceAdd] at FQ; obtain ⟨e1, e2⟩ := HEND.out; subst e2; rw [e1] at FQ; rw [show zAM [.slice a0 c.1.length c0, .slice b0 c.2.length d0, .slice a1 p.length c1, .int .i64 at_, .int .i64 ph, .int .i64 h.1, .int .i64 h.2.1, .slice a4 h.2.2.length c4, .slice a5 t.length c5] = .agg #[.slice a0 c.1.length c0, .slice b0 c.2.length d0, .slice a1 p.length c1, .int .i64 at_, .int .i64 ph, .int .i64 h.1, .int .i64 h.2.1, .slice a4 h.2.2.length c4, .slice a5 t.length c5] from rfl] at FQ; clear B X R H AM V2; refine bodyPost_ret (v := .tuple #[.agg #[.slice a0 c.1.length c0, .slice b0 c.2.length d0, .slice a1 p.length c1, .int .i64 at_, .int .i64 ph, .int .i64 h.1, .int .i64 h.2.1, .slice a4 h.2.2.length c4, .slice a5 t.length c5], .slice (some ⟨wq.heap.size, 0, none⟩) 1 1, .int .i64 1]) (by simp [results, Tryz.results101, go_sem, r0, r1, r2, r3, r4, r5, r6, r7, r8]) rfl ?_; with_reducible exact FQ)
  ·skip
   obtain ⟨Xc0, Xc1, Xc2, Xc3, Xc4, Xc5, Xc6, Xc7, Xc8⟩ := zAc X
   have Xlt := (Array.getElem?_eq_some_iff.1 X).1
   obtain ⟨Rc0, Rc1, Rc2, Rc3, Rc4, Rc5, Rc6, Rc7, Rc8⟩ := zAc R
   have Rlt := (Array.getElem?_eq_some_iff.1 R).1
   obtain ⟨Hc0, Hc1, Hc2⟩ := zAg H
   have Hlt := (Array.getElem?_eq_some_iff.1 H).1
   go_wp2_with fail
   clear Xc0 Xc1 Xc2 Xc3 Xc4 Xc5 Xc6 Xc7 Xc8 Xlt Rc0 Rc1 Rc2 Rc3 Rc4 Rc5 Rc6 Rc7 Rc8 Rlt Hc0 Hc1 Hc2 Hlt
   refine (zHL [.int .i64 h.1, .int .i64 h.2.1, .slice a4 h.2.2.length c4] h _ (HWR.out _ B)).mono ?_
   rintro e u7w ⟨us, rfl, mm⟩
   obtain ⟨na, nc, e9, -, -, -, -, -⟩ := zAL (zAS.own_rd mm.1)
   obtain rfl : us = [.int .i64 h.1, .int .i64 0, .slice na 0 nc] := e9
   rw [show zAM [.int .i64 h.1, .int .i64 0, .slice na 0 nc] = .agg #[.int .i64 h.1, .int .i64 0, .slice na 0 nc] from rfl]
   have N := zAR (R := zAS) mm
   have mb := mm.2
   have tu7w : u4w.heap.size ≤ u7w.heap.size := mb.size
   replace B := zAb B mb
   replace X := zAa mb X
   replace R := zAa mb R
   replace H := zAa mb H
   clear mb mm
   obtain ⟨Xc0, Xc1, Xc2, Xc3, Xc4, Xc5, Xc6, Xc7, Xc8⟩ := zAc X
   have Xlt := (Array.getElem?_eq_some_iff.1 X).1
   obtain ⟨Xf0, Xf1, Xf2, Xf3, Xf4, Xf5, Xf6, Xf7, Xf8⟩ := zAr X
   obtain ⟨Rc0, Rc1, Rc2, Rc3, Rc4, Rc5, Rc6, Rc7, Rc8⟩ := zAc R
   have Rlt := (Array.getElem?_eq_some_iff.1 R).1
   obtain ⟨Hc0, Hc1, Hc2⟩ := zAg H
   have Hlt := (Array.getElem?_eq_some_iff.1 H).1
   go_upto_region 4 with fail
   clear Xc0 Xc1 Xc2 Xc3 Xc4 Xc5 Xc6 Xc7 Xc8 Xlt Xf0 Xf1 Xf2 Xf3 Xf4 Xf5 Xf6 Xf7 Xf8 Rc0 Rc1 Rc2 Rc3 Rc4 Rc5 Rc6 Rc7 Rc8 Rlt Hc0 Hc1 Hc2 Hlt
   rw [show (((u7w.setCell ⟨w.heap.size, 5, none⟩ (.int .i64 h.1)).setCell ⟨w.heap.size, 6, none⟩ (.int .i64 0)).setCell ⟨w.heap.size, 7, none⟩ (.slice na 0 nc)) = (zAo u7w (w.heap.size) 5 [.int .i64 h.1, .int .i64 0, .slice na 0 nc]) from rfl]
   replace R := zAk (g := w.heap.size) (o := 5) (vs := [.int .i64 h.1, .int .i64 0, .slice na 0 nc]) R (by omega)
   replace H := zAk (g := w.heap.size) (o := 5) (vs := [.int .i64 h.1, .int .i64 0, .slice na 0 nc]) H (by omega)
   replace N := zAw (g := w.heap.size) (o := 5) (vs := [.int .i64 h.1, .int .i64 0, .slice na 0 nc]) N (by omega)
   replace B := zAv (g := w.heap.size) (o := 5) (vs := [.int .i64 h.1, .int .i64 0, .slice na 0 nc]) B (by omega)
   replace X : (zAo u7w (w.heap.size) 5 [.int .i64 h.1, .int .i64 0, .slice na 0 nc]).heap[w.heap.size]? = some (.cells #[.slice a0 c.1.length c0, .slice b0 c.2.length d0, .slice a1 p.length c1, .int .i64 at_, .int .i64 ph, .int .i64 h.1, .int .i64 0, .slice na 0 nc, .slice a5 t.length c5] 41 (0, 0)) := zAC _ _ X
   have tu8w := Nat.le_of_eq (zAj (g := w.heap.size) [.int .i64 h.1, .int .i64 0, .slice na 0 nc] 5 u7w)
   have qu8w := Nat.le_of_eq (zAj (g := w.heap.size) [.int .i64 h.1, .int .i64 0, .slice na 0 nc] 5 u7w).symm
   generalize (zAo u7w (w.heap.size) 5 [.int .i64 h.1, .int .i64 0, .slice na 0 nc]) = u8w at B X R H N tu8w qu8w ⊢
   obtain ⟨hy9, hm9⟩ := HYM.out
   have ehn : zMk h 4 = (h.1, 0, []) := if_pos (.inr rfl)
   rw [ehn] at hy9 hm9
   simp only at hm9
   obtain ⟨am, ham⟩ : ∃ am, am = zJI id h.1 h 0 := ⟨_, rfl⟩
   have HEND : Hid ((c, p, at_, ph, (h.1, 0, []), t) = y9 ∧ am = m9) := And.intro hy9.symm (ham.trans hm9.symm)
   have HAN : Hid (∀ W, Below w.heap.size w W → Calls Tryz.prog 124 #[.int .i64 id, .int .i64 h.1, .agg #[.int .i64 h.1, .int .i64 h.2.1, .slice a4 h.2.2.length c4], .int .i64 0] W fun e w' => ∃ ds, e = .returned (zAM ds) ∧ zAY zBy W w' ds am) := fun W hb => by rw [ham]; exact HAN0.out 0 W hb
   clear hy9 hm9 ham ehn HAN0 HYM
   have hNs := N.2
   obtain ⟨Xc0, Xc1, Xc2, Xc3, Xc4, Xc5, Xc6, Xc7, Xc8⟩ := zAc X
   have Xlt := (Array.getElem?_eq_some_iff.1 X).1
   obtain ⟨Rc0, Rc1, Rc2, Rc3, Rc4, Rc5, Rc6, Rc7, Rc8⟩ := zAc R
   have Rlt := (Array.getElem?_eq_some_iff.1 R).1
   obtain ⟨Hc0, Hc1, Hc2⟩ := zAg H
   have Hlt := (Array.getElem?_eq_some_iff.1 H).1
   go_upto_region 4 with fail
   clear Xc0 Xc1 Xc2 Xc3 Xc4 Xc5 Xc6 Xc7 Xc8 Xlt Rc0 Rc1 Rc2 Rc3 Rc4 Rc5 Rc6 Rc7 Rc8 Rlt Hc0 Hc1 Hc2 Hlt
   replace B := B.drew
   replace N := zCJ N
   replace X := zBj X
   replace R := zBj R
   replace H := zBj H
   obtain ⟨Xc0, Xc1, Xc2, Xc3, Xc4, Xc5, Xc6, Xc7, Xc8⟩ := zAc X
   have Xlt := (Array.getElem?_eq_some_iff.1 X).1
   obtain ⟨Rc0, Rc1, Rc2, Rc3, Rc4, Rc5, Rc6, Rc7, Rc8⟩ := zAc R
   have Rlt := (Array.getElem?_eq_some_iff.1 R).1
   obtain ⟨Rf0, Rf1, Rf2, Rf3, Rf4, Rf5, Rf6, Rf7, Rf8⟩ := zAr R
   obtain ⟨Hc0, Hc1, Hc2⟩ := zAg H
   have Hlt := (Array.getElem?_eq_some_iff.1 H).1
   have neX : Hid (w.heap.size ≠ w.heap.size + 1) := by unfold Hid; omega
   have neH : Hid (u2w.heap.size ≠ w.heap.size + 1) := by unfold Hid; omega
   go_region_held3 (fun wx => wx.cell? ⟨w.heap.size, 0, none⟩ = some (.slice a0 c.1.length c0) ∧ wx.cell? ⟨w.heap.size, 1, none⟩ = some (.slice b0 c.2.length d0) ∧ wx.cell? ⟨w.heap.size, 2, none⟩ = some (.slice a1 p.length c1) ∧ wx.cell? ⟨w.heap.size, 3, none⟩ = some (.int .i64 at_) ∧ wx.cell? ⟨w.heap.size, 4, none⟩ = some (.int .i64 ph) ∧ wx.cell? ⟨w.heap.size, 5, none⟩ = some (.int .i64 h.1) ∧ wx.cell? ⟨w.heap.size, 6, none⟩ = some (.int .i64 0) ∧ wx.cell? ⟨w.heap.size, 7, none⟩ = some (.slice na 0 nc) ∧ wx.cell? ⟨w.heap.size, 8, none⟩ = some (.slice a5 t.length c5) ∧ wx.cell? ⟨u2w.heap.size, 0, none⟩ = some (.int .i64 h.1) ∧ wx.cell? ⟨u2w.heap.size, 1, none⟩ = some (.int .i64 h.2.1) ∧ wx.cell? ⟨u2w.heap.size, 2, none⟩ = some (.slice a4 h.2.2.length c4)) (first | (with_reducible exact ⟨Xc0, Xc1, Xc2, Xc3, Xc4, Xc5, Xc6, Xc7, Xc8, Hc0, Hc1, Hc2⟩) | (with_reducible exact ⟨Xq0, Xq1, Xq2, Xq3, Xq4, Xq5, Xq6, Xq7, Xq8, Hq0, Hq1, Hq2⟩) | (with_reducible exact ⟨cs9 neX.out Xq0, cs9 neX.out Xq1, cs9 neX.out Xq2, cs9 neX.out Xq3, cs9 neX.out Xq4, cs9 neX.out Xq5, cs9 neX.out Xq6, cs9 neX.out Xq7, cs9 neX.out Xq8, cs9 neH.out Hq0, cs9 neH.out Hq1, cs9 neH.out Hq2⟩) | (with_reducible exact ⟨cs9 neX.out Xc0, cs9 neX.out Xc1, cs9 neX.out Xc2, cs9 neX.out Xc3, cs9 neX.out Xc4, cs9 neX.out Xc5, cs9 neX.out Xc6, cs9 neX.out Xc7, cs9 neX.out Xc8, cs9 neH.out Hc0, cs9 neH.out Hc1, cs9 neH.out Hc2⟩) | (with_reducible exact ⟨al9 neX.out HXL.out Xc0, al9 neX.out HXL.out Xc1, al9 neX.out HXL.out Xc2, al9 neX.out HXL.out Xc3, al9 neX.out HXL.out Xc4, al9 neX.out HXL.out Xc5, al9 neX.out HXL.out Xc6, al9 neX.out HXL.out Xc7, al9 neX.out HXL.out Xc8, al9 neH.out HHL.out Hc0, al9 neH.out HHL.out Hc1, al9 neH.out HHL.out Hc2⟩) | fail) (first | (go_at_call 124; refine (HAN.out _ B).mono ?_; rintro e wq ⟨ds, rfl, mm⟩; obtain ⟨ma, mc, rfl, -, -, -, -, -, -, -, -, -⟩ := zBB (zBy.own_rd mm.1); rw [show zAM [.int .i64 am.1, .int .i64 am.2.1, .int .i64 am.2.2.1, .int .i64 am.2.2.2.1, .int .i64 am.2.2.2.2.1, .slice ma am.2.2.2.2.2.1.length mc, .int .i64 am.2.2.2.2.2.2] = .agg #[.int .i64 am.1, .int .i64 am.2.1, .int .i64 am.2.2.1, .int .i64 am.2.2.2.1, .int .i64 am.2.2.2.2.1, .slice ma am.2.2.2.2.2.1.length mc, .int .i64 am.2.2.2.2.2.2] from rfl]; have AM := zAR (R := zBy) mm; have mb := mm.2; have tq : u8w.heap.size ≤ wq.heap.size := mb.size; replace B := zAb B mb; replace X := zAa mb X; replace R := zAa mb R; replace H := zAa mb H; replace N := zA6 N mb; clear mb mm; clear Xc0 Xc1 Xc2 Xc3 Xc4 Xc5 Xc6 Xc7 Xc8 Xlt Rc0 Rc1 Rc2 Rc3 Rc4 Rc5 Rc6 Rc7 Rc8 Rlt Rf0 Rf1 Rf2 Rf3 Rf4 Rf5 Rf6 Rf7 Rf8 Hc0 Hc1 Hc2 Hlt; obtain ⟨Xc0, Xc1, Xc2, Xc3, Xc4, Xc5, Xc6, Xc7, Xc8⟩ := zAc X; have Xlt := (Array.getElem?_eq_some_iff.1 X).1; obtain ⟨Rc0, Rc1, Rc2, Rc3, Rc4, Rc5, Rc6, Rc7, Rc8⟩ := zAc R; have Rlt := (Array.getElem?_eq_some_iff.1 R).1; obtain ⟨Rf0, Rf1, Rf2, Rf3, Rf4, Rf5, Rf6, Rf7, Rf8⟩ := zAr R; obtain ⟨Hc0, Hc1, Hc2⟩ := zAg H; have Hlt := (Array.getElem?_eq_some_iff.1 H).1; have RA := zAa (zAf wq (.cells #[.int .i64 am.1, .int .i64 am.2.1, .int .i64 am.2.2.1, .int .i64 am.2.2.2.1, .int .i64 am.2.2.2.2.1, .slice ma am.2.2.2.2.2.1.length mc, .int .i64 am.2.2.2.2.2.2] 46)) R; obtain ⟨Qc0, Qc1, Qc2, Qc3, Qc4, Qc5, Qc6, Qc7, Qc8⟩ := zAc RA; obtain ⟨Qf0, Qf1, Qf2, Qf3, Qf4, Qf5, Qf6, Qf7, Qf8⟩ := zAr RA; have XA := zAa (zAf wq (.cells #[.int .i64 am.1, .int .i64 am.2.1, .int .i64 am.2.2.1, .int .i64 am.2.2.2.1, .int .i64 am.2.2.2.2.1, .slice ma am.2.2.2.2.2.1.length mc, .int .i64 am.2.2.2.2.2.2] 46)) X; have HA := zAa (zAf wq (.cells #[.int .i64 am.1, .int .i64 am.2.1, .int .i64 am.2.2.1, .int .i64 am.2.2.2.1, .int .i64 am.2.2.2.2.1, .slice ma am.2.2.2.2.2.1.length mc, .int .i64 am.2.2.2.2.2.2] 46)) H; obtain ⟨Xq0, Xq1, Xq2, Xq3, Xq4, Xq5, Xq6, Xq7, Xq8⟩ := zAc XA; obtain ⟨Hq0, Hq1, Hq2⟩ := zAg HA; have HXL : Hid _ := Xlt; have HHL : Hid _ := Hlt; clear RA XA HA Rlt Xlt Hlt; have HK : Hid _ := And.intro B (And.intro X (And.intro R (And.intro H (And.intro N (AM))))); clear B X R H N AM) | fail)
   all_goals go_wp2
   all_goals
    obtain ⟨B, X, R, H, N, AM⟩ := HK.out
    clear HK
    have bsz := B.size
    clear Qc0 Qf0 Rc0 Rf0 Qc1 Qf1 Rc1 Rf1 Qc2 Qf2 Rc2 Rf2 Qc3 Qf3 Rc3 Rf3 Qc4 Qf4 Rc4 Rf4 Qc5 Qf5 Rc5 Rf5 Qc6 Qf6 Rc6 Rf6 Qc7 Qf7 Rc7 Rf7 Qc8 Qf8 Rc8 Rf8 HXL HHL neX neH Xq0 Xq1 Xq2 Xq3 Xq4 Xq5 Xq6 Xq7 Xq8 Hq0 Hq1 Hq2
    first | (have V2 := zAa (zAf _ (.cells #[.int .i64 am.1, .int .i64 am.2.1, .int .i64 am.2.2.1, .int .i64 am.2.2.2.1, .int .i64 am.2.2.2.2.1, .slice ma am.2.2.2.2.2.1.length mc, .int .i64 am.2.2.2.2.2.2] 46)) (zAV (y0 := .slice a0 c.1.length c0) (y1 := .slice b0 c.2.length d0) (y2 := .slice a1 p.length c1) (y3 := .int .i64 at_) (y4 := .int .i64 ph) (y5 := .int .i64 h.1) (y6 := .int .i64 0) (y7 := .slice na 0 nc) (y8 := .slice a5 t.length c5) R); obtain ⟨r0, r1, r2, r3, r4, r5, r6, r7, r8⟩ := zAc V2; have FQ := zEF (S := S) (T := fun k => S k ∨ rng (u4w.heap.size) (u7w.heap.size) k) (U := rng u8w.heap.size wq.heap.size) (k := 1) (r := w.heap.size + 1) (vs := [.slice a0 c.1.length c0, .slice b0 c.2.length d0, .slice a1 p.length c1, .int .i64 at_, .int .i64 ph, .int .i64 h.1, .int .i64 0, .slice na 0 nc, .slice a5 t.length c5]) (cm := [.int .i64 am.1, .int .i64 am.2.1, .int .i64 am.2.2.1, .int .i64 am.2.2.2.1, .int .i64 am.2.2.2.2.1, .slice ma am.2.2.2.2.2.1.length mc, .int .i64 am.2.2.2.2.2.2]) (zA9 B) (zCo (x := (c, p, at_, ph, (h.1, 0, []), t)) (S := fun k => S k ∨ rng (u4w.heap.size) (u7w.heap.size) k) HIN.out.1 HIN.out.2 (zAB.own_keep HOW.out.1 (zAh B)) (zBX.own_keep HOW.out.2.1 (zAh B)) N.1 (zA5.own_keep HOW.out.2.2.1 (zAh B)) (fun k q => .inl (HOW.out.2.2.2.1 k q)) (fun k q => .inl (HOW.out.2.2.2.2.1 k q)) (fun k q => .inr q) (fun k q => .inl (HOW.out.2.2.2.2.2.1 k q)) HOW.out.2.2.2.2.2.2.1 (fun k a b => by have := HSS.out _ (HOW.out.2.2.2.1 k a); have := b.1; omega) HOW.out.2.2.2.2.2.2.2.1 (fun k a b => by have := HSS.out _ (HOW.out.2.2.2.2.1 k a); have := b.1; omega) HOW.out.2.2.2.2.2.2.2.2 (fun k a b => by have := HSS.out _ (HOW.out.2.2.2.2.2.1 k b); have := a.1; omega)) AM.1 (fun j a b => by have := b.1; rcases a with a | a; (have := HSS.out _ a; omega); (have := a.2; omega)) (fun j q => by rcases q with q | q; exact ⟨.inl q, by have := HSS.out _ q; omega⟩; exact ⟨.inr (by have := q.1; omega), by have := q.2; omega⟩) (fun j q => ⟨.inr (by have := q.1; omega), q.2⟩) (by omega) (fun q => by rcases q with q | q; (have := HSS.out _ q; omega); (have := q.1; omega)) (fun q => by have := q.1; omega); simp only [zA0, zA3, Nat.reduceAdd] at FQ; obtain ⟨e1, e2⟩ := HEND.out; subst e2; rw [e1] at FQ; rw [show zAM [.slice a0 c.1.length c0, .slice b0 c.2.length d0, .slice a1 p.length c1, .int .i64 at_, .int .i64 ph, .int .i64 h.1, .int .i64 0, .slice na 0 nc, .slice a5 t.length c5] = .agg #[.slice a0 c.1.length c0, .slice b0 c.2.length d0, .slice a1 p.length c1, .int .i64 at_, .int .i64 ph, .int .i64 h.1, .int .i64 0, .slice na 0 nc, .slice a5 t.length c5] from rfl] at FQ; clear B X R H N AM V2; refine bodyPost_ret (v := .tuple #[.agg #[.slice a0 c.1.length c0, .slice b0 c.2.length d0, .slice a1 p.length c1, .int .i64 at_, .int .i64 ph, .int .i64 h.1, .int .i64 0, .slice na 0 nc, .slice a5 t.length c5], .slice (some ⟨wq.heap.size, 0, none⟩) 1 1, .int .i64 1]) (by simp [results, Tryz.results101, go_sem, r0, r1, r2, r3, r4, r5, r6, r7, r8]) rfl ?_; with_reducible exact FQ) | (have V2 := zAV (y0 := .slice a0 c.1.length c0) (y1 := .slice b0 c.2.length d0) (y2 := .slice a1 p.length c1) (y3 := .int .i64 at_) (y4 := .int .i64 ph) (y5 := .int .i64 h.1) (y6 := .int .i64 0) (y7 := .slice na 0 nc) (y8 := .slice a5 t.length c5) (zAa (zAf _ (.cells #[.int .i64 am.1, .int .i64 am.2.1, .int .i64 am.2.2.1, .int .i64 am.2.2.2.1, .int .i64 am.2.2.2.2.1, .slice ma am.2.2.2.2.2.1.length mc, .int .i64 am.2.2.2.2.2.2] 46)) R); obtain ⟨r0, r1, r2, r3, r4, r5, r6, r7, r8⟩ := zAc V2; have FQ := zDE (S := S) (T := fun k => S k ∨ rng (u4w.heap.size) (u7w.heap.size) k) (U := rng u8w.heap.size wq.heap.size) (k := 1) (r := w.heap.size + 1) (vs := [.slice a0 c.1.length c0, .slice b0 c.2.length d0, .slice a1 p.length c1, .int .i64 at_, .int .i64 ph, .int .i64 h.1, .int .i64 0, .slice na 0 nc, .slice a5 t.length c5]) (cm := [.int .i64 am.1, .int .i64 am.2.1, .int .i64 am.2.2.1, .int .i64 am.2.2.2.1, .int .i64 am.2.2.2.2.1, .slice ma am.2.2.2.2.2.1.length mc, .int .i64 am.2.2.2.2.2.2]) (zA9 B) (zCo (x := (c, p, at_, ph, (h.1, 0, []), t)) (S := fun k => S k ∨ rng (u4w.heap.size) (u7w.heap.size) k) HIN.out.1 HIN.out.2 (zAB.own_keep HOW.out.1 (zAh B)) (zBX.own_keep HOW.out.2.1 (zAh B)) N.1 (zA5.own_keep HOW.out.2.2.1 (zAh B)) (fun k q => .inl (HOW.out.2.2.2.1 k q)) (fun k q => .inl (HOW.out.2.2.2.2.1 k q)) (fun k q => .inr q) (fun k q => .inl (HOW.out.2.2.2.2.2.1 k q)) HOW.out.2.2.2.2.2.2.1 (fun k a b => by have := HSS.out _ (HOW.out.2.2.2.1 k a); have := b.1; omega) HOW.out.2.2.2.2.2.2.2.1 (fun k a b => by have := HSS.out _ (HOW.out.2.2.2.2.1 k a); have := b.1; omega) HOW.out.2.2.2.2.2.2.2.2 (fun k a b => by have := HSS.out _ (HOW.out.2.2.2.2.2.1 k b); have := a.1; omega)) AM.1 (fun j a b => by have := b.1; rcases a with a | a; (have := HSS.out _ a; omega); (have := a.2; omega)) (fun j q => by rcases q with q | q; exact ⟨.inl q, by have := HSS.out _ q; omega⟩; exact ⟨.inr (by have := q.1; omega), by have := q.2; omega⟩) (fun j q => ⟨.inr (by have := q.1; omega), q.2⟩) (by omega) (fun q => by rcases q with q | q; (have := HSS.out _ q; omega); (have := q.1; omega)) (fun q => by have := q.1; omega) (Array.getElem?_eq_some_iff.1 R).1; simp only [zA0, zA3, Nat.reduceAdd] at FQ; obtain ⟨e1, e2⟩ := HEND.out; subst e2; rw [e1] at FQ; rw [show zAM [.slice a0 c.1.length c0, .slice b0 c.2.length d0, .slice a1 p.length c1, .int .i64 at_, .int .i64 ph, .int .i64 h.1, .int .i64 0, .slice na 0 nc, .slice a5 t.length c5] = .agg #[.slice a0 c.1.length c0, .slice b0 c.2.length d0, .slice a1 p.length c1, .int .i64 at_, .int .i64 ph, .int .i64 h.1, .int .i64 0, .slice na 0 nc, .slice a5 t.length c5] from rfl] at FQ; clear B X R H N AM V2; refine bodyPost_ret (v := .tuple #[.agg #[.slice a0 c.1.length c0, .slice b0 c.2.length d0, .slice a1 p.length c1, .int .i64 at_, .int .i64 ph, .int .i64 h.1, .int .i64 0, .slice na 0 nc, .slice a5 t.length c5], .slice (some ⟨wq.heap.size, 0, none⟩) 1 1, .int .i64 1]) (by simp [results, Tryz.results101, go_sem, r0, r1, r2, r3, r4, r5, r6, r7, r8]) rfl ?_; with_reducible exact FQ)
end Go.Proofs.YtoihjejenjcokaaGreatDoor
