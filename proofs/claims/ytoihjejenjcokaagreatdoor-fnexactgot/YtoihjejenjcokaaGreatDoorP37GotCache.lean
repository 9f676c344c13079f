import Derived.Test.YtoihjejenjcokaaGreatDoorP00Box
import Derived.Test.YtoihjejenjcokaaGreatDoorP30GotQ
import Derived.Test.YtoihjejenjcokaaGreatDoorP12Finds
import Derived.Test.YtoihjejenjcokaaGreatDoorP15AppAny
import Derived.Deep.RegionHeld3
namespace Go.Proofs.YtoihjejenjcokaaGreatDoor
set_option maxHeartbeats 16000000
set_option maxRecDepth 20000
open Go.ChangeShapes Go.WideShapes Go.ChangeAt Go.RowKit
set_option linter.unusedVariables false
theorem Hold.chg {w w' : World} {S : zAX} (h : Hold w) (c : Chg S w w') (h0 : ¬ S 0) : Hold w' := by
 have hl := h.lt
 obtain ⟨t, fz, h⟩ := h
 exact ⟨t, fz, (c.block 0 hl h0).trans h⟩
theorem zNE {c : zAu} (h : okc c) (k : Int) : zAQ (zAD c k).2.1 0 3 = true ∧ (zAD c k).2.2.length ≤ 2 := by
 rcases way_or h k with ⟨-, e⟩ | ⟨-, -, -, hf⟩
 ·rw [e]; decide
 ·obtain ⟨f1, f2, f3⟩ := zB0 hf
  have := zD4 f3
  refine ⟨?_, by omega⟩
  simp only [zAQ, decide_eq_true_eq]
  omega
theorem nxt_in {s e : Int} (hs : zAQ s 0 3 = true) (he : e = 3 ∨ e = 4) : zBk (nxt s e) := by
 rcases zIQ hs with rfl | rfl | rfl | rfl <;> rcases he with rfl | rfl <;> (constructor <;> decide)
theorem zEy {c : zAu} {k : Int} {j : Nat} {u : zAU} (h : atC c k = some j) : ((c.1.set (zAF c k) ((zAm c k).set j u), c.2) : zAu) = zDZ c k u := by
 unfold zDZ
 rw [h]
theorem zNF {c : zAu} {k : Int} {u : zAU} (h : atC c k = none) : zDZ c k u = c := by
 unfold zDZ
 rw [h]
theorem zFL (S : zAX) (cs : List Value) (x : zAE) (id k e : Int) (w : World) (hh : Hold w) (ho : zAn.own w S cs x) (hS : ∀ k, S k → k < w.heap.size) (hk : zAZ x = true) (hid : zBk id) (hbk : zAQ k 0 15 = true) (he : e = 3 ∨ e = 4) (h0 : ¬ S 0) (hat : atC x.1 k = none) :
    Calls Tryz.prog 102 #[zAM cs, .int .i64 id, .int .i64 k, .int .i64 e] w fun e' w' => zEI S w (inC x k e) [inM x id k e] 1 e' w' := by
 have hp := zB4 hk
 have hok : OkC isL zAJ x.1 := hp.ok
 obtain ⟨hwst, hwln⟩ := zNE hok k
 obtain ⟨y9, hy9⟩ : ∃ y9, y9 = inC x k e := ⟨_, rfl⟩
 obtain ⟨m9, hm9⟩ : ∃ m9, m9 = inM x id k e := ⟨_, rfl⟩
 rw [← hy9, ← hm9]
 unfold inC at hy9
 unfold inM at hm9
 obtain ⟨v0, v1, v2, v5, v6, v7, v8, S0, S1, S4, S5, rfl, i2, i3, o0, o1, o4, o5, sb0, sb1, sb4, sb5, d01, d04, d05, d14, d15, d45⟩ := zBd ho
 have r0 := zAB.own_rd o0
 obtain ⟨a0, c0, b0, d0, e0, -⟩ := zAH r0
 simp only [List.cons.injEq, and_true] at e0
 obtain ⟨rfl, rfl⟩ := e0
 obtain ⟨a1, c1, e1, -⟩ := zBX.own_rd o1
 simp only [List.cons.injEq, and_true] at e1
 obtain rfl := e1
 obtain ⟨a4, c4, e4, ih1, ih2, -, -, -⟩ := zAL (zAS.own_rd o4)
 simp only [List.cons.injEq, and_true] at e4
 obtain ⟨rfl, rfl, rfl⟩ := e4
 obtain ⟨a5, c5, e5, -⟩ := zA5.own_rd o5
 simp only [List.cons.injEq, and_true] at e5
 obtain rfl := e5
 obtain ⟨u0, w0, T1, T2, e9, c1o, c2o, t1, t2, t12⟩ := zCe o0
 simp only [List.cons.injEq, and_true] at e9
 obtain ⟨rfl, rfl⟩ := e9
 have HO : Hid (∀ W, Below w.heap.size w W → zAn.own W S [.slice a0 x.1.1.length c0, .slice b0 x.1.2.length d0, .slice a1 x.2.1.length c1, .int .i64 x.2.2.1, .int .i64 x.2.2.2.1, .int .i64 x.2.2.2.2.1.1, .int .i64 x.2.2.2.2.1.2.1, .slice a4 x.2.2.2.2.1.2.2.length c4, .slice a5 x.2.2.2.2.2.length c5] x) := fun W hb => zAn.own_keep ho (zAh hb)
 have HFI : Hid (∀ W, Below w.heap.size w W → Calls Tryz.prog 125 #[.agg #[.slice a0 x.1.1.length c0, .slice b0 x.1.2.length d0], .int .i64 k] W fun e w' => ∃ us, e = .returned (.tuple #[zAM us, .int .i64 (zDU x.1 k).2]) ∧ zAY zAS W w' us (zAD x.1 k)) := fun W hb => by rw [← zN4 hok]; exact zGS [.slice a0 x.1.1.length c0, .slice b0 x.1.2.length d0] x.1 k W (zAN r0 hb)
 have HFD : Hid (∀ W, Below w.heap.size w W → Calls Tryz.prog 95 #[.agg #[.slice a0 x.1.1.length c0, .slice b0 x.1.2.length d0], .int .i64 k] W fun e w' => e = .returned (.tuple #[.agg #[.int .i64 ((zAF x.1 k : Nat) : Int), .int .i64 (zGc (atC x.1 k))], .bool (atC x.1 k).isSome]) ∧ Below W.heap.size W w') := fun W hb => by have := zFI [.slice a0 x.1.1.length c0, .slice b0 x.1.2.length d0] x.1 k W hok (zAN r0 hb); rw [zE8 hok, hbk] at this; exact this
 have hlf64 := nxt_in hwst he
 have HNX : Hid (∀ W, Calls Tryz.prog 126 #[.int .i64 (zAD x.1 k).2.1, .int .i64 e] W fun e' w' => e' = .returned (.tuple #[.int .i64 (nxt (zAD x.1 k).2.1 e), .bool (zGb (zAD x.1 k).2.1 e).isSome]) ∧ Below W.heap.size W w') := fun W => zEl (zAD x.1 k).2.1 e W (WalkArith.wf_i64 (by simp only [zAQ, decide_eq_true_eq] at hwst; omega)) (WalkArith.wf_i64 (by omega))
 rw [zNF hat] at hy9
 rw [hat] at HFD
 have HF2 : Hid (∀ W, Below w.heap.size w W → Calls Tryz.prog 95 #[.agg #[.slice a0 x.1.1.length c0, .slice b0 x.1.2.length d0], .int .i64 k] W fun e w' => e = .returned (.tuple #[.agg #[.int .i64 ((zAF x.1 k : Nat) : Int), .int .i64 (-1)], .bool false]) ∧ Below W.heap.size W w') := HFD
 clear HFD
 obtain ⟨c, p, at_, ph, h, t⟩ := x
 simp only at *
 clear hp hat
 generalize zAF c k = sn at HF2
 generalize zAD c k = fw at HFI HNX hy9 hm9 hwst hwln hlf64
 generalize zDU c k = fi at HFI
 obtain ⟨fi0, fn⟩ := fi
 simp only at HFI
 generalize hlf : nxt fw.2.1 e = lf at HNX hy9 hm9 hlf64
 clear hlf
 generalize (zGb fw.2.1 e).isSome = nb at HNX
 have HHH : Hid (Hold w) := hh
 have HSS : Hid (∀ k, S k → k < w.heap.size) := hS
 have HIN : Hid _ := And.intro i2 i3
 have HOW : Hid _ := And.intro c1o (And.intro c2o (And.intro o1 (And.intro o4 (And.intro o5 (And.intro sb0 (And.intro sb1 (And.intro sb4 (And.intro sb5 (And.intro d01 (And.intro d04 (And.intro d05 (And.intro d14 (And.intro d15 (And.intro d45 (And.intro t1 (And.intro t2 t12))))))))))))))))
 obtain ⟨am, ham⟩ : ∃ am, am = zJI id k fw lf := ⟨_, rfl⟩
 have hk64 : zBk k := by simp only [zAQ, decide_eq_true_eq] at hbk; constructor <;> omega
 have HAN : Hid (∀ (W : World) (fa : Option Addr) (fc : Nat), Hold W → zAS.rd W [.int .i64 fw.1, .int .i64 fw.2.1, .slice fa fw.2.2.length fc] fw → Calls Tryz.prog 124 #[.int .i64 id, .int .i64 k, .agg #[.int .i64 fw.1, .int .i64 fw.2.1, .slice fa fw.2.2.length fc], .int .i64 lf] W fun e w' => ∃ ds, e = .returned (zAM ds) ∧ zAY zBy W w' ds am) := fun W fa fc hd hr => by rw [ham]; exact zEx id k lf [.int .i64 fw.1, .int .i64 fw.2.1, .slice fa fw.2.2.length fc] fw W hd hr hwst (by omega) hid hk64
 have HEND : Hid ((c, p, at_, ph, h, t) = y9 ∧ am = m9) := And.intro hy9.symm (ham.trans hm9.symm)
 clear ham hy9 hm9 ho hS r0 o0 o1 o4 o5 c1o c2o sb0 sb1 sb4 sb5 d01 d04 d05 d14 d15 d45 t1 t2 t12 i2 i3 ih1 ih2 hk hok hh hwst hwln hbk
 rw [show zAM [.slice a0 c.1.length c0, .slice b0 c.2.length d0, .slice a1 p.length c1, .int .i64 at_, .int .i64 ph, .int .i64 h.1, .int .i64 h.2.1, .slice a4 h.2.2.length c4, .slice a5 t.length c5] = .agg #[.slice a0 c.1.length c0, .slice b0 c.2.length d0, .slice a1 p.length c1, .int .i64 at_, .int .i64 ph, .int .i64 h.1, .int .i64 h.2.1, .slice a4 h.2.2.length c4, .slice a5 t.length c5] from rfl]
 have B := Below.refl w.heap.size w
 go_enter Tryz.func102, Tryz.ntmps102
 go_wp2_with fail
 generalize hu1w : w.alloc _ = u1w
 have X := boxH hu1w
 have bz := boxB hu1w
 have zX := boxL hu1w
 clear hu1w
 replace B := zAb B bz
 clear bz
 have zXa := Nat.le_of_eq zX
 have zXb := Nat.le_of_eq zX.symm
 clear zX
 generalize hu2w : u1w.alloc _ = u2w
 have R := boxH hu2w
 have bz := boxB hu2w
 have zR := boxL hu2w
 clear hu2w
 rw [show u1w.heap.size = w.heap.size + 1 from by omega] at R
 replace B := zAb B bz
 replace X := zAa bz X
 clear bz
 have zRa := Nat.le_of_eq zR
 have zRb := Nat.le_of_eq zR.symm
 clear zR
 refine (HFI.out _ B).mono ?_
 rintro e u3w ⟨us, rfl, mm⟩
 obtain ⟨fa, fc, rfl, -, -, -, -, -⟩ := zAL (zAS.own_rd mm.1)
 rw [show zAM [.int .i64 fw.1, .int .i64 fw.2.1, .slice fa fw.2.2.length fc] = .agg #[.int .i64 fw.1, .int .i64 fw.2.1, .slice fa fw.2.2.length fc] from rfl]
 have F := zAR (R := zAS) mm
 have mb := mm.2
 have tu3w : u2w.heap.size ≤ u3w.heap.size := mb.size
 replace B := zAb B mb
 replace X := zAa mb X
 replace R := zAa mb R
 clear mb mm
 obtain ⟨Xc0, Xc1, Xc2, Xc3, Xc4, Xc5, Xc6, Xc7, Xc8⟩ := zAc X
 have Xlt := (Array.getElem?_eq_some_iff.1 X).1
 obtain ⟨Rc0, Rc1, Rc2, Rc3, Rc4, Rc5, Rc6, Rc7, Rc8⟩ := zAc R
 have Rlt := (Array.getElem?_eq_some_iff.1 R).1
 go_upto_region 2 with fail
 clear Xc0 Xc1 Xc2 Xc3 Xc4 Xc5 Xc6 Xc7 Xc8 Xlt Rc0 Rc1 Rc2 Rc3 Rc4 Rc5 Rc6 Rc7 Rc8 Rlt
 generalize hu4w : u3w.alloc _ = u4w
 have H := boxH hu4w
 have bz := boxB hu4w
 have zH := boxL hu4w
 clear hu4w
 replace B := zAb B bz
 replace X := zAa bz X
 replace R := zAa bz R
 replace F := zA6 F bz
 clear bz
 have zHa := Nat.le_of_eq zH
 have zHb := Nat.le_of_eq zH.symm
 clear zH
 obtain ⟨Xc0, Xc1, Xc2, Xc3, Xc4, Xc5, Xc6, Xc7, Xc8⟩ := zAc X
 have Xlt := (Array.getElem?_eq_some_iff.1 X).1
 obtain ⟨Rc0, Rc1, Rc2, Rc3, Rc4, Rc5, Rc6, Rc7, Rc8⟩ := zAc R
 have Rlt := (Array.getElem?_eq_some_iff.1 R).1
 obtain ⟨Hc0, Hc1, Hc2⟩ := zAg H
 have Hlt := (Array.getElem?_eq_some_iff.1 H).1
 go_wp2_with fail
 clear Xc0 Xc1 Xc2 Xc3 Xc4 Xc5 Xc6 Xc7 Xc8 Xlt Rc0 Rc1 Rc2 Rc3 Rc4 Rc5 Rc6 Rc7 Rc8 Rlt Hc0 Hc1 Hc2 Hlt
 refine (HNX.out _).mono ?_
 rintro e u5w ⟨rfl, bq⟩
 have tu5w : u4w.heap.size ≤ u5w.heap.size := bq.size
 replace B := zAb B bq
 replace X := zAa bq X
 replace R := zAa bq R
 replace H := zAa bq H
 replace F := zA6 F bq
 clear bq
 obtain ⟨Xc0, Xc1, Xc2, Xc3, Xc4, Xc5, Xc6, Xc7, Xc8⟩ := zAc X
 have Xlt := (Array.getElem?_eq_some_iff.1 X).1
 obtain ⟨Rc0, Rc1, Rc2, Rc3, Rc4, Rc5, Rc6, Rc7, Rc8⟩ := zAc R
 have Rlt := (Array.getElem?_eq_some_iff.1 R).1
 obtain ⟨Hc0, Hc1, Hc2⟩ := zAg H
 have Hlt := (Array.getElem?_eq_some_iff.1 H).1
 go_wp2_with fail
 clear Xc0 Xc1 Xc2 Xc3 Xc4 Xc5 Xc6 Xc7 Xc8 Xlt Rc0 Rc1 Rc2 Rc3 Rc4 Rc5 Rc6 Rc7 Rc8 Rlt Hc0 Hc1 Hc2 Hlt
 refine (HF2.out _ B).mono ?_
 rintro e u6w ⟨rfl, bq⟩
 have tu6w : u5w.heap.size ≤ u6w.heap.size := bq.size
 replace B := zAb B bq
 replace X := zAa bq X
 replace R := zAa bq R
 replace H := zAa bq H
 replace F := zA6 F bq
 clear bq
 obtain ⟨Xc0, Xc1, Xc2, Xc3, Xc4, Xc5, Xc6, Xc7, Xc8⟩ := zAc X
 have Xlt := (Array.getElem?_eq_some_iff.1 X).1
 obtain ⟨Rc0, Rc1, Rc2, Rc3, Rc4, Rc5, Rc6, Rc7, Rc8⟩ := zAc R
 have Rlt := (Array.getElem?_eq_some_iff.1 R).1
 obtain ⟨Hc0, Hc1, Hc2⟩ := zAg H
 have Hlt := (Array.getElem?_eq_some_iff.1 H).1
 go_upto_region 4 with fail
 clear Xc0 Xc1 Xc2 Xc3 Xc4 Xc5 Xc6 Xc7 Xc8 Xlt Rc0 Rc1 Rc2 Rc3 Rc4 Rc5 Rc6 Rc7 Rc8 Rlt Hc0 Hc1 Hc2 Hlt
 generalize hu7w : u6w.alloc _ = u7w
 have P := boxH hu7w
 have bz := boxB hu7w
 have zP := boxL hu7w
 clear hu7w
 replace B := zAb B bz
 replace X := zAa bz X
 replace R := zAa bz R
 replace H := zAa bz H
 replace F := zA6 F bz
 clear bz
 have zPa := Nat.le_of_eq zP
 have zPb := Nat.le_of_eq zP.symm
 clear zP
 obtain ⟨Xc0, Xc1, Xc2, Xc3, Xc4, Xc5, Xc6, Xc7, Xc8⟩ := zAc X
 have Xlt := (Array.getElem?_eq_some_iff.1 X).1
 obtain ⟨Rc0, Rc1, Rc2, Rc3, Rc4, Rc5, Rc6, Rc7, Rc8⟩ := zAc R
 have Rlt := (Array.getElem?_eq_some_iff.1 R).1
 obtain ⟨Hc0, Hc1, Hc2⟩ := zAg H
 have Hlt := (Array.getElem?_eq_some_iff.1 H).1
 obtain ⟨Pc0, Pc1⟩ := zAx P
 have Plt := (Array.getElem?_eq_some_iff.1 P).1
 go_upto_region 6 with fail
 clear Xc0 Xc1 Xc2 Xc3 Xc4 Xc5 Xc6 Xc7 Xc8 Xlt Rc0 Rc1 Rc2 Rc3 Rc4 Rc5 Rc6 Rc7 Rc8 Rlt Hc0 Hc1 Hc2 Hlt Pc0 Pc1 Plt
 skip
 replace F := zCJ F
 replace B := B.drew
 replace X := zBj X
 replace R := zBj R
 replace H := zBj H
 replace P := zBj P
 obtain ⟨Xc0, Xc1, Xc2, Xc3, Xc4, Xc5, Xc6, Xc7, Xc8⟩ := zAc X
 have Xlt := (Array.getElem?_eq_some_iff.1 X).1
 obtain ⟨Rc0, Rc1, Rc2, Rc3, Rc4, Rc5, Rc6, Rc7, Rc8⟩ := zAc R
 have Rlt := (Array.getElem?_eq_some_iff.1 R).1
 obtain ⟨Rf0, Rf1, Rf2, Rf3, Rf4, Rf5, Rf6, Rf7, Rf8⟩ := zAr R
 obtain ⟨Hc0, Hc1, Hc2⟩ := zAg H
 have Hlt := (Array.getElem?_eq_some_iff.1 H).1
 obtain ⟨Pc0, Pc1⟩ := zAx P
 have Plt := (Array.getElem?_eq_some_iff.1 P).1
 have neX : Hid (w.heap.size ≠ w.heap.size + 1) := by unfold Hid; omega
 have neH : Hid (u3w.heap.size ≠ w.heap.size + 1) := by unfold Hid; omega
 go_region_held3 (fun wx => wx.cell? ⟨w.heap.size, 0, none⟩ = some (.slice a0 c.1.length c0) ∧ wx.cell? ⟨w.heap.size, 1, none⟩ = some (.slice b0 c.2.length d0) ∧ wx.cell? ⟨w.heap.size, 2, none⟩ = some (.slice a1 p.length c1) ∧ wx.cell? ⟨w.heap.size, 3, none⟩ = some (.int .i64 at_) ∧ wx.cell? ⟨w.heap.size, 4, none⟩ = some (.int .i64 ph) ∧ wx.cell? ⟨w.heap.size, 5, none⟩ = some (.int .i64 h.1) ∧ wx.cell? ⟨w.heap.size, 6, none⟩ = some (.int .i64 h.2.1) ∧ wx.cell? ⟨w.heap.size, 7, none⟩ = some (.slice a4 h.2.2.length c4) ∧ wx.cell? ⟨w.heap.size, 8, none⟩ = some (.slice a5 t.length c5) ∧ wx.cell? ⟨u3w.heap.size, 0, none⟩ = some (.int .i64 fw.1) ∧ wx.cell? ⟨u3w.heap.size, 1, none⟩ = some (.int .i64 fw.2.1) ∧ wx.cell? ⟨u3w.heap.size, 2, none⟩ = some (.slice fa fw.2.2.length fc)) (first | (with_reducible exact ⟨Xc0, Xc1, Xc2, Xc3, Xc4, Xc5, Xc6, Xc7, Xc8, Hc0, Hc1, Hc2⟩) | (with_reducible exact ⟨Xq0, Xq1, Xq2, Xq3, Xq4, Xq5, Xq6, Xq7, Xq8, Hq0, Hq1, Hq2⟩) | (with_reducible exact ⟨cs9 neX.out Xq0, cs9 neX.out Xq1, cs9 neX.out Xq2, cs9 neX.out Xq3, cs9 neX.out Xq4, cs9 neX.out Xq5, cs9 neX.out Xq6, cs9 neX.out Xq7, cs9 neX.out Xq8, cs9 neH.out Hq0, cs9 neH.out Hq1, cs9 neH.out Hq2⟩) | (with_reducible exact ⟨cs9 neX.out Xc0, cs9 neX.out Xc1, cs9 neX.out Xc2, cs9 neX.out Xc3, cs9 neX.out Xc4, cs9 neX.out Xc5, cs9 neX.out Xc6, cs9 neX.out Xc7, cs9 neX.out Xc8, cs9 neH.out Hc0, cs9 neH.out Hc1, cs9 neH.out Hc2⟩) | (with_reducible exact ⟨al9 neX.out HXL.out Xc0, al9 neX.out HXL.out Xc1, al9 neX.out HXL.out Xc2, al9 neX.out HXL.out Xc3, al9 neX.out HXL.out Xc4, al9 neX.out HXL.out Xc5, al9 neX.out HXL.out Xc6, al9 neX.out HXL.out Xc7, al9 neX.out HXL.out Xc8, al9 neH.out HHL.out Hc0, al9 neH.out HHL.out Hc1, al9 neH.out HHL.out Hc2⟩) | fail) (first | (go_at_call 124; refine (HAN.out _ fa fc (HHH.out.goes B) (zAS.own_rd F.1)).mono ?_; rintro e wq ⟨ds, rfl, mm⟩; obtain ⟨ma, mc, rfl, -, -, -, -, -, -, -, -, -⟩ := zBB (zBy.own_rd mm.1); rw [show zAM [.int .i64 am.1, .int .i64 am.2.1, .int .i64 am.2.2.1, .int .i64 am.2.2.2.1, .int .i64 am.2.2.2.2.1, .slice ma am.2.2.2.2.2.1.length mc, .int .i64 am.2.2.2.2.2.2] = .agg #[.int .i64 am.1, .int .i64 am.2.1, .int .i64 am.2.2.1, .int .i64 am.2.2.2.1, .int .i64 am.2.2.2.2.1, .slice ma am.2.2.2.2.2.1.length mc, .int .i64 am.2.2.2.2.2.2] from rfl]; have AM := zAR (R := zBy) mm; have mb := mm.2; have tq : u7w.heap.size ≤ wq.heap.size := mb.size; replace B := zAb B mb; replace X := zAa mb X; replace R := zAa mb R; replace H := zAa mb H; replace P := zAa mb P; replace F := zA6 F mb; clear mb mm; clear Xc0 Xc1 Xc2 Xc3 Xc4 Xc5 Xc6 Xc7 Xc8 Xlt Rc0 Rc1 Rc2 Rc3 Rc4 Rc5 Rc6 Rc7 Rc8 Rlt Rf0 Rf1 Rf2 Rf3 Rf4 Rf5 Rf6 Rf7 Rf8 Hc0 Hc1 Hc2 Hlt Pc0 Pc1 Plt; obtain ⟨Xc0, Xc1, Xc2, Xc3, Xc4, Xc5, Xc6, Xc7, Xc8⟩ := zAc X; have Xlt := (Array.getElem?_eq_some_iff.1 X).1; obtain ⟨Rc0, Rc1, Rc2, Rc3, Rc4, Rc5, Rc6, Rc7, Rc8⟩ := zAc R; have Rlt := (Array.getElem?_eq_some_iff.1 R).1; obtain ⟨Rf0, Rf1, Rf2, Rf3, Rf4, Rf5, Rf6, Rf7, Rf8⟩ := zAr R; obtain ⟨Hc0, Hc1, Hc2⟩ := zAg H; have Hlt := (Array.getElem?_eq_some_iff.1 H).1; obtain ⟨Pc0, Pc1⟩ := zAx P; have Plt := (Array.getElem?_eq_some_iff.1 P).1; have RA := zAa (zAf wq (.cells #[.int .i64 am.1, .int .i64 am.2.1, .int .i64 am.2.2.1, .int .i64 am.2.2.2.1, .int .i64 am.2.2.2.2.1, .slice ma am.2.2.2.2.2.1.length mc, .int .i64 am.2.2.2.2.2.2] 46)) R; obtain ⟨Qc0, Qc1, Qc2, Qc3, Qc4, Qc5, Qc6, Qc7, Qc8⟩ := zAc RA; obtain ⟨Qf0, Qf1, Qf2, Qf3, Qf4, Qf5, Qf6, Qf7, Qf8⟩ := zAr RA; have XA := zAa (zAf wq (.cells #[.int .i64 am.1, .int .i64 am.2.1, .int .i64 am.2.2.1, .int .i64 am.2.2.2.1, .int .i64 am.2.2.2.2.1, .slice ma am.2.2.2.2.2.1.length mc, .int .i64 am.2.2.2.2.2.2] 46)) X; have HA := zAa (zAf wq (.cells #[.int .i64 am.1, .int .i64 am.2.1, .int .i64 am.2.2.1, .int .i64 am.2.2.2.1, .int .i64 am.2.2.2.2.1, .slice ma am.2.2.2.2.2.1.length mc, .int .i64 am.2.2.2.2.2.2] 46)) H; obtain ⟨Xq0, Xq1, Xq2, Xq3, Xq4, Xq5, Xq6, Xq7, Xq8⟩ := zAc XA; obtain ⟨Hq0, Hq1, Hq2⟩ := zAg HA; have HXL : Hid _ := Xlt; have HHL : Hid _ := Hlt; clear RA XA HA Rlt Xlt Hlt; have HK : Hid _ := And.intro X (And.intro R (And.intro H (And.intro P (And.intro F (And.intro B (AM)))))); clear X R H P F B AM) | fail)
 all_goals go_wp2
 all_goals
  obtain ⟨X, R, H, P, F, B, AM⟩ := HK.out
  clear HK
  have bsz := B.size
  clear Qc0 Qf0 Rc0 Rf0 Qc1 Qf1 Rc1 Rf1 Qc2 Qf2 Rc2 Rf2 Qc3 Qf3 Rc3 Rf3 Qc4 Qf4 Rc4 Rf4 Qc5 Qf5 Rc5 Rf5 Qc6 Qf6 Rc6 Rf6 Qc7 Qf7 Rc7 Rf7 Qc8 Qf8 Rc8 Rf8 HXL HHL neX neH Xq0 Xq1 Xq2 Xq3 Xq4 Xq5 Xq6 Xq7 Xq8 Hq0 Hq1 Hq2
  first | (have V2 := zAa (zAf _ (.cells #[.int .i64 am.1, .int .i64 am.2.1, .int .i64 am.2.2.1, .int .i64 am.2.2.2.1, .int .i64 am.2.2.2.2.1, .slice ma am.2.2.2.2.2.1.length mc, .int .i64 am.2.2.2.2.2.2] 46)) (zAV (y0 := .slice a0 c.1.length c0) (y1 := .slice b0 c.2.length d0) (y2 := .slice a1 p.length c1) (y3 := .int .i64 at_) (y4 := .int .i64 ph) (y5 := .int .i64 h.1) (y6 := .int .i64 h.2.1) (y7 := .slice a4 h.2.2.length c4) (y8 := .slice a5 t.length c5) R); obtain ⟨r0, r1, r2, r3, r4, r5, r6, r7, r8⟩ := zAc V2; have FQ := zEF (S := S) (T := S) (U := rng u7w.heap.size wq.heap.size) (k := 1) (r := w.heap.size + 1) (vs := [.slice a0 c.1.length c0, .slice b0 c.2.length d0, .slice a1 p.length c1, .int .i64 at_, .int .i64 ph, .int .i64 h.1, .int .i64 h.2.1, .slice a4 h.2.2.length c4, .slice a5 t.length c5]) (cm := [.int .i64 am.1, .int .i64 am.2.1, .int .i64 am.2.2.1, .int .i64 am.2.2.2.1, .int .i64 am.2.2.2.2.1, .slice ma am.2.2.2.2.2.1.length mc, .int .i64 am.2.2.2.2.2.2]) (zA9 B) (HO.out _ B) AM.1 (fun j a b => by have := b.1; have := HSS.out _ a; omega) (fun j q => ⟨.inl q, by have := HSS.out _ q; omega⟩) (fun j q => ⟨.inr (by have := q.1; omega), q.2⟩) (by omega) (fun q => by have := HSS.out _ q; omega) (fun q => by have := q.1; omega); simp only [zA0, zA3, Nat.reduceAdd] at FQ; obtain ⟨e1, e2⟩ := HEND.out; subst e2; rw [e1] at FQ; rw [show zAM [.slice a0 c.1.length c0, .slice b0 c.2.length d0, .slice a1 p.length c1, .int .i64 at_, .int .i64 ph, .int .i64 h.1, .int .i64 h.2.1, .slice a4 h.2.2.length c4, .slice a5 t.length c5] = .agg #[.slice a0 c.1.length c0, .slice b0 c.2.length d0, .slice a1 p.length c1, .int .i64 at_, .int .i64 ph, .int .i64 h.1, .int .i64 h.2.1, .slice a4 h.2.2.length c4, .slice a5 t.length c5] from rfl] at FQ; clear X R H P F B AM V2; refine bodyPost_ret (v := .tuple #[.agg #[.slice a0 c.1.length c0, .slice b0 c.2.length d0, .slice a1 p.length c1, .int .i64 at_, .int .i64 ph, .int .i64 h.1, .int .i64 h.2.1, .slice a4 h.2.2.length c4, .slice a5 t.length c5], .slice (some ⟨wq.heap.size, 0, none⟩) 1 1, .int .i64 1]) (by simp [results, Tryz.results102, go_sem, r0, r1, r2, r3, r4, r5, r6, r7, r8]) rfl ?_; with_reducible exact FQ) | (have V2 := zAV (y0 := .slice a0 c.1.length c0) (y1 := .slice b0 c.2.length d0) (y2 := .slice a1 p.length c1) (y3 := .int .i64 at_) (y4 := .int .i64 ph) (y5 := .int .i64 h.1) (y6 := .int .i64 h.2.1) (y7 := .slice a4 h.2.2.length c4) (y8 := .slice a5 t.length c5) (zAa (zAf _ (.cells #[.int .i64 am.1, .int .i64 am.2.1, .int .i64 am.2.2.1, .int .i64 am.2.2.2.1, .int .i64 am.2.2.2.2.1, .slice ma am.2.2.2.2.2.1.length mc, .int .i64 am.2.2.2.2.2.2] 46)) R); obtain ⟨r0, r1, r2, r3, r4, r5, r6, r7, r8⟩ := zAc V2; have FQ := zDE (S := S) (T := S) (U := rng u7w.heap.size wq.heap.size) (k := 1) (r := w.heap.size + 1) (vs := [.slice a0 c.1.length c0, .slice b0 c.2.length d0, .slice a1 p.length c1, .int .i64 at_, .int .i64 ph, .int .i64 h.1, .int .i64 h.2.1, .slice a4 h.2.2.length c4, .slice a5 t.length c5]) (cm := [.int .i64 am.1, .int .i64 am.2.1, .int .i64 am.2.2.1, .int .i64 am.2.2.2.1, .int .i64 am.2.2.2.2.1, .slice ma am.2.2.2.2.2.1.length mc, .int .i64 am.2.2.2.2.2.2]) (zA9 B) (HO.out _ B) AM.1 (fun j a b => by have := b.1; have := HSS.out _ a; omega) (fun j q => ⟨.inl q, by have := HSS.out _ q; omega⟩) (fun j q => ⟨.inr (by have := q.1; omega), q.2⟩) (by omega) (fun q => by have := HSS.out _ q; omega) (fun q => by have := q.1; omega) (Array.getElem?_eq_some_iff.1 R).1; simp only [zA0, zA3, Nat.reduceAdd] at FQ; obtain ⟨e1, e2⟩ := HEND.out; subst e2; rw [e1] at FQ; rw [show zAM [.slice a0 c.1.length c0, .slice b0 c.2.length d0, .slice a1 p.length c1, .int .i64 at_, .int .i64 ph, .int .i64 h.1, .int .i64 h.2.1, .slice a4 h.2.2.length c4, .slice a5 t.length c5] = .agg #[.slice a0 c.1.length c0, .slice b0 c.2.length d0, .slice a1 p.length c1, .int .i64 at_, .int .i64 ph, .int .i64 h.1, .int .i64 h.2.1, .slice a4 h.2.2.length c4, .slice a5 t.length c5] from rfl] at FQ; clear X R H P F B AM V2; refine bodyPost_ret (v := .tuple #[.agg #[.slice a0 c.1.length c0, .slice b0 c.2.length d0, .slice a1 p.length c1, .int .i64 at_, .int .i64 ph, .int .i64 h.1, .int .i64 h.2.1, .slice a4 h.2.2.length c4, .slice a5 t.length c5], .slice (some ⟨wq.heap.size, 0, none⟩) 1 1, .int .i64 1]) (by simp [results, Tryz.results102, go_sem, r0, r1, r2, r3, r4, r5, r6, r7, r8]) rfl ?_; with_reducible exact FQ)
theorem zF2 (S : zAX) (cs : List Value) (x : zAE) (id k e : Int) (j : Nat) (w : World) (hh : Hold w) (ho : zAn.own w S cs x) (hS : ∀ k, S k → k < w.heap.size) (hk : zAZ x = true) (hid : zBk id) (hbk : zAQ k 0 15 = true) (he : e = 3 ∨ e = 4) (h0 : ¬ S 0) (hat : atC x.1 k = some j) :
    Calls Tryz.prog 102 #[zAM cs, .int .i64 id, .int .i64 k, .int .i64 e] w fun e' w' => zEI S w (inC x k e) [inM x id k e] 1 e' w' := by
 have hp := zB4 hk
 have hok : OkC isL zAJ x.1 := hp.ok
 obtain ⟨hwst, hwln⟩ := zNE hok k
 obtain ⟨y9, hy9⟩ : ∃ y9, y9 = inC x k e := ⟨_, rfl⟩
 obtain ⟨m9, hm9⟩ : ∃ m9, m9 = inM x id k e := ⟨_, rfl⟩
 rw [← hy9, ← hm9]
 unfold inC at hy9
 unfold inM at hm9
 obtain ⟨v0, v1, v2, v5, v6, v7, v8, S0, S1, S4, S5, rfl, i2, i3, o0, o1, o4, o5, sb0, sb1, sb4, sb5, d01, d04, d05, d14, d15, d45⟩ := zBd ho
 have r0 := zAB.own_rd o0
 obtain ⟨a0, c0, b0, d0, e0, -⟩ := zAH r0
 simp only [List.cons.injEq, and_true] at e0
 obtain ⟨rfl, rfl⟩ := e0
 obtain ⟨a1, c1, e1, -⟩ := zBX.own_rd o1
 simp only [List.cons.injEq, and_true] at e1
 obtain rfl := e1
 obtain ⟨a4, c4, e4, ih1, ih2, -, -, -⟩ := zAL (zAS.own_rd o4)
 simp only [List.cons.injEq, and_true] at e4
 obtain ⟨rfl, rfl, rfl⟩ := e4
 obtain ⟨a5, c5, e5, -⟩ := zA5.own_rd o5
 simp only [List.cons.injEq, and_true] at e5
 obtain rfl := e5
 obtain ⟨u0, w0, T1, T2, e9, c1o, c2o, t1, t2, t12⟩ := zCe o0
 simp only [List.cons.injEq, and_true] at e9
 obtain ⟨rfl, rfl⟩ := e9
 have HO : Hid (∀ W, Below w.heap.size w W → zAn.own W S [.slice a0 x.1.1.length c0, .slice b0 x.1.2.length d0, .slice a1 x.2.1.length c1, .int .i64 x.2.2.1, .int .i64 x.2.2.2.1, .int .i64 x.2.2.2.2.1.1, .int .i64 x.2.2.2.2.1.2.1, .slice a4 x.2.2.2.2.1.2.2.length c4, .slice a5 x.2.2.2.2.2.length c5] x) := fun W hb => zAn.own_keep ho (zAh hb)
 have HFI : Hid (∀ W, Below w.heap.size w W → Calls Tryz.prog 125 #[.agg #[.slice a0 x.1.1.length c0, .slice b0 x.1.2.length d0], .int .i64 k] W fun e w' => ∃ us, e = .returned (.tuple #[zAM us, .int .i64 (zDU x.1 k).2]) ∧ zAY zAS W w' us (zAD x.1 k)) := fun W hb => by rw [← zN4 hok]; exact zGS [.slice a0 x.1.1.length c0, .slice b0 x.1.2.length d0] x.1 k W (zAN r0 hb)
 have HFD : Hid (∀ W, Below w.heap.size w W → Calls Tryz.prog 95 #[.agg #[.slice a0 x.1.1.length c0, .slice b0 x.1.2.length d0], .int .i64 k] W fun e w' => e = .returned (.tuple #[.agg #[.int .i64 ((zAF x.1 k : Nat) : Int), .int .i64 (zGc (atC x.1 k))], .bool (atC x.1 k).isSome]) ∧ Below W.heap.size W w') := fun W hb => by have := zFI [.slice a0 x.1.1.length c0, .slice b0 x.1.2.length d0] x.1 k W hok (zAN r0 hb); rw [zE8 hok, hbk] at this; exact this
 have hlf64 := nxt_in hwst he
 have HNX : Hid (∀ W, Calls Tryz.prog 126 #[.int .i64 (zAD x.1 k).2.1, .int .i64 e] W fun e' w' => e' = .returned (.tuple #[.int .i64 (nxt (zAD x.1 k).2.1 e), .bool (zGb (zAD x.1 k).2.1 e).isSome]) ∧ Below W.heap.size W w') := fun W => zEl (zAD x.1 k).2.1 e W (WalkArith.wf_i64 (by simp only [zAQ, decide_eq_true_eq] at hwst; omega)) (WalkArith.wf_i64 (by omega))
 obtain ⟨hget, hwn⟩ : x.1.1[zAF x.1 k]? = some (zAm x.1 k) ∧ (zAm x.1 k)[j]? = some (zAD x.1 k) := ⟨(zDy hok k).2.1, (zFv hok hat).2.1⟩
 have hr4 := (zDy hok k).2.2.2.1
 have hs4 : x.1.1.length ≤ 4 := by rcases (zDy hok k).1 with q | q | q <;> omega
 have HST : Hid (∀ u : zAU, ((x.1.1.set (zAF x.1 k) ((zAm x.1 k).set j u), x.1.2) : zAu) = zDZ x.1 k u) := fun u => zEy hat
 rw [hat] at HFD
 have HF2 : Hid (∀ W, Below w.heap.size w W → Calls Tryz.prog 95 #[.agg #[.slice a0 x.1.1.length c0, .slice b0 x.1.2.length d0], .int .i64 k] W fun e w' => e = .returned (.tuple #[.agg #[.int .i64 ((zAF x.1 k : Nat) : Int), .int .i64 (j : Int)], .bool true]) ∧ Below W.heap.size W w') := HFD
 clear HFD
 obtain ⟨c, p, at_, ph, h, t⟩ := x
 simp only at *
 clear hp hat
 have HRW : Hid _ := And.intro hget hwn
 generalize zAm c k = row at HRW HST hr4
 clear hget hwn
 generalize zAF c k = sn at HF2 HST HRW
 generalize zAD c k = fw at HFI HNX hy9 hm9 hwst hwln hlf64 HRW
 generalize zDU c k = fi at HFI
 obtain ⟨fi0, fn⟩ := fi
 simp only at HFI
 generalize hlf : nxt fw.2.1 e = lf at HNX hy9 hm9 hlf64
 clear hlf
 generalize (zGb fw.2.1 e).isSome = nb at HNX
 have HHH : Hid (Hold w) := hh
 have HSS : Hid (∀ k, S k → k < w.heap.size) := hS
 have HIN : Hid _ := And.intro i2 i3
 have HOW : Hid _ := And.intro c1o (And.intro c2o (And.intro o1 (And.intro o4 (And.intro o5 (And.intro sb0 (And.intro sb1 (And.intro sb4 (And.intro sb5 (And.intro d01 (And.intro d04 (And.intro d05 (And.intro d14 (And.intro d15 (And.intro d45 (And.intro t1 (And.intro t2 t12))))))))))))))))
 obtain ⟨am, ham⟩ : ∃ am, am = zJI id k fw lf := ⟨_, rfl⟩
 have hk64 : zBk k := by simp only [zAQ, decide_eq_true_eq] at hbk; constructor <;> omega
 have HAN : Hid (∀ (W : World) (fa : Option Addr) (fc : Nat), Hold W → zAS.rd W [.int .i64 fw.1, .int .i64 fw.2.1, .slice fa fw.2.2.length fc] fw → Calls Tryz.prog 124 #[.int .i64 id, .int .i64 k, .agg #[.int .i64 fw.1, .int .i64 fw.2.1, .slice fa fw.2.2.length fc], .int .i64 lf] W fun e w' => ∃ ds, e = .returned (zAM ds) ∧ zAY zBy W w' ds am) := fun W fa fc hd hr => by rw [ham]; exact zEx id k lf [.int .i64 fw.1, .int .i64 fw.2.1, .slice fa fw.2.2.length fc] fw W hd hr hwst (by omega) hid hk64
 obtain ⟨aw, haw⟩ : ∃ aw, aw = asW fw lf := ⟨_, rfl⟩
 have hal : aw.2.2.length ≤ 2 := by rw [haw]; unfold asW; split; decide; exact hwln
 have HAS : Hid (∀ (W : World) (us : List Value), zAS.rd W us fw → Calls Tryz.prog 127 #[zAM us, .int .i64 lf] W fun e w' => ∃ ds, e = .returned (zAM ds) ∧ zAS.rd w' ds aw ∧ Below W.heap.size W w') := fun W us hr => by rw [haw]; exact implAs_u us fw lf W hr hlf64
 have HPT : Hid (∀ (W : World) (xa : Option Addr) (xc : Nat), Below w.heap.size w W → zBk aw.1 → zBk aw.2.1 → zBh zBC W xa aw.2.2 → Calls Tryz.prog 100 #[.agg #[.slice a0 c.1.length c0, .slice b0 c.2.length d0], .agg #[.int .i64 (sn : Int), .int .i64 (j : Int)], .agg #[.int .i64 aw.1, .int .i64 aw.2.1, .slice xa aw.2.2.length xc]] W fun e w' => e = .returned (.tuple #[]) ∧ zBu.own w' (fun k => Old W T1 k ∨ (W.heap.size ≤ k ∧ k < w'.heap.size)) [.slice a0 c.1.length c0] (c.1.set sn (row.set j aw)) ∧ Chg (Old W T1) W w') := fun W xa xc hb i1 i2 hd => zEM T1 (.slice a0 c.1.length c0) (.slice b0 c.2.length d0) c.1 sn j row fw aw.1 aw.2.1 aw.2.2 xa xc W (zBu.own_keep c1o (zAh hb)) HRW.out.1 HRW.out.2 (by omega) (by omega) i1 i2 hd (by omega)
 have HEND : Hid (((c.1.set sn (row.set j aw), c.2), p, at_, ph, h, t) = y9 ∧ am = m9) := And.intro (by rw [hy9, ← haw, ← HST.out aw]) (ham.trans hm9.symm)
 clear haw
 clear ham hy9 hm9 ho hS r0 o0 o1 o4 o5 c1o c2o sb0 sb1 sb4 sb5 d01 d04 d05 d14 d15 d45 t1 t2 t12 i2 i3 ih1 ih2 hk hok hh hwst hwln hbk HST HRW hr4 hs4
 rw [show zAM [.slice a0 c.1.length c0, .slice b0 c.2.length d0, .slice a1 p.length c1, .int .i64 at_, .int .i64 ph, .int .i64 h.1, .int .i64 h.2.1, .slice a4 h.2.2.length c4, .slice a5 t.length c5] = .agg #[.slice a0 c.1.length c0, .slice b0 c.2.length d0, .slice a1 p.length c1, .int .i64 at_, .int .i64 ph, .int .i64 h.1, .int .i64 h.2.1, .slice a4 h.2.2.length c4, .slice a5 t.length c5] from rfl]
 have B := Below.refl w.heap.size w
 go_enter Tryz.func102, Tryz.ntmps102
 go_wp2_with fail
 generalize hu1w : w.alloc _ = u1w
 have X := boxH hu1w
 have bz := boxB hu1w
 have zX := boxL hu1w
 clear hu1w
 replace B := zAb B bz
 clear bz
 have zXa := Nat.le_of_eq zX
 have zXb := Nat.le_of_eq zX.symm
 clear zX
 generalize hu2w : u1w.alloc _ = u2w
 have R := boxH hu2w
 have bz := boxB hu2w
 have zR := boxL hu2w
 clear hu2w
 rw [show u1w.heap.size = w.heap.size + 1 from by omega] at R
 replace B := zAb B bz
 replace X := zAa bz X
 clear bz
 have zRa := Nat.le_of_eq zR
 have zRb := Nat.le_of_eq zR.symm
 clear zR
 refine (HFI.out _ B).mono ?_
 rintro e u3w ⟨us, rfl, mm⟩
 obtain ⟨fa, fc, rfl, -, -, -, -, -⟩ := zAL (zAS.own_rd mm.1)
 rw [show zAM [.int .i64 fw.1, .int .i64 fw.2.1, .slice fa fw.2.2.length fc] = .agg #[.int .i64 fw.1, .int .i64 fw.2.1, .slice fa fw.2.2.length fc] from rfl]
 have F := zAR (R := zAS) mm
 have mb := mm.2
 have tu3w : u2w.heap.size ≤ u3w.heap.size := mb.size
 replace B := zAb B mb
 replace X := zAa mb X
 replace R := zAa mb R
 clear mb mm
 obtain ⟨Xc0, Xc1, Xc2, Xc3, Xc4, Xc5, Xc6, Xc7, Xc8⟩ := zAc X
 have Xlt := (Array.getElem?_eq_some_iff.1 X).1
 obtain ⟨Rc0, Rc1, Rc2, Rc3, Rc4, Rc5, Rc6, Rc7, Rc8⟩ := zAc R
 have Rlt := (Array.getElem?_eq_some_iff.1 R).1
 go_upto_region 2 with fail
 clear Xc0 Xc1 Xc2 Xc3 Xc4 Xc5 Xc6 Xc7 Xc8 Xlt Rc0 Rc1 Rc2 Rc3 Rc4 Rc5 Rc6 Rc7 Rc8 Rlt
 generalize hu4w : u3w.alloc _ = u4w
 have H := boxH hu4w
 have bz := boxB hu4w
 have zH := boxL hu4w
 clear hu4w
 replace B := zAb B bz
 replace X := zAa bz X
 replace R := zAa bz R
 replace F := zA6 F bz
 clear bz
 have zHa := Nat.le_of_eq zH
 have zHb := Nat.le_of_eq zH.symm
 clear zH
 obtain ⟨Xc0, Xc1, Xc2, Xc3, Xc4, Xc5, Xc6, Xc7, Xc8⟩ := zAc X
 have Xlt := (Array.getElem?_eq_some_iff.1 X).1
 obtain ⟨Rc0, Rc1, Rc2, Rc3, Rc4, Rc5, Rc6, Rc7, Rc8⟩ := zAc R
 have Rlt := (Array.getElem?_eq_some_iff.1 R).1
 obtain ⟨Hc0, Hc1, Hc2⟩ := zAg H
 have Hlt := (Array.getElem?_eq_some_iff.1 H).1
 go_wp2_with fail
 clear Xc0 Xc1 Xc2 Xc3 Xc4 Xc5 Xc6 Xc7 Xc8 Xlt Rc0 Rc1 Rc2 Rc3 Rc4 Rc5 Rc6 Rc7 Rc8 Rlt Hc0 Hc1 Hc2 Hlt
 refine (HNX.out _).mono ?_
 rintro e u5w ⟨rfl, bq⟩
 have tu5w : u4w.heap.size ≤ u5w.heap.size := bq.size
 replace B := zAb B bq
 replace X := zAa bq X
 replace R := zAa bq R
 replace H := zAa bq H
 replace F := zA6 F bq
 clear bq
 obtain ⟨Xc0, Xc1, Xc2, Xc3, Xc4, Xc5, Xc6, Xc7, Xc8⟩ := zAc X
 have Xlt := (Array.getElem?_eq_some_iff.1 X).1
 obtain ⟨Rc0, Rc1, Rc2, Rc3, Rc4, Rc5, Rc6, Rc7, Rc8⟩ := zAc R
 have Rlt := (Array.getElem?_eq_some_iff.1 R).1
 obtain ⟨Hc0, Hc1, Hc2⟩ := zAg H
 have Hlt := (Array.getElem?_eq_some_iff.1 H).1
 go_wp2_with fail
 clear Xc0 Xc1 Xc2 Xc3 Xc4 Xc5 Xc6 Xc7 Xc8 Xlt Rc0 Rc1 Rc2 Rc3 Rc4 Rc5 Rc6 Rc7 Rc8 Rlt Hc0 Hc1 Hc2 Hlt
 refine (HF2.out _ B).mono ?_
 rintro e u6w ⟨rfl, bq⟩
 have tu6w : u5w.heap.size ≤ u6w.heap.size := bq.size
 replace B := zAb B bq
 replace X := zAa bq X
 replace R := zAa bq R
 replace H := zAa bq H
 replace F := zA6 F bq
 clear bq
 obtain ⟨Xc0, Xc1, Xc2, Xc3, Xc4, Xc5, Xc6, Xc7, Xc8⟩ := zAc X
 have Xlt := (Array.getElem?_eq_some_iff.1 X).1
 obtain ⟨Rc0, Rc1, Rc2, Rc3, Rc4, Rc5, Rc6, Rc7, Rc8⟩ := zAc R
 have Rlt := (Array.getElem?_eq_some_iff.1 R).1
 obtain ⟨Hc0, Hc1, Hc2⟩ := zAg H
 have Hlt := (Array.getElem?_eq_some_iff.1 H).1
 go_upto_region 4 with fail
 clear Xc0 Xc1 Xc2 Xc3 Xc4 Xc5 Xc6 Xc7 Xc8 Xlt Rc0 Rc1 Rc2 Rc3 Rc4 Rc5 Rc6 Rc7 Rc8 Rlt Hc0 Hc1 Hc2 Hlt
 generalize hu7w : u6w.alloc _ = u7w
 have P := boxH hu7w
 have bz := boxB hu7w
 have zP := boxL hu7w
 clear hu7w
 replace B := zAb B bz
 replace X := zAa bz X
 replace R := zAa bz R
 replace H := zAa bz H
 replace F := zA6 F bz
 clear bz
 have zPa := Nat.le_of_eq zP
 have zPb := Nat.le_of_eq zP.symm
 clear zP
 obtain ⟨Xc0, Xc1, Xc2, Xc3, Xc4, Xc5, Xc6, Xc7, Xc8⟩ := zAc X
 have Xlt := (Array.getElem?_eq_some_iff.1 X).1
 obtain ⟨Rc0, Rc1, Rc2, Rc3, Rc4, Rc5, Rc6, Rc7, Rc8⟩ := zAc R
 have Rlt := (Array.getElem?_eq_some_iff.1 R).1
 obtain ⟨Hc0, Hc1, Hc2⟩ := zAg H
 have Hlt := (Array.getElem?_eq_some_iff.1 H).1
 obtain ⟨Pc0, Pc1⟩ := zAx P
 have Plt := (Array.getElem?_eq_some_iff.1 P).1
 go_upto_region 5 with fail
 clear Xc0 Xc1 Xc2 Xc3 Xc4 Xc5 Xc6 Xc7 Xc8 Xlt Rc0 Rc1 Rc2 Rc3 Rc4 Rc5 Rc6 Rc7 Rc8 Rlt Hc0 Hc1 Hc2 Hlt Pc0 Pc1 Plt
 replace B := B.drew
 replace F := zCJ F
 obtain ⟨Xc0, Xc1, Xc2, Xc3, Xc4, Xc5, Xc6, Xc7, Xc8⟩ := zAc X
 have Xlt := (Array.getElem?_eq_some_iff.1 X).1
 obtain ⟨Hc0, Hc1, Hc2⟩ := zAg H
 have Hlt := (Array.getElem?_eq_some_iff.1 H).1
 obtain ⟨Pc0, Pc1⟩ := zAx P
 have Plt := (Array.getElem?_eq_some_iff.1 P).1
 first | (go_region_held3 (fun wx => wx.cell? ⟨w.heap.size, 0, none⟩ = some (.slice a0 c.1.length c0) ∧ wx.cell? ⟨w.heap.size, 1, none⟩ = some (.slice b0 c.2.length d0) ∧ wx.cell? ⟨u3w.heap.size, 0, none⟩ = some (.int .i64 fw.1) ∧ wx.cell? ⟨u3w.heap.size, 1, none⟩ = some (.int .i64 fw.2.1) ∧ wx.cell? ⟨u3w.heap.size, 2, none⟩ = some (.slice fa fw.2.2.length fc) ∧ wx.cell? ⟨u6w.heap.size, 0, none⟩ = some (.int .i64 (sn : Int)) ∧ wx.cell? ⟨u6w.heap.size, 1, none⟩ = some (.int .i64 (j : Int))) (first | (go_keep; done) | (exact ⟨Xc0, Xc1, Hc0, Hc1, Hc2, Pc0, Pc1⟩)) (first | (go_at_call 127; refine (HAS.out _ [.int .i64 fw.1, .int .i64 fw.2.1, .slice fa fw.2.2.length fc] (zAS.own_rd F.1)).mono ?_; rintro e wa ⟨ds, rfl, ra, mb⟩; obtain ⟨xa, xc, rfl, j1, j2, -, -, j3⟩ := zAL ra; rw [show zAM [.int .i64 aw.1, .int .i64 aw.2.1, .slice xa aw.2.2.length xc] = .agg #[.int .i64 aw.1, .int .i64 aw.2.1, .slice xa aw.2.2.length xc] from rfl]; have ta : u7w.heap.size ≤ wa.heap.size := mb.size; replace B := zAb B mb; replace X := zAa mb X; replace R := zAa mb R; replace H := zAa mb H; replace P := zAa mb P; replace F := zA6 F mb; clear mb ra; clear Xc0 Xc1 Xc2 Xc3 Xc4 Xc5 Xc6 Xc7 Xc8 Xlt Hc0 Hc1 Hc2 Hlt Pc0 Pc1 Plt; obtain ⟨Xc0, Xc1, Xc2, Xc3, Xc4, Xc5, Xc6, Xc7, Xc8⟩ := zAc X; have Xlt := (Array.getElem?_eq_some_iff.1 X).1; obtain ⟨Hc0, Hc1, Hc2⟩ := zAg H; have Hlt := (Array.getElem?_eq_some_iff.1 H).1; obtain ⟨Pc0, Pc1⟩ := zAx P; have Plt := (Array.getElem?_eq_some_iff.1 P).1) | (go_at_call 100; refine (HPT.out _ xa xc B j1 j2 j3).mono ?_; rintro e wp ⟨rfl, OW, CH⟩; have tp := CH.size; have Xq := zCh X CH (fun q => by have := HSS.out _ (HOW.out.2.2.2.2.2.1 _ (HOW.out.2.2.2.2.2.2.2.2.2.2.2.2.2.2.2.1 _ q.1)); omega); have Hq := zCh H CH (fun q => by have := HSS.out _ (HOW.out.2.2.2.2.2.1 _ (HOW.out.2.2.2.2.2.2.2.2.2.2.2.2.2.2.2.1 _ q.1)); omega); have Pq := zCh P CH (fun q => by have := HSS.out _ (HOW.out.2.2.2.2.2.1 _ (HOW.out.2.2.2.2.2.2.2.2.2.2.2.2.2.2.2.1 _ q.1)); omega); clear Xc0 Xc1 Xc2 Xc3 Xc4 Xc5 Xc6 Xc7 Xc8 Xlt Hc0 Hc1 Hc2 Hlt Pc0 Pc1 Plt; obtain ⟨Xc0, Xc1, Xc2, Xc3, Xc4, Xc5, Xc6, Xc7, Xc8⟩ := zAc Xq; obtain ⟨Hc0, Hc1, Hc2⟩ := zAg Hq; obtain ⟨Pc0, Pc1⟩ := zAx Pq) | fail)) | fail
 clear Xc0 Xc1 Xc2 Xc3 Xc4 Xc5 Xc6 Xc7 Xc8 Hc0 Hc1 Hc2 Pc0 Pc1
 have nT : ∀ q, w.heap.size ≤ q → ¬ Old wa T1 q := fun q hq z => by have := HSS.out _ (HOW.out.2.2.2.2.2.1 _ (HOW.out.2.2.2.2.2.2.2.2.2.2.2.2.2.2.2.1 _ z.1)); omega
 replace X := Xq
 replace H := Hq
 replace P := Pq
 replace R := zCh R CH (nT _ (by omega))
 clear Xq Hq Pq
 have hFs := F.2
 replace F : zCp zAS (u2w.heap.size) (u3w.heap.size) wp [.int .i64 fw.1, .int .i64 fw.2.1, .slice fa fw.2.2.length fc] fw := And.intro (zAO F.1 CH (fun q a b => nT q (by have := a.1; omega) b)) (by omega)
 obtain ⟨c1o, c2o, o1, o4, o5, sb0, sb1, sb4, sb5, d01, d04, d05, d14, d15, d45, t1, t2, t12⟩ := HOW.out
 have bsz := B.size
 replace c2o := zAO (zA5.own_keep c2o (zAh B)) CH (fun q a b => t12 q b.1 a)
 replace o1 := zAO (zBX.own_keep o1 (zAh B)) CH (fun q a b => d01 q (t1 _ b.1) a)
 replace o4 := zAO (zAS.own_keep o4 (zAh B)) CH (fun q a b => d04 q (t1 _ b.1) a)
 replace o5 := zAO (zA5.own_keep o5 (zAh B)) CH (fun q a b => d05 q (t1 _ b.1) a)
 have OCa := zCd (c := (c.1.set sn (row.set j aw), c.2)) (S := fun q => S0 q ∨ (wa.heap.size ≤ q ∧ q < wp.heap.size)) OW c2o (fun q z => by rcases z with z | z; exact .inl (t1 _ z.1); exact .inr z) (fun q z => .inl (t2 _ z)) (fun q a b => by rcases a with a | a; exact t12 q a.1 b; (have := HSS.out _ (sb0 _ (t2 _ b)); omega))
 have OC := zCo (w := wp) (x := ((c.1.set sn (row.set j aw), c.2), p, at_, ph, h, t)) (S := fun q => S q ∨ (wa.heap.size ≤ q ∧ q < wp.heap.size)) HIN.out.1 HIN.out.2 OCa o1 o4 o5 (fun q z => by rcases z with z | z; exact .inl (sb0 _ z); exact .inr z) (fun q z => .inl (sb1 _ z)) (fun q z => .inl (sb4 _ z)) (fun q z => .inl (sb5 _ z)) (fun q a b => by rcases a with a | a; exact d01 q a b; (have := HSS.out _ (sb1 _ b); omega)) (fun q a b => by rcases a with a | a; exact d04 q a b; (have := HSS.out _ (sb4 _ b); omega)) (fun q a b => by rcases a with a | a; exact d05 q a b; (have := HSS.out _ (sb5 _ b); omega)) d14 d15 d45
 have CC : Chg S w wp := (zA9 B).trans (CH.mono fun q z => sb0 _ (t1 _ z.1))
 have HL : Hold wp := (HHH.out.goes B).chg CH (fun z => h0 (sb0 _ (t1 _ z.1)))
 clear OCa OW CH c1o c2o o1 o4 o5 sb0 sb1 sb4 sb5 d01 d04 d05 d14 d15 d45 t1 t2 t12 B nT bsz j1 j2 j3
 obtain ⟨Xc0, Xc1, Xc2, Xc3, Xc4, Xc5, Xc6, Xc7, Xc8⟩ := zAc X
 have Xlt := (Array.getElem?_eq_some_iff.1 X).1
 obtain ⟨Rc0, Rc1, Rc2, Rc3, Rc4, Rc5, Rc6, Rc7, Rc8⟩ := zAc R
 have Rlt := (Array.getElem?_eq_some_iff.1 R).1
 obtain ⟨Hc0, Hc1, Hc2⟩ := zAg H
 have Hlt := (Array.getElem?_eq_some_iff.1 H).1
 go_upto_region 6 with fail
 clear Xc0 Xc1 Xc2 Xc3 Xc4 Xc5 Xc6 Xc7 Xc8 Xlt Rc0 Rc1 Rc2 Rc3 Rc4 Rc5 Rc6 Rc7 Rc8 Rlt Hc0 Hc1 Hc2 Hlt
 skip
 replace F := zCJ F
 replace HL : Hold wp.drew := HL
 replace CC := chgDrew CC
 replace OC : zAn.own wp.drew _ _ _ := zAn.own_keep OC (fun _ _ _ => rfl)
 replace X := zBj X
 replace R := zBj R
 replace H := zBj H
 obtain ⟨Xc0, Xc1, Xc2, Xc3, Xc4, Xc5, Xc6, Xc7, Xc8⟩ := zAc X
 have Xlt := (Array.getElem?_eq_some_iff.1 X).1
 obtain ⟨Rc0, Rc1, Rc2, Rc3, Rc4, Rc5, Rc6, Rc7, Rc8⟩ := zAc R
 have Rlt := (Array.getElem?_eq_some_iff.1 R).1
 obtain ⟨Rf0, Rf1, Rf2, Rf3, Rf4, Rf5, Rf6, Rf7, Rf8⟩ := zAr R
 obtain ⟨Hc0, Hc1, Hc2⟩ := zAg H
 have Hlt := (Array.getElem?_eq_some_iff.1 H).1
 have neX : Hid (w.heap.size ≠ w.heap.size + 1) := by unfold Hid; omega
 have neH : Hid (u3w.heap.size ≠ w.heap.size + 1) := by unfold Hid; omega
 go_region_held3 (fun wx => wx.cell? ⟨w.heap.size, 0, none⟩ = some (.slice a0 c.1.length c0) ∧ wx.cell? ⟨w.heap.size, 1, none⟩ = some (.slice b0 c.2.length d0) ∧ wx.cell? ⟨w.heap.size, 2, none⟩ = some (.slice a1 p.length c1) ∧ wx.cell? ⟨w.heap.size, 3, none⟩ = some (.int .i64 at_) ∧ wx.cell? ⟨w.heap.size, 4, none⟩ = some (.int .i64 ph) ∧ wx.cell? ⟨w.heap.size, 5, none⟩ = some (.int .i64 h.1) ∧ wx.cell? ⟨w.heap.size, 6, none⟩ = some (.int .i64 h.2.1) ∧ wx.cell? ⟨w.heap.size, 7, none⟩ = some (.slice a4 h.2.2.length c4) ∧ wx.cell? ⟨w.heap.size, 8, none⟩ = some (.slice a5 t.length c5) ∧ wx.cell? ⟨u3w.heap.size, 0, none⟩ = some (.int .i64 fw.1) ∧ wx.cell? ⟨u3w.heap.size, 1, none⟩ = some (.int .i64 fw.2.1) ∧ wx.cell? ⟨u3w.heap.size, 2, none⟩ = some (.slice fa fw.2.2.length fc)) (first | (with_reducible exact ⟨Xc0, Xc1, Xc2, Xc3, Xc4, Xc5, Xc6, Xc7, Xc8, Hc0, Hc1, Hc2⟩) | (with_reducible exact ⟨Xq0, Xq1, Xq2, Xq3, Xq4, Xq5, Xq6, Xq7, Xq8, Hq0, Hq1, Hq2⟩) | (with_reducible exact ⟨cs9 neX.out Xq0, cs9 neX.out Xq1, cs9 neX.out Xq2, cs9 neX.out Xq3, cs9 neX.out Xq4, cs9 neX.out Xq5, cs9 neX.out Xq6, cs9 neX.out Xq7, cs9 neX.out Xq8, cs9 neH.out Hq0, cs9 neH.out Hq1, cs9 neH.out Hq2⟩) | (with_reducible exact ⟨cs9 neX.out Xc0, cs9 neX.out Xc1, cs9 neX.out Xc2, cs9 neX.out Xc3, cs9 neX.out Xc4, cs9 neX.out Xc5, cs9 neX.out Xc6, cs9 neX.out Xc7, cs9 neX.out Xc8, cs9 neH.out Hc0, cs9 neH.out Hc1, cs9 neH.out Hc2⟩) | (with_reducible exact ⟨al9 neX.out HXL.out Xc0, al9 neX.out HXL.out Xc1, al9 neX.out HXL.out Xc2, al9 neX.out HXL.out Xc3, al9 neX.out HXL.out Xc4, al9 neX.out HXL.out Xc5, al9 neX.out HXL.out Xc6, al9 neX.out HXL.out Xc7, al9 neX.out HXL.out Xc8, al9 neH.out HHL.out Hc0, al9 neH.out HHL.out Hc1, al9 neH.out HHL.out Hc2⟩) | fail) (first | (go_at_call 124; refine (HAN.out _ fa fc HL (zAS.own_rd F.1)).mono ?_; rintro e wq ⟨ds, rfl, mm⟩; obtain ⟨ma, mc, rfl, -, -, -, -, -, -, -, -, -⟩ := zBB (zBy.own_rd mm.1); rw [show zAM [.int .i64 am.1, .int .i64 am.2.1, .int .i64 am.2.2.1, .int .i64 am.2.2.2.1, .int .i64 am.2.2.2.2.1, .slice ma am.2.2.2.2.2.1.length mc, .int .i64 am.2.2.2.2.2.2] = .agg #[.int .i64 am.1, .int .i64 am.2.1, .int .i64 am.2.2.1, .int .i64 am.2.2.2.1, .int .i64 am.2.2.2.2.1, .slice ma am.2.2.2.2.2.1.length mc, .int .i64 am.2.2.2.2.2.2] from rfl]; have AM := zAR (R := zBy) mm; have mb := mm.2; have tq : wp.heap.size ≤ wq.heap.size := mb.size; replace CC := CC.trans (zA9 mb); replace OC := zAn.own_keep OC (zAh mb); clear HL; replace X := zAa mb X; replace R := zAa mb R; replace H := zAa mb H; replace F := zA6 F mb; clear mb mm; clear Xc0 Xc1 Xc2 Xc3 Xc4 Xc5 Xc6 Xc7 Xc8 Xlt Rc0 Rc1 Rc2 Rc3 Rc4 Rc5 Rc6 Rc7 Rc8 Rlt Rf0 Rf1 Rf2 Rf3 Rf4 Rf5 Rf6 Rf7 Rf8 Hc0 Hc1 Hc2 Hlt; obtain ⟨Xc0, Xc1, Xc2, Xc3, Xc4, Xc5, Xc6, Xc7, Xc8⟩ := zAc X; have Xlt := (Array.getElem?_eq_some_iff.1 X).1; obtain ⟨Rc0, Rc1, Rc2, Rc3, Rc4, Rc5, Rc6, Rc7, Rc8⟩ := zAc R; have Rlt := (Array.getElem?_eq_some_iff.1 R).1; obtain ⟨Rf0, Rf1, Rf2, Rf3, Rf4, Rf5, Rf6, Rf7, Rf8⟩ := zAr R; obtain ⟨Hc0, Hc1, Hc2⟩ := zAg H; have Hlt := (Array.getElem?_eq_some_iff.1 H).1; have RA := zAa (zAf wq (.cells #[.int .i64 am.1, .int .i64 am.2.1, .int .i64 am.2.2.1, .int .i64 am.2.2.2.1, .int .i64 am.2.2.2.2.1, .slice ma am.2.2.2.2.2.1.length mc, .int .i64 am.2.2.2.2.2.2] 46)) R; obtain ⟨Qc0, Qc1, Qc2, Qc3, Qc4, Qc5, Qc6, Qc7, Qc8⟩ := zAc RA; obtain ⟨Qf0, Qf1, Qf2, Qf3, Qf4, Qf5, Qf6, Qf7, Qf8⟩ := zAr RA; have XA := zAa (zAf wq (.cells #[.int .i64 am.1, .int .i64 am.2.1, .int .i64 am.2.2.1, .int .i64 am.2.2.2.1, .int .i64 am.2.2.2.2.1, .slice ma am.2.2.2.2.2.1.length mc, .int .i64 am.2.2.2.2.2.2] 46)) X; have HA := zAa (zAf wq (.cells #[.int .i64 am.1, .int .i64 am.2.1, .int .i64 am.2.2.1, .int .i64 am.2.2.2.1, .int .i64 am.2.2.2.2.1, .slice ma am.2.2.2.2.2.1.length mc, .int .i64 am.2.2.2.2.2.2] 46)) H; obtain ⟨Xq0, Xq1, Xq2, Xq3, Xq4, Xq5, Xq6, Xq7, Xq8⟩ := zAc XA; obtain ⟨Hq0, Hq1, Hq2⟩ := zAg HA; have HXL : Hid _ := Xlt; have HHL : Hid _ := Hlt; clear RA XA HA Rlt Xlt Hlt; have HK : Hid _ := And.intro X (And.intro R (And.intro H (And.intro F (And.intro CC (And.intro OC (AM)))))); clear X R H F CC OC AM) | fail)
 all_goals go_wp2
 all_goals
  obtain ⟨X, R, H, F, CC, OC, AM⟩ := HK.out
  clear HK
  have bsz := CC.size
  clear Qc0 Qf0 Rc0 Rf0 Qc1 Qf1 Rc1 Rf1 Qc2 Qf2 Rc2 Rf2 Qc3 Qf3 Rc3 Rf3 Qc4 Qf4 Rc4 Rf4 Qc5 Qf5 Rc5 Rf5 Qc6 Qf6 Rc6 Rf6 Qc7 Qf7 Rc7 Rf7 Qc8 Qf8 Rc8 Rf8 HXL HHL neX neH Xq0 Xq1 Xq2 Xq3 Xq4 Xq5 Xq6 Xq7 Xq8 Hq0 Hq1 Hq2
  first | (have V2 := zAa (zAf _ (.cells #[.int .i64 am.1, .int .i64 am.2.1, .int .i64 am.2.2.1, .int .i64 am.2.2.2.1, .int .i64 am.2.2.2.2.1, .slice ma am.2.2.2.2.2.1.length mc, .int .i64 am.2.2.2.2.2.2] 46)) (zAV (y0 := .slice a0 c.1.length c0) (y1 := .slice b0 c.2.length d0) (y2 := .slice a1 p.length c1) (y3 := .int .i64 at_) (y4 := .int .i64 ph) (y5 := .int .i64 h.1) (y6 := .int .i64 h.2.1) (y7 := .slice a4 h.2.2.length c4) (y8 := .slice a5 t.length c5) R); obtain ⟨r0, r1, r2, r3, r4, r5, r6, r7, r8⟩ := zAc V2; have FQ := zEF (S := S) (T := fun q => S q ∨ (wa.heap.size ≤ q ∧ q < wp.heap.size)) (U := rng wp.heap.size wq.heap.size) (k := 1) (r := w.heap.size + 1) (vs := [.slice a0 c.1.length c0, .slice b0 c.2.length d0, .slice a1 p.length c1, .int .i64 at_, .int .i64 ph, .int .i64 h.1, .int .i64 h.2.1, .slice a4 h.2.2.length c4, .slice a5 t.length c5]) (cm := [.int .i64 am.1, .int .i64 am.2.1, .int .i64 am.2.2.1, .int .i64 am.2.2.2.1, .int .i64 am.2.2.2.2.1, .slice ma am.2.2.2.2.2.1.length mc, .int .i64 am.2.2.2.2.2.2]) (CC) (OC) AM.1 (fun j a b => by have : wp.heap.size ≤ j := b.1; rcases a with a | a; (have := HSS.out _ a; omega); omega) (fun j q => by rcases q with q | q; exact ⟨.inl q, by have := HSS.out _ q; omega⟩; exact ⟨.inr (by omega), by omega⟩) (fun j q => ⟨.inr (by have := q.1; omega), q.2⟩) (by omega) (fun q => by rcases q with q | q; (have := HSS.out _ q; omega); omega) (fun q => by have := q.1; omega); simp only [zA0, zA3, Nat.reduceAdd] at FQ; obtain ⟨e1, e2⟩ := HEND.out; subst e2; rw [e1] at FQ; rw [show zAM [.slice a0 c.1.length c0, .slice b0 c.2.length d0, .slice a1 p.length c1, .int .i64 at_, .int .i64 ph, .int .i64 h.1, .int .i64 h.2.1, .slice a4 h.2.2.length c4, .slice a5 t.length c5] = .agg #[.slice a0 c.1.length c0, .slice b0 c.2.length d0, .slice a1 p.length c1, .int .i64 at_, .int .i64 ph, .int .i64 h.1, .int .i64 h.2.1, .slice a4 h.2.2.length c4, .slice a5 t.length c5] from rfl] at FQ; clear X R H F CC OC AM V2; refine bodyPost_ret (v := .tuple #[.agg #[.slice a0 c.1.length c0, .slice b0 c.2.length d0, .slice a1 p.length c1, .int .i64 at_, .int .i64 ph, .int .i64 h.1, .int .i64 h.2.1, .slice a4 h.2.2.length c4, .slice a5 t.length c5], .slice (some ⟨wq.heap.size, 0, none⟩) 1 1, .int .i64 1]) (by simp [results, Tryz.results102, go_sem, r0, r1, r2, r3, r4, r5, r6, r7, r8]) rfl ?_; with_reducible exact FQ) | (have V2 := zAV (y0 := .slice a0 c.1.length c0) (y1 := .slice b0 c.2.length d0) (y2 := .slice a1 p.length c1) (y3 := .int .i64 at_) (y4 := .int .i64 ph) (y5 := .int .i64 h.1) (y6 := .int .i64 h.2.1) (y7 := .slice a4 h.2.2.length c4) (y8 := .slice a5 t.length c5) (zAa (zAf _ (.cells #[.int .i64 am.1, .int .i64 am.2.1, .int .i64 am.2.2.1, .int .i64 am.2.2.2.1, .int .i64 am.2.2.2.2.1, .slice ma am.2.2.2.2.2.1.length mc, .int .i64 am.2.2.2.2.2.2] 46)) R); obtain ⟨r0, r1, r2, r3, r4, r5, r6, r7, r8⟩ := zAc V2; have FQ := zDE (S := S) (T := fun q => S q ∨ (wa.heap.size ≤ q ∧ q < wp.heap.size)) (U := rng wp.heap.size wq.heap.size) (k := 1) (r := w.heap.size + 1) (vs := [.slice a0 c.1.length c0, .slice b0 c.2.length d0, .slice a1 p.length c1, .int .i64 at_, .int .i64 ph, .int .i64 h.1, .int .i64 h.2.1, .slice a4 h.2.2.length c4, .slice a5 t.length c5]) (cm := [.int .i64 am.1, .int .i64 am.2.1, .int .i64 am.2.2.1, .int .i64 am.2.2.2.1, .int .i64 am.2.2.2.2.1, .slice ma am.2.2.2.2.2.1.length mc, .int .i64 am.2.2.2.2.2.2]) (CC) (OC) AM.1 (fun j a b => by have : wp.heap.size ≤ j := b.1; rcases a with a | a; (have := HSS.out _ a; omega); omega) (fun j q => by rcases q with q | q; exact ⟨.inl q, by have := HSS.out _ q; omega⟩; exact ⟨.inr (by omega), by omega⟩) (fun j q => ⟨.inr (by have := q.1; omega), q.2⟩) (by omega) (fun q => by rcases q with q | q; (have := HSS.out _ q; omega); omega) (fun q => by have := q.1; omega) (Array.getElem?_eq_some_iff.1 R).1; simp only [zA0, zA3, Nat.reduceAdd] at FQ; obtain ⟨e1, e2⟩ := HEND.out; subst e2; rw [e1] at FQ; rw [show zAM [.slice a0 c.1.length c0, .slice b0 c.2.length d0, .slice a1 p.length c1, .int .i64 at_, .int .i64 ph, .int .i64 h.1, .int .i64 h.2.1, .slice a4 h.2.2.length c4, .slice a5 t.length c5] = .agg #[.slice a0 c.1.length c0, .slice b0 c.2.length d0, .slice a1 p.length c1, .int .i64 at_, .int .i64 ph, .int .i64 h.1, .int .i64 h.2.1, .slice a4 h.2.2.length c4, .slice a5 t.length c5] from rfl] at FQ; clear X R H F CC OC AM V2; refine bodyPost_ret (v := .tuple #[.agg #[.slice a0 c.1.length c0, .slice b0 c.2.length d0, .slice a1 p.length c1, .int .i64 at_, .int .i64 ph, .int .i64 h.1, .int .i64 h.2.1, .slice a4 h.2.2.length c4, .slice a5 t.length c5], .slice (some ⟨wq.heap.size, 0, none⟩) 1 1, .int .i64 1]) (by simp [results, Tryz.results102, go_sem, r0, r1, r2, r3, r4, r5, r6, r7, r8]) rfl ?_; with_reducible exact FQ)
theorem zGg (S : zAX) (cs : List Value) (x : zAE) (id k e : Int) (w : World) (hh : Hold w) (ho : zAn.own w S cs x) (hS : ∀ k, S k → k < w.heap.size) (hk : zAZ x = true) (hid : zBk id) (hbk : zAQ k 0 15 = true) (he : e = 3 ∨ e = 4) (h0 : ¬ S 0) :
    Calls Tryz.prog 102 #[zAM cs, .int .i64 id, .int .i64 k, .int .i64 e] w fun e' w' => zEI S w (inC x k e) [inM x id k e] 1 e' w' := by
 cases hat : atC x.1 k with
 | none => exact zFL S cs x id k e w hh ho hS hk hid hbk he h0 hat
 | some j => exact zF2 S cs x id k e j w hh ho hS hk hid hbk he h0 hat
end Go.Proofs.YtoihjejenjcokaaGreatDoor
