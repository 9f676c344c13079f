import Derived.Test.YtoihjejenjcokaaGreatDoorP00Box
import Derived.Test.YtoihjejenjcokaaGreatDoorP33SpecAsk
import Derived.Test.YtoihjejenjcokaaGreatDoorP12Finds
import Derived.Test.YtoihjejenjcokaaGreatDoorP36WayAt
import Derived.Test.YtoihjejenjcokaaGreatDoorP37GotCache
namespace Go.Proofs.YtoihjejenjcokaaGreatDoor
open Go.ChangeShapes Go.WideShapes Go.ChangeAt Go.RowKit
set_option linter.unusedVariables false
set_option maxHeartbeats 8000000 in
set_option maxRecDepth 20000 in
theorem zJ8 (S : zAX) (g : Nat) (cs ns : List Value) (x : zAE) (m : zB5) (w : World) (ho : zAn.own w S cs x) (hS : ∀ k, S k → k < w.heap.size) (hg : ¬ S g) (hbox : w.heap[g]? = some (.cells cs.toArray 41 (0, 0))) (hm : zBy.rd w ns m) (hk : zAZ x = true) (j : Nat) (hat : atC x.1 (zAt m) = some j) (hs : ¬ 2 ≤ (zAD x.1 (zAt m)).2.1) (hkd : m.2.2.2.1 = 7) :
    Calls Tryz.prog 58 #[.pointer (some ⟨g, 0, none⟩), zAM ns] w fun e w' => zHy S g w (zDZ x.1 (zAt m) zAA, x.2) (msg 2 0 4 9 m.2.2.2.2.1 [] 1) e w' := by
 have hok : OkC isL zAJ x.1 := (zB4 hk).ok
 obtain ⟨hl0, hun, hul, hfu⟩ := zFv hok hat
 obtain ⟨hp3, hget, hne0, hr4, hset, hsl⟩ := zDy hok (zAt m)
 obtain ⟨fu1, fu2, fu3⟩ := zB0 hfu
 have hfl : (zAD x.1 (zAt m)).2.2.length = 2 := zD4 fu3
 obtain ⟨ma, mc, rfl, im0, im1, im2, im3, im4, im6, -, -, -⟩ := zBB hm
 obtain ⟨v0, v1, v2, v5, v6, v7, v8, S0, S1, S4, S5, rfl, i2, i3, o0, o1, o4, o5, sb0, sb1, sb4, sb5, d01, d04, d05, d14, d15, d45⟩ := zBd ho
 have r0 := zAB.own_rd o0
 obtain ⟨a0, c0, b0, d0, e0, -⟩ := zAH r0
 simp only [List.cons.injEq, and_true] at e0
 obtain ⟨rfl, rfl⟩ := e0
 obtain ⟨a1, c1, e1, -⟩ := zBX.own_rd o1
 simp only [List.cons.injEq, and_true] at e1
 obtain rfl := e1
 have r4 := zAS.own_rd o4
 obtain ⟨a4, c4, e4, ih1, ih2, -, -, q4⟩ := zAL r4
 simp only [List.cons.injEq, and_true] at e4
 obtain ⟨rfl, rfl, rfl⟩ := e4
 obtain ⟨a5, c5, e5, -⟩ := zA5.own_rd o5
 simp only [List.cons.injEq, and_true] at e5
 obtain rfl := e5
 obtain ⟨u0, w0, T1, T2, e9, c1o, c2o, t1, t2, t12⟩ := zCe o0
 simp only [List.cons.injEq, and_true] at e9
 obtain ⟨rfl, rfl⟩ := e9
 have HAT : Hid (∀ W, Below w.heap.size w W → Calls Tryz.prog 54 #[.agg #[.slice a0 x.1.1.length c0, .slice b0 x.1.2.length d0], .int .i64 m.2.2.2.2.1] W fun e w' => e = .returned (.int .i64 (j : Int)) ∧ Below W.heap.size W w') := fun W hb => by have := zD0 [.slice a0 x.1.1.length c0, .slice b0 x.1.2.length d0] x.1 m.2.2.2.2.1 W hok (zAN r0 hb); rw [show zAt m = m.2.2.2.2.1 from rfl] at hat; rw [hat] at this; exact this
 have HO : Hid (∀ W, Below w.heap.size w W → zAn.own W S [.slice a0 x.1.1.length c0, .slice b0 x.1.2.length d0, .slice a1 x.2.1.length c1, .int .i64 x.2.2.1, .int .i64 x.2.2.2.1, .int .i64 x.2.2.2.2.1.1, .int .i64 x.2.2.2.2.1.2.1, .slice a4 x.2.2.2.2.1.2.2.length c4, .slice a5 x.2.2.2.2.2.length c5] x) := fun W hb => zAn.own_keep ho (zAh hb)
 have HST : Hid (∀ u : zAU, ((x.1.1.set (zAF x.1 (zAt m)) ((zAm x.1 (zAt m)).set j u), x.1.2) : zAu) = zDZ x.1 (zAt m) u) := fun u => zEy hat
 have HSS : Hid _ := And.intro hS hg
 have G : w.heap[g]? = some (.cells #[.slice a0 x.1.1.length c0, .slice b0 x.1.2.length d0, .slice a1 x.2.1.length c1, .int .i64 x.2.2.1, .int .i64 x.2.2.2.1, .int .i64 x.2.2.2.2.1.1, .int .i64 x.2.2.2.2.1.2.1, .slice a4 x.2.2.2.2.1.2.2.length c4, .slice a5 x.2.2.2.2.2.length c5] 41 (0, 0)) := hbox
 have gl := (Array.getElem?_eq_some_iff.1 G).1
 obtain ⟨g1, cap1, g2, cap2, ua, uc, e0, hc0, hT1, hT2, hn12, hl1, hl2, hw0, hw1, hw2, hsr, ⟨cur2, ty2, hrow2⟩, hst⟩ := zEG (zBM c1o) hget hun
 simp only [Value.slice.injEq, true_and] at e0
 obtain ⟨rfl, rfl⟩ := e0
 have hz : (x.1.1.length : Int) ≠ 0 := by omega
 have hz2 : ((x.1.1.length : Int) == 0) = false := beq_false_of_ne hz
 have ht3 : Int.tmod (zAt m) (x.1.1.length : Int) = ((zAF x.1 (zAt m) : Nat) : Int) := by rw [Int.tmod_eq_emod_of_nonneg hl0, hset]
 have hjl := (List.getElem?_eq_some_iff.1 hun).1
 have hfi : (j : Int) < ((zAm x.1 (zAt m)).length : Int) := by omega
 have hsl1 : ((zAF x.1 (zAt m) : Nat) : Int) < (x.1.1.length : Int) := by omega
 have hfi0 : (0 : Int) ≤ (j : Int) := by omega
 have hz3 : ¬ (x.1.1.length = 0) := by omega
 have hz4 : ¬ (x.1.1 = []) := fun e => by rw [e] at hz3; exact hz3 rfl
 obtain ⟨yy, hyy⟩ : ∃ yy : zAE, yy = (zDZ x.1 (zAt m) zAA, x.2) := ⟨_, rfl⟩
 rw [← hyy]
 have HYY : Hid _ := hyy
 clear hyy
 obtain ⟨c, p, at_, ph, h, t⟩ := x
 simp only at *
 have him : zBk m.2.2.2.2.1 := im4
 have HOK9 : Hid _ := And.intro hget hun
 have hul9 := hul
 generalize zAD c (zAt m) = u at *
 generalize zAm c (zAt m) = row at *
 generalize zAF c (zAt m) = sn at *
 rw [show zAt m = m.2.2.2.2.1 from rfl] at *
 have HSR : Hid (∀ W, Below w.heap.size w W → zBh zBC W ua u.2.2) := fun W hb => zAG hsr hb
 have HUL : Hid (u.2.2.length = 2) := hfl
 have HCL : Hid (∀ W, Below w.heap.size w W → W.cell? ⟨g1, sn, none⟩ = some (.slice (some ⟨g2, 0, none⟩) row.length cap2) ∧ W.cell? ⟨g2, j * 3, none⟩ = some (.int .i64 u.1) ∧ W.cell? ⟨g2, j * 3 + 1, none⟩ = some (.int .i64 u.2.1) ∧ W.cell? ⟨g2, j * 3 + 2, none⟩ = some (.slice ua u.2.2.length uc)) := fun W hb => ⟨zAd hb hc0 hl1, zAd hb hw0 hl2, zAd hb hw1 hl2, zAd hb hw2 hl2⟩
 have HFZ : Hid (∀ W, Below w.heap.size w W → ∀ q, W.frozen? ⟨g2, q, none⟩ = false) := fun W hb q => frozen_of_row W g2 q _ _ (zAa hb hrow2)
 have HTT : Hid _ := And.intro hT1.1 hT2.1
 have HSE : Hid _ := hst
 have HC1 : Hid _ := c1o
 have HOW : Hid _ := And.intro c2o (And.intro o1 (And.intro o4 (And.intro o5 (And.intro sb0 (And.intro sb1 (And.intro sb4 (And.intro sb5 (And.intro d01 (And.intro d04 (And.intro d05 (And.intro d14 (And.intro d15 (And.intro d45 (And.intro t1 (And.intro t2 (And.intro t12 (And.intro i2 i3)))))))))))))))))
 have HN12 : Hid (g1 ≠ g2) := hn12
 have HHR : Hid (∀ W, Below w.heap.size w W → W.heap[g2]? = some (.cells cur2 ty2 (0, 0))) := fun W hb => zAa hb hrow2
 have n2g : g2 ≠ g := fun e => by rw [e] at hT2; exact hg (sb0 _ (t1 _ hT2.1))
 have z7 : (m.2.2.2.1 == 7) = true := by simp [hkd]
 have z4 : ¬ (2 ≤ u.2.1) := hs
 clear ho hS hg r0 r4 q4 o0 o1 o4 o5 c1o c2o sb0 sb1 sb4 sb5 d01 d04 d05 d14 d15 d45 t1 t2 t12 i2 i3 ih1 ih2 hk hok hm hbox im0 im1 im2 im3 im4 im6 hat hs hkd hT1 hT2 hst hsr hw0 hw1 hw2 hc0 hrow2 hget hun hul hul9 hfu fu1 fu2 fu3 hfl hset hsl hr4 hne0 hp3 hn12
 rw [show zAM [.int .i64 m.1, .int .i64 m.2.1, .int .i64 m.2.2.1, .int .i64 m.2.2.2.1, .int .i64 m.2.2.2.2.1, .slice ma m.2.2.2.2.2.1.length mc, .int .i64 m.2.2.2.2.2.2] = .agg #[.int .i64 m.1, .int .i64 m.2.1, .int .i64 m.2.2.1, .int .i64 m.2.2.2.1, .int .i64 m.2.2.2.2.1, .slice ma m.2.2.2.2.2.1.length mc, .int .i64 m.2.2.2.2.2.2] from rfl]
 have B := Below.refl w.heap.size w
 go_enter Tryz.func58, Tryz.ntmps58
 go_upto_region 1 with fail
 generalize hu1w : w.alloc _ = u1w
 have N := boxH hu1w
 have bz := boxB hu1w
 have zN := boxL hu1w
 clear hu1w
 replace B := zAb B bz
 replace G := zAa bz G
 clear bz
 have zNa := Nat.le_of_eq zN
 have zNb := Nat.le_of_eq zN.symm
 clear zN
 generalize hu2w : u1w.alloc _ = u2w
 have R := boxH hu2w
 have bz := boxB hu2w
 have zR := boxL hu2w
 clear hu2w
 rw [show u1w.heap.size = w.heap.size + 1 from by omega] at R
 replace B := zAb B bz
 replace G := zAa bz G
 replace N := zAa bz N
 clear bz
 have zRa := Nat.le_of_eq zR
 have zRb := Nat.le_of_eq zR.symm
 clear zR
 obtain ⟨Gc0, Gc1, Gc2, Gc3, Gc4, Gc5, Gc6, Gc7, Gc8⟩ := zAc G
 have Glt := (Array.getElem?_eq_some_iff.1 G).1
 obtain ⟨Nc0, Nc1, Nc2, Nc3, Nc4, Nc5, Nc6⟩ := zAe N
 have Nlt := (Array.getElem?_eq_some_iff.1 N).1
 obtain ⟨Rc0, Rc1, Rc2, Rc3, Rc4, Rc5, Rc6⟩ := zAe R
 have Rlt := (Array.getElem?_eq_some_iff.1 R).1
 go_upto_region 2 with fail
 clear Gc0 Gc1 Gc2 Gc3 Gc4 Gc5 Gc6 Gc7 Gc8 Glt Nc0 Nc1 Nc2 Nc3 Nc4 Nc5 Nc6 Nlt Rc0 Rc1 Rc2 Rc3 Rc4 Rc5 Rc6 Rlt
 generalize hu3w : u2w.alloc _ = u3w
 have O := boxH hu3w
 have bz := boxB hu3w
 have zO := boxL hu3w
 clear hu3w
 replace B := zAb B bz
 replace G := zAa bz G
 replace N := zAa bz N
 replace R := zAa bz R
 clear bz
 have zOa := Nat.le_of_eq zO
 have zOb := Nat.le_of_eq zO.symm
 clear zO
 have HATc : Hid (∀ n' : Cls (fun wx => Below u3w.heap.size u3w wx), _) := fun n' => HAT.out n'.w (zAb B n'.h)
 obtain ⟨Gc0, Gc1, Gc2, Gc3, Gc4, Gc5, Gc6, Gc7, Gc8⟩ := zAc G
 have Glt := (Array.getElem?_eq_some_iff.1 G).1
 obtain ⟨Nc0, Nc1, Nc2, Nc3, Nc4, Nc5, Nc6⟩ := zAe N
 have Nlt := (Array.getElem?_eq_some_iff.1 N).1
 obtain ⟨Rc0, Rc1, Rc2, Rc3, Rc4, Rc5, Rc6⟩ := zAe R
 have Rlt := (Array.getElem?_eq_some_iff.1 R).1
 obtain ⟨Oc0, Oc1, Oc2, Oc3, Oc4, Oc5, Oc6⟩ := zAe O
 have Olt := (Array.getElem?_eq_some_iff.1 O).1
 go_upto_region 2 with fail
 clear Gc0 Gc1 Gc2 Gc3 Gc4 Gc5 Gc6 Gc7 Gc8 Glt Nc0 Nc1 Nc2 Nc3 Nc4 Nc5 Nc6 Nlt Rc0 Rc1 Rc2 Rc3 Rc4 Rc5 Rc6 Rlt Oc0 Oc1 Oc2 Oc3 Oc4 Oc5 Oc6 Olt
 obtain ⟨Gc0, Gc1, Gc2, Gc3, Gc4, Gc5, Gc6, Gc7, Gc8⟩ := zAc G
 have Gk0 : ∀ n' : Cls (fun wx => Below u3w.heap.size u3w wx), n'.w.cell? ⟨g, 0, none⟩ = some (.slice (some ⟨g1, 0, none⟩) c.1.length c0) := fun n' => zAd n'.h Gc0 (zAi Gc0)
 have Gk1 : ∀ n' : Cls (fun wx => Below u3w.heap.size u3w wx), n'.w.cell? ⟨g, 1, none⟩ = some (.slice b0 c.2.length d0) := fun n' => zAd n'.h Gc1 (zAi Gc1)
 have Gk2 : ∀ n' : Cls (fun wx => Below u3w.heap.size u3w wx), n'.w.cell? ⟨g, 2, none⟩ = some (.slice a1 p.length c1) := fun n' => zAd n'.h Gc2 (zAi Gc2)
 have Gk3 : ∀ n' : Cls (fun wx => Below u3w.heap.size u3w wx), n'.w.cell? ⟨g, 3, none⟩ = some (.int .i64 at_) := fun n' => zAd n'.h Gc3 (zAi Gc3)
 have Gk4 : ∀ n' : Cls (fun wx => Below u3w.heap.size u3w wx), n'.w.cell? ⟨g, 4, none⟩ = some (.int .i64 ph) := fun n' => zAd n'.h Gc4 (zAi Gc4)
 have Gk5 : ∀ n' : Cls (fun wx => Below u3w.heap.size u3w wx), n'.w.cell? ⟨g, 5, none⟩ = some (.int .i64 h.1) := fun n' => zAd n'.h Gc5 (zAi Gc5)
 have Gk6 : ∀ n' : Cls (fun wx => Below u3w.heap.size u3w wx), n'.w.cell? ⟨g, 6, none⟩ = some (.int .i64 h.2.1) := fun n' => zAd n'.h Gc6 (zAi Gc6)
 have Gk7 : ∀ n' : Cls (fun wx => Below u3w.heap.size u3w wx), n'.w.cell? ⟨g, 7, none⟩ = some (.slice a4 h.2.2.length c4) := fun n' => zAd n'.h Gc7 (zAi Gc7)
 have Gk8 : ∀ n' : Cls (fun wx => Below u3w.heap.size u3w wx), n'.w.cell? ⟨g, 8, none⟩ = some (.slice a5 t.length c5) := fun n' => zAd n'.h Gc8 (zAi Gc8)
 clear Gc0 Gc1 Gc2 Gc3 Gc4 Gc5 Gc6 Gc7 Gc8
 obtain ⟨Nc0, Nc1, Nc2, Nc3, Nc4, Nc5, Nc6⟩ := zAe N
 have Nk0 : ∀ n' : Cls (fun wx => Below u3w.heap.size u3w wx), n'.w.cell? ⟨w.heap.size, 0, none⟩ = some (.int .i64 m.1) := fun n' => zAd n'.h Nc0 (zAi Nc0)
 have Nk1 : ∀ n' : Cls (fun wx => Below u3w.heap.size u3w wx), n'.w.cell? ⟨w.heap.size, 1, none⟩ = some (.int .i64 m.2.1) := fun n' => zAd n'.h Nc1 (zAi Nc1)
 have Nk2 : ∀ n' : Cls (fun wx => Below u3w.heap.size u3w wx), n'.w.cell? ⟨w.heap.size, 2, none⟩ = some (.int .i64 m.2.2.1) := fun n' => zAd n'.h Nc2 (zAi Nc2)
 have Nk3 : ∀ n' : Cls (fun wx => Below u3w.heap.size u3w wx), n'.w.cell? ⟨w.heap.size, 3, none⟩ = some (.int .i64 m.2.2.2.1) := fun n' => zAd n'.h Nc3 (zAi Nc3)
 have Nk4 : ∀ n' : Cls (fun wx => Below u3w.heap.size u3w wx), n'.w.cell? ⟨w.heap.size, 4, none⟩ = some (.int .i64 m.2.2.2.2.1) := fun n' => zAd n'.h Nc4 (zAi Nc4)
 have Nk5 : ∀ n' : Cls (fun wx => Below u3w.heap.size u3w wx), n'.w.cell? ⟨w.heap.size, 5, none⟩ = some (.slice ma m.2.2.2.2.2.1.length mc) := fun n' => zAd n'.h Nc5 (zAi Nc5)
 have Nk6 : ∀ n' : Cls (fun wx => Below u3w.heap.size u3w wx), n'.w.cell? ⟨w.heap.size, 6, none⟩ = some (.int .i64 m.2.2.2.2.2.2) := fun n' => zAd n'.h Nc6 (zAi Nc6)
 clear Nc0 Nc1 Nc2 Nc3 Nc4 Nc5 Nc6
 have HFX : Hid _ := And.intro B (And.intro G (And.intro N (And.intro R (O))))
 clear B G N R O
 refine zA8 (fun wx => Below u3w.heap.size u3w wx) (by kernel_rfl) (by kernel_rfl) ((Below.refl _ u3w).drew) ?_
 intro hne
 repeat (quiet_step (first | (go_at_call 54; exact zAz (HATc.out _) (fun w' hc bb => zAb hc bb))))
 refine wpQuiet_nil ?_
 intro u4w bq
 clear Gk0 Gk1 Gk2 Gk3 Gk4 Gk5 Gk6 Gk7 Gk8 Nk0 Nk1 Nk2 Nk3 Nk4 Nk5 Nk6 hne
 obtain ⟨B, G, N, R, O⟩ := HFX.out
 clear HFX
 have tu4w : u3w.heap.size ≤ u4w.heap.size := bq.size
 replace B := zAb B bq
 replace G := zAa bq G
 replace N := zAa bq N
 replace R := zAa bq R
 replace O := zAa bq O
 clear bq
 clear HATc HAT
 obtain ⟨Gc0, Gc1, Gc2, Gc3, Gc4, Gc5, Gc6, Gc7, Gc8⟩ := zAc G
 have Glt := (Array.getElem?_eq_some_iff.1 G).1
 obtain ⟨Nc0, Nc1, Nc2, Nc3, Nc4, Nc5, Nc6⟩ := zAe N
 have Nlt := (Array.getElem?_eq_some_iff.1 N).1
 obtain ⟨Rc0, Rc1, Rc2, Rc3, Rc4, Rc5, Rc6⟩ := zAe R
 have Rlt := (Array.getElem?_eq_some_iff.1 R).1
 obtain ⟨Oc0, Oc1, Oc2, Oc3, Oc4, Oc5, Oc6⟩ := zAe O
 have Olt := (Array.getElem?_eq_some_iff.1 O).1
 go_upto_region 4 with fail
 clear Gc0 Gc1 Gc2 Gc3 Gc4 Gc5 Gc6 Gc7 Gc8 Glt Nc0 Nc1 Nc2 Nc3 Nc4 Nc5 Nc6 Nlt Rc0 Rc1 Rc2 Rc3 Rc4 Rc5 Rc6 Rlt Oc0 Oc1 Oc2 Oc3 Oc4 Oc5 Oc6 Olt
 go_cut [7] (fun q wx => q = .pointer (some ⟨g2, j * 3, none⟩) ∧ Below u4w.heap.size u4w wx)
 case first =>
  obtain ⟨f0_, f1_, f2_, f3_⟩ := HCL.out _ B
  obtain ⟨Gc0, Gc1, Gc2, Gc3, Gc4, Gc5, Gc6, Gc7, Gc8⟩ := zAc G
  have Glt := (Array.getElem?_eq_some_iff.1 G).1
  obtain ⟨Nc0, Nc1, Nc2, Nc3, Nc4, Nc5, Nc6⟩ := zAe N
  have Nlt := (Array.getElem?_eq_some_iff.1 N).1
  obtain ⟨Rc0, Rc1, Rc2, Rc3, Rc4, Rc5, Rc6⟩ := zAe R
  have Rlt := (Array.getElem?_eq_some_iff.1 R).1
  obtain ⟨Oc0, Oc1, Oc2, Oc3, Oc4, Oc5, Oc6⟩ := zAe O
  have Olt := (Array.getElem?_eq_some_iff.1 O).1
  clear B G N R O
  go_quiet (fail)
  go_wp2_with fail
  go_meet
  exact ⟨rfl, zBt (Below.refl _ _) _⟩
 case rest =>
  obtain ⟨rfl, bq⟩ := hcut
  generalize wc = u5w at bq ⊢
  have tu5w : u4w.heap.size ≤ u5w.heap.size := bq.size
  replace B := zAb B bq
  replace G := zAa bq G
  replace N := zAa bq N
  replace R := zAa bq R
  replace O := zAa bq O
  clear bq
  have HPU : Hid _ := zFZ (zBu.own_keep HC1.out (zAh B)) HOK9.out.1 HOK9.out.2 (HCL.out _ B).1
  obtain ⟨f0_, f1_, f2_, f3_⟩ := HCL.out _ B
  obtain ⟨Gc0, Gc1, Gc2, Gc3, Gc4, Gc5, Gc6, Gc7, Gc8⟩ := zAc G
  have Glt := (Array.getElem?_eq_some_iff.1 G).1
  obtain ⟨Nc0, Nc1, Nc2, Nc3, Nc4, Nc5, Nc6⟩ := zAe N
  have Nlt := (Array.getElem?_eq_some_iff.1 N).1
  obtain ⟨Rc0, Rc1, Rc2, Rc3, Rc4, Rc5, Rc6⟩ := zAe R
  have Rlt := (Array.getElem?_eq_some_iff.1 R).1
  obtain ⟨Oc0, Oc1, Oc2, Oc3, Oc4, Oc5, Oc6⟩ := zAe O
  have Olt := (Array.getElem?_eq_some_iff.1 O).1
  go_wp2_with fail
  clear Gc0 Gc1 Gc2 Gc3 Gc4 Gc5 Gc6 Gc7 Gc8 Glt Nc0 Nc1 Nc2 Nc3 Nc4 Nc5 Nc6 Nlt Rc0 Rc1 Rc2 Rc3 Rc4 Rc5 Rc6 Rlt Oc0 Oc1 Oc2 Oc3 Oc4 Oc5 Oc6 Olt
  clear f0_ f1_ f2_ f3_
  refine (zGU _).mono ?_
  rintro e u6w ⟨us, rfl, mm⟩
  obtain ⟨ea, ec, e9, -, -, -, -, -⟩ := zAL (zAS.own_rd mm.1)
  obtain rfl : us = [.int .i64 (-1), .int .i64 0, .slice ea 0 ec] := e9
  rw [show zAM [.int .i64 (-1), .int .i64 0, .slice ea 0 ec] = .agg #[.int .i64 (-1), .int .i64 0, .slice ea 0 ec] from rfl]
  have HP9 : Hid _ := HPU.out _ _ _ _ _ mm
  have E := zAR (R := zAS) mm
  have mb := mm.2
  have tu6w : u5w.heap.size ≤ u6w.heap.size := mb.size
  replace B := zAb B mb
  replace G := zAa mb G
  replace N := zAa mb N
  replace R := zAa mb R
  replace O := zAa mb O
  clear mb mm
  have hfz0 := HFZ.out _ B (j * 3)
  have hfz1 := HFZ.out _ B (j * 3 + 1)
  have hfz2 := HFZ.out _ B (j * 3 + 2)
  obtain ⟨f0_, f1_, f2_, f3_⟩ := HCL.out _ B
  obtain ⟨Gc0, Gc1, Gc2, Gc3, Gc4, Gc5, Gc6, Gc7, Gc8⟩ := zAc G
  have Glt := (Array.getElem?_eq_some_iff.1 G).1
  obtain ⟨Nc0, Nc1, Nc2, Nc3, Nc4, Nc5, Nc6⟩ := zAe N
  have Nlt := (Array.getElem?_eq_some_iff.1 N).1
  obtain ⟨Rc0, Rc1, Rc2, Rc3, Rc4, Rc5, Rc6⟩ := zAe R
  have Rlt := (Array.getElem?_eq_some_iff.1 R).1
  obtain ⟨Rf0, Rf1, Rf2, Rf3, Rf4, Rf5, Rf6⟩ := zB8 R
  obtain ⟨Oc0, Oc1, Oc2, Oc3, Oc4, Oc5, Oc6⟩ := zAe O
  have Olt := (Array.getElem?_eq_some_iff.1 O).1
  obtain ⟨Of0, Of1, Of2, Of3, Of4, Of5, Of6⟩ := zB8 O
  have ne1 : ¬ (u2w.heap.size = w.heap.size + 1) := by omega
  have ne2 : ¬ (w.heap.size + 1 = u2w.heap.size) := by omega
  have ne3 : ¬ (g2 = w.heap.size + 1) := by omega
  have ne4 : ¬ (w.heap.size + 1 = g2) := by omega
  have ne5 : ¬ (g2 = u2w.heap.size) := by omega
  have ne6 : ¬ (u2w.heap.size = g2) := by omega
  have ne7 : ¬ (g2 = w.heap.size) := by omega
  have ne8 : ¬ (w.heap.size = g2) := by omega
  have HK : Hid _ := And.intro B (And.intro G (And.intro N (And.intro R (And.intro O (E)))))
  clear B G N R O E
  go_wp2
  clear hfz0 hfz1 hfz2 ne1 ne2 ne3 ne4 ne5 ne6 ne7 ne8
  clear Gc0 Gc1 Gc2 Gc3 Gc4 Gc5 Gc6 Gc7 Gc8 Glt Nc0 Nc1 Nc2 Nc3 Nc4 Nc5 Nc6 Nlt Rc0 Rc1 Rc2 Rc3 Rc4 Rc5 Rc6 Rlt Rf0 Rf1 Rf2 Rf3 Rf4 Rf5 Rf6 Oc0 Oc1 Oc2 Oc3 Oc4 Oc5 Oc6 Olt Of0 Of1 Of2 Of3 Of4 Of5 Of6
  clear f0_ f1_ f2_ f3_
  obtain ⟨B, G, N, R, O, E⟩ := HK.out
  clear HK
  have bsz := B.size
  obtain ⟨c2o, o1, o4, o5, sb0, sb1, sb4, sb5, d01, d04, d05, d14, d15, d45, t1, t2, t12, i2, i3⟩ := HOW.out
  obtain ⟨hS, hg⟩ := HSS.out
  obtain ⟨hT1, hT2⟩ := HTT.out
  obtain ⟨-, os, hch0⟩ := HP9.out
  have sz1 : (zEs u6w g2 (j * 3) (.int .i64 (-1)) (.int .i64 0) (.slice ea 0 ec)).heap.size = u6w.heap.size := zFp
  have hch : Chg (fun k => k = g2) w (zEs u6w g2 (j * 3) (.int .i64 (-1)) (.int .i64 0) (.slice ea 0 ec)) := (zA9 B).trans (zFq rfl)
  replace c2o := zAO c2o hch (fun q a b => t12 q (by rw [b]; exact hT2) a)
  replace o1 := zAO o1 hch (fun q a b => d01 q (t1 _ (by rw [b]; exact hT2)) a)
  replace o4 := zAO o4 hch (fun q a b => d04 q (t1 _ (by rw [b]; exact hT2)) a)
  replace o5 := zAO o5 hch (fun q a b => d05 q (t1 _ (by rw [b]; exact hT2)) a)
  have OCa := zCd (c := (c.1.set sn (row.set j zAA), c.2)) (S := fun q => S0 q ∨ (u5w.heap.size ≤ q ∧ q < u6w.heap.size)) os c2o (fun q z => by rcases z with z | z; exact .inl (t1 _ z.1); exact .inr z) (fun q z => .inl (t2 _ z)) (fun q a b => by rcases a with a | a; exact t12 q a.1 b; (have := hS _ (sb0 _ (t2 _ b)); omega))
  have OC1 := zC9 (S := fun q => S q ∨ (u5w.heap.size ≤ q ∧ q < u6w.heap.size)) i2 i3 OCa o1 o4 o5 (fun q z => by rcases z with z | z; exact .inl (sb0 _ z); exact .inr z) (fun q z => .inl (sb1 _ z)) (fun q z => .inl (sb4 _ z)) (fun q z => .inl (sb5 _ z)) (fun q a b => by rcases a with a | a; exact d01 q a b; (have := hS _ (sb1 _ b); omega)) (fun q a b => by rcases a with a | a; exact d04 q a b; (have := hS _ (sb4 _ b); omega)) (fun q a b => by rcases a with a | a; exact d05 q a b; (have := hS _ (sb5 _ b); omega)) d14 d15 d45
  have OC3 := zAs (g := w.heap.size + 1) (o := 0) (vs := [.int .i64 2, .int .i64 0, .int .i64 4, .int .i64 9, .int .i64 m.2.2.2.2.1, .slice none 0 0, .int .i64 1]) (zAs (g := u2w.heap.size) (o := 6) (vs := [.int .i64 1]) OC1 (fun q => by rcases q with q | q; (have := hS _ q; omega); omega)) (fun q => by rcases q with q | q; (have := hS _ q; omega); omega)
  have OM3 := zAs (g := w.heap.size + 1) (o := 0) (vs := [.int .i64 2, .int .i64 0, .int .i64 4, .int .i64 9, .int .i64 m.2.2.2.2.1, .slice none 0 0, .int .i64 1]) (zAs (g := u2w.heap.size) (o := 6) (vs := [.int .i64 1]) (zAO (zBR (f0 := 2) (f1 := 0) (f2 := 4) (f3 := 9) (f4 := m.2.2.2.2.1) (f6 := 1) (by constructor <;> decide) (by constructor <;> decide) (by constructor <;> decide) (by constructor <;> decide) him (by constructor <;> decide) (zBA u6w (fun _ => False))) (zFq (S := fun k => k = g2) (w := u6w) (o := j * 3) (x := .int .i64 (-1)) (y := .int .i64 0) (z := .slice ea 0 ec) rfl) (fun k a b => a)) (fun q => q)) (fun q => q)
  have G1 : (zEs u6w g2 (j * 3) (.int .i64 (-1)) (.int .i64 0) (.slice ea 0 ec)).heap[g]? = some _ := (zDd (Ne.symm n2g)).trans G
  have G3 := zAk (g := w.heap.size + 1) (o := 0) (vs := [.int .i64 2, .int .i64 0, .int .i64 4, .int .i64 9, .int .i64 m.2.2.2.2.1, .slice none 0 0, .int .i64 1]) (zAk (g := u2w.heap.size) (o := 6) (vs := [.int .i64 1]) G1 (by omega)) (by omega)
  have R1 : (zEs u6w g2 (j * 3) (.int .i64 (-1)) (.int .i64 0) (.slice ea 0 ec)).heap[w.heap.size + 1]? = some _ := (zDd (by omega)).trans R
  have R2 := zAk (g := u2w.heap.size) (o := 6) (vs := [.int .i64 1]) R1 (by omega)
  have V3 : (zAo (zAo (zEs u6w g2 (j * 3) (.int .i64 (-1)) (.int .i64 0) (.slice ea 0 ec)) (u2w.heap.size) 6 [.int .i64 1]) (w.heap.size + 1) 0 [.int .i64 2, .int .i64 0, .int .i64 4, .int .i64 9, .int .i64 m.2.2.2.2.1, .slice none 0 0, .int .i64 1]).heap[w.heap.size + 1]? = some (.cells #[.int .i64 2, .int .i64 0, .int .i64 4, .int .i64 9, .int .i64 m.2.2.2.2.1, .slice none 0 0, .int .i64 1] 46 (0, 0)) := zGL R2
  obtain ⟨r0, r1, r2, r3, r4, r5, r6⟩ := zAe V3
  have FS : (zAo (zAo (zEs u6w g2 (j * 3) (.int .i64 (-1)) (.int .i64 0) (.slice ea 0 ec)) (u2w.heap.size) 6 [.int .i64 1]) (w.heap.size + 1) 0 [.int .i64 2, .int .i64 0, .int .i64 4, .int .i64 9, .int .i64 m.2.2.2.2.1, .slice none 0 0, .int .i64 1]).heap.size = u6w.heap.size := (zAj _ _ _).trans ((zAj _ _ _).trans sz1)
  have CH : Chg (fun k => S k ∨ k = g) w (zAo (zAo (zEs u6w g2 (j * 3) (.int .i64 (-1)) (.int .i64 0) (.slice ea 0 ec)) (u2w.heap.size) 6 [.int .i64 1]) (w.heap.size + 1) 0 [.int .i64 2, .int .i64 0, .int .i64 4, .int .i64 9, .int .i64 m.2.2.2.2.1, .slice none 0 0, .int .i64 1]) := zBg (zBg (hch.mono fun k q => .inl (sb0 _ (t1 _ (by rw [q]; exact hT2)))) (by omega)) (by omega)
  have hyq := HYY.out
  rw [← HST.out] at hyq
  have FQ : zHy S g w ((c.1.set sn (row.set j zAA), c.2), p, at_, ph, h, t) (msg 2 0 4 9 m.2.2.2.2.1 [] 1) (.returned (zAM [.int .i64 2, .int .i64 0, .int .i64 4, .int .i64 9, .int .i64 m.2.2.2.2.1, .slice none 0 0, .int .i64 1])) (zAo (zAo (zEs u6w g2 (j * 3) (.int .i64 (-1)) (.int .i64 0) (.slice ea 0 ec)) (u2w.heap.size) 6 [.int .i64 1]) (w.heap.size + 1) 0 [.int .i64 2, .int .i64 0, .int .i64 4, .int .i64 9, .int .i64 m.2.2.2.2.1, .slice none 0 0, .int .i64 1]) := ⟨[.slice (some ⟨g1, 0, none⟩) c.1.length c0, .slice b0 c.2.length d0, .slice a1 p.length c1, .int .i64 at_, .int .i64 ph, .int .i64 h.1, .int .i64 h.2.1, .slice a4 h.2.2.length c4, .slice a5 t.length c5], [.int .i64 2, .int .i64 0, .int .i64 4, .int .i64 9, .int .i64 m.2.2.2.2.1, .slice none 0 0, .int .i64 1], rfl, zAn.own_mono OC3 (fun k q => by rw [FS]; rcases q with q | q; exact .inl q; exact .inr ⟨by omega, q.2⟩), zBy.own_mono OM3 (fun k q => by rw [FS]; exact (q.elim)), G3, CH⟩
  rw [← hyq] at FQ
  simp only [zA0, zA3, Nat.reduceAdd, zEs] at FQ r0 r1 r2 r3 r4 r5 r6
  rw [show zAM [.int .i64 2, .int .i64 0, .int .i64 4, .int .i64 9, .int .i64 m.2.2.2.2.1, .slice none 0 0, .int .i64 1] = .agg #[.int .i64 2, .int .i64 0, .int .i64 4, .int .i64 9, .int .i64 m.2.2.2.2.1, .slice none 0 0, .int .i64 1] from rfl] at FQ
  clear B G N R O E V3 FS G1 G3 R1 R2 OC1 OC3 OCa OM3 CH os hch hch0 c2o o1 o4 o5
  refine bodyPost_ret (v := .agg #[.int .i64 2, .int .i64 0, .int .i64 4, .int .i64 9, .int .i64 m.2.2.2.2.1, .slice none 0 0, .int .i64 1]) (by simp [results, Tryz.results58, go_sem, r0, r1, r2, r3, r4, r5, r6]) rfl ?_
  exact FQ
end Go.Proofs.YtoihjejenjcokaaGreatDoor
