import Derived.Test.YtoihjejenjcokaaGreatDoorP00Box
import Derived.Test.YtoihjejenjcokaaGreatDoorP33SpecAsk
import Derived.Test.YtoihjejenjcokaaGreatDoorP12Finds
namespace Go.Proofs.YtoihjejenjcokaaGreatDoor
set_option maxHeartbeats 8000000
set_option maxRecDepth 20000
open Go.ChangeShapes Go.WideShapes Go.ChangeAt Go.RowKit
set_option linter.unusedVariables false
theorem zHz (S : zAX) (g : Nat) (cs ns : List Value) (x : zAE) (m : zB5) (w : World) (ho : zAn.own w S cs x) (hS : ∀ k, S k → k < w.heap.size) (hg : ¬ S g) (hbox : w.heap[g]? = some (.cells cs.toArray 41 (0, 0))) (hm : zBy.rd w ns m) (hk : zAZ x = true) (hat : atC x.1 (zAt m) = none) (hp : x.2.2.2.1 = 1) (hl : x.2.2.2.2.1.1 = m.2.2.2.2.1) (hs : x.2.2.2.2.1.2.1 = 1) (hkd : m.2.2.2.1 = 6) :
    Calls Tryz.prog 58 #[.pointer (some ⟨g, 0, none⟩), zAM ns] w fun e w' => zHy S g w x (msg 2 0 4 9 m.2.2.2.2.1 [] 0) e w' := by
 have hok : OkC isL zAJ x.1 := (zB4 hk).ok
 obtain ⟨ma, mc, rfl, im0, im1, im2, im3, im4, im6, -, -, -⟩ := zBB hm
 obtain ⟨v0, v1, v2, v5, v6, v7, v8, S0, S1, S4, S5, rfl, i2, i3, o0, o1, o4, o5, sb0, sb1, sb4, sb5, d01, d04, d05, d14, d15, d45⟩ := zBd ho
 have r0 := zAB.own_rd o0
 obtain ⟨a0, c0, b0, d0, e0, -⟩ := zAH r0
 simp only [List.cons.injEq, and_true] at e0
 obtain ⟨rfl, rfl⟩ := e0
 obtain ⟨a1, c1, e1, -⟩ := zBX.own_rd o1
 simp only [List.cons.injEq, and_true] at e1
 obtain rfl := e1
 have r4 := zAS.own_rd o4
 obtain ⟨a4, c4, e4, ih1, ih2, -, -, q4⟩ := zAL r4
 simp only [List.cons.injEq, and_true] at e4
 obtain ⟨rfl, rfl, rfl⟩ := e4
 obtain ⟨a5, c5, e5, -⟩ := zA5.own_rd o5
 simp only [List.cons.injEq, and_true] at e5
 obtain rfl := e5
 have HAT : Hid (∀ W, Below w.heap.size w W → Calls Tryz.prog 54 #[.agg #[.slice a0 x.1.1.length c0, .slice b0 x.1.2.length d0], .int .i64 m.2.2.2.2.1] W fun e w' => e = .returned (.int .i64 (-1)) ∧ Below W.heap.size W w') := fun W hb => by have := zD0 [.slice a0 x.1.1.length c0, .slice b0 x.1.2.length d0] x.1 m.2.2.2.2.1 W hok (zAN r0 hb); rw [show zAt m = m.2.2.2.2.1 from rfl] at hat; rw [hat] at this; exact this
 have HSS : Hid _ := And.intro hS hg
 have G : w.heap[g]? = some (.cells #[.slice a0 x.1.1.length c0, .slice b0 x.1.2.length d0, .slice a1 x.2.1.length c1, .int .i64 x.2.2.1, .int .i64 x.2.2.2.1, .int .i64 x.2.2.2.2.1.1, .int .i64 x.2.2.2.2.1.2.1, .slice a4 x.2.2.2.2.1.2.2.length c4, .slice a5 x.2.2.2.2.2.length c5] 41 (0, 0)) := hbox
 have gl := (Array.getElem?_eq_some_iff.1 G).1
 have HO : Hid (∀ W, Below w.heap.size w W → zAn.own W S [.slice a0 x.1.1.length c0, .slice b0 x.1.2.length d0, .slice a1 x.2.1.length c1, .int .i64 x.2.2.1, .int .i64 x.2.2.2.1, .int .i64 x.2.2.2.2.1.1, .int .i64 x.2.2.2.2.1.2.1, .slice a4 x.2.2.2.2.1.2.2.length c4, .slice a5 x.2.2.2.2.2.length c5] x) := fun W hb => zAn.own_keep ho (zAh hb)
 have HQ4 : Hid (∀ W, Below w.heap.size w W → zBh zBC W a4 x.2.2.2.2.1.2.2) := fun W hb => zAG q4 hb
 have hln := zDX hk
 have HLN : Hid (x.2.2.2.2.1.2.2.length ≤ 2) := hln
 obtain ⟨c, p, at_, ph, h, t⟩ := x
 simp only at *
 have him : zBk m.2.2.2.2.1 := im4
 have HOW : Hid _ := And.intro o0 (And.intro o1 (And.intro o5 (And.intro sb0 (And.intro sb1 (And.intro sb5 (And.intro d01 (And.intro d05 (And.intro d15 (And.intro i2 i3)))))))))
 have z1 : (ph == 1) = true := by simp [hp]
 have z2 : (h.1 == m.2.2.2.2.1) = true := by simp [hl]
 have z3 : (h.2.1 != 0) = true := by simp; omega
 clear ho hS hg r0 r4 q4 o0 o1 o4 o5 sb0 sb1 sb4 sb5 d01 d04 d05 d14 d15 d45 i2 i3 ih1 ih2 hk hok hm hbox im0 im1 im2 im3 im4 im6 hat hp hl hln
 have z4 : ¬ (2 ≤ h.2.1) := by omega
 have z5 : (m.2.2.2.1 == 6) = true := by simp [hkd]
 clear hs hkd
 rw [show zAM [.int .i64 m.1, .int .i64 m.2.1, .int .i64 m.2.2.1, .int .i64 m.2.2.2.1, .int .i64 m.2.2.2.2.1, .slice ma m.2.2.2.2.2.1.length mc, .int .i64 m.2.2.2.2.2.2] = .agg #[.int .i64 m.1, .int .i64 m.2.1, .int .i64 m.2.2.1, .int .i64 m.2.2.2.1, .int .i64 m.2.2.2.2.1, .slice ma m.2.2.2.2.2.1.length mc, .int .i64 m.2.2.2.2.2.2] from rfl]
 have B := Below.refl w.heap.size w
 go_enter Tryz.func58, Tryz.ntmps58
 go_upto_region 1 with fail
 generalize hu1w : w.alloc _ = u1w
 have N := boxH hu1w
 have bz := boxB hu1w
 have zN := boxL hu1w
 clear hu1w
 replace B := zAb B bz
 replace G := zAa bz G
 clear bz
 have zNa := Nat.le_of_eq zN
 have zNb := Nat.le_of_eq zN.symm
 clear zN
 generalize hu2w : u1w.alloc _ = u2w
 have R := boxH hu2w
 have bz := boxB hu2w
 have zR := boxL hu2w
 clear hu2w
 rw [show u1w.heap.size = w.heap.size + 1 from by omega] at R
 replace B := zAb B bz
 replace G := zAa bz G
 replace N := zAa bz N
 clear bz
 have zRa := Nat.le_of_eq zR
 have zRb := Nat.le_of_eq zR.symm
 clear zR
 obtain ⟨Gc0, Gc1, Gc2, Gc3, Gc4, Gc5, Gc6, Gc7, Gc8⟩ := zAc G
 have Glt := (Array.getElem?_eq_some_iff.1 G).1
 obtain ⟨Nc0, Nc1, Nc2, Nc3, Nc4, Nc5, Nc6⟩ := zAe N
 have Nlt := (Array.getElem?_eq_some_iff.1 N).1
 obtain ⟨Rc0, Rc1, Rc2, Rc3, Rc4, Rc5, Rc6⟩ := zAe R
 have Rlt := (Array.getElem?_eq_some_iff.1 R).1
 go_upto_region 2 with fail
 clear Gc0 Gc1 Gc2 Gc3 Gc4 Gc5 Gc6 Gc7 Gc8 Glt Nc0 Nc1 Nc2 Nc3 Nc4 Nc5 Nc6 Nlt Rc0 Rc1 Rc2 Rc3 Rc4 Rc5 Rc6 Rlt
 generalize hu3w : u2w.alloc _ = u3w
 have O := boxH hu3w
 have bz := boxB hu3w
 have zO := boxL hu3w
 clear hu3w
 replace B := zAb B bz
 replace G := zAa bz G
 replace N := zAa bz N
 replace R := zAa bz R
 clear bz
 have zOa := Nat.le_of_eq zO
 have zOb := Nat.le_of_eq zO.symm
 clear zO
 have HATc : Hid (∀ n' : Cls (fun wx => Below u3w.heap.size u3w wx), _) := fun n' => HAT.out n'.w (zAb B n'.h)
 obtain ⟨Gc0, Gc1, Gc2, Gc3, Gc4, Gc5, Gc6, Gc7, Gc8⟩ := zAc G
 have Glt := (Array.getElem?_eq_some_iff.1 G).1
 obtain ⟨Nc0, Nc1, Nc2, Nc3, Nc4, Nc5, Nc6⟩ := zAe N
 have Nlt := (Array.getElem?_eq_some_iff.1 N).1
 obtain ⟨Rc0, Rc1, Rc2, Rc3, Rc4, Rc5, Rc6⟩ := zAe R
 have Rlt := (Array.getElem?_eq_some_iff.1 R).1
 obtain ⟨Oc0, Oc1, Oc2, Oc3, Oc4, Oc5, Oc6⟩ := zAe O
 have Olt := (Array.getElem?_eq_some_iff.1 O).1
 go_upto_region 2 with fail
 clear Gc0 Gc1 Gc2 Gc3 Gc4 Gc5 Gc6 Gc7 Gc8 Glt Nc0 Nc1 Nc2 Nc3 Nc4 Nc5 Nc6 Nlt Rc0 Rc1 Rc2 Rc3 Rc4 Rc5 Rc6 Rlt Oc0 Oc1 Oc2 Oc3 Oc4 Oc5 Oc6 Olt
 obtain ⟨Gc0, Gc1, Gc2, Gc3, Gc4, Gc5, Gc6, Gc7, Gc8⟩ := zAc G
 have Gk0 : ∀ n' : Cls (fun wx => Below u3w.heap.size u3w wx), n'.w.cell? ⟨g, 0, none⟩ = some (.slice a0 c.1.length c0) := fun n' => zAd n'.h Gc0 (zAi Gc0)
 have Gk1 : ∀ n' : Cls (fun wx => Below u3w.heap.size u3w wx), n'.w.cell? ⟨g, 1, none⟩ = some (.slice b0 c.2.length d0) := fun n' => zAd n'.h Gc1 (zAi Gc1)
 have Gk2 : ∀ n' : Cls (fun wx => Below u3w.heap.size u3w wx), n'.w.cell? ⟨g, 2, none⟩ = some (.slice a1 p.length c1) := fun n' => zAd n'.h Gc2 (zAi Gc2)
 have Gk3 : ∀ n' : Cls (fun wx => Below u3w.heap.size u3w wx), n'.w.cell? ⟨g, 3, none⟩ = some (.int .i64 at_) := fun n' => zAd n'.h Gc3 (zAi Gc3)
 have Gk4 : ∀ n' : Cls (fun wx => Below u3w.heap.size u3w wx), n'.w.cell? ⟨g, 4, none⟩ = some (.int .i64 ph) := fun n' => zAd n'.h Gc4 (zAi Gc4)
 have Gk5 : ∀ n' : Cls (fun wx => Below u3w.heap.size u3w wx), n'.w.cell? ⟨g, 5, none⟩ = some (.int .i64 h.1) := fun n' => zAd n'.h Gc5 (zAi Gc5)
 have Gk6 : ∀ n' : Cls (fun wx => Below u3w.heap.size u3w wx), n'.w.cell? ⟨g, 6, none⟩ = some (.int .i64 h.2.1) := fun n' => zAd n'.h Gc6 (zAi Gc6)
 have Gk7 : ∀ n' : Cls (fun wx => Below u3w.heap.size u3w wx), n'.w.cell? ⟨g, 7, none⟩ = some (.slice a4 h.2.2.length c4) := fun n' => zAd n'.h Gc7 (zAi Gc7)
 have Gk8 : ∀ n' : Cls (fun wx => Below u3w.heap.size u3w wx), n'.w.cell? ⟨g, 8, none⟩ = some (.slice a5 t.length c5) := fun n' => zAd n'.h Gc8 (zAi Gc8)
 clear Gc0 Gc1 Gc2 Gc3 Gc4 Gc5 Gc6 Gc7 Gc8
 obtain ⟨Nc0, Nc1, Nc2, Nc3, Nc4, Nc5, Nc6⟩ := zAe N
 have Nk0 : ∀ n' : Cls (fun wx => Below u3w.heap.size u3w wx), n'.w.cell? ⟨w.heap.size, 0, none⟩ = some (.int .i64 m.1) := fun n' => zAd n'.h Nc0 (zAi Nc0)
 have Nk1 : ∀ n' : Cls (fun wx => Below u3w.heap.size u3w wx), n'.w.cell? ⟨w.heap.size, 1, none⟩ = some (.int .i64 m.2.1) := fun n' => zAd n'.h Nc1 (zAi Nc1)
 have Nk2 : ∀ n' : Cls (fun wx => Below u3w.heap.size u3w wx), n'.w.cell? ⟨w.heap.size, 2, none⟩ = some (.int .i64 m.2.2.1) := fun n' => zAd n'.h Nc2 (zAi Nc2)
 have Nk3 : ∀ n' : Cls (fun wx => Below u3w.heap.size u3w wx), n'.w.cell? ⟨w.heap.size, 3, none⟩ = some (.int .i64 m.2.2.2.1) := fun n' => zAd n'.h Nc3 (zAi Nc3)
 have Nk4 : ∀ n' : Cls (fun wx => Below u3w.heap.size u3w wx), n'.w.cell? ⟨w.heap.size, 4, none⟩ = some (.int .i64 m.2.2.2.2.1) := fun n' => zAd n'.h Nc4 (zAi Nc4)
 have Nk5 : ∀ n' : Cls (fun wx => Below u3w.heap.size u3w wx), n'.w.cell? ⟨w.heap.size, 5, none⟩ = some (.slice ma m.2.2.2.2.2.1.length mc) := fun n' => zAd n'.h Nc5 (zAi Nc5)
 have Nk6 : ∀ n' : Cls (fun wx => Below u3w.heap.size u3w wx), n'.w.cell? ⟨w.heap.size, 6, none⟩ = some (.int .i64 m.2.2.2.2.2.2) := fun n' => zAd n'.h Nc6 (zAi Nc6)
 clear Nc0 Nc1 Nc2 Nc3 Nc4 Nc5 Nc6
 have HFX : Hid _ := And.intro B (And.intro G (And.intro N (And.intro R (O))))
 clear B G N R O
 refine zA8 (fun wx => Below u3w.heap.size u3w wx) (by kernel_rfl) (by kernel_rfl) ((Below.refl _ u3w).drew) ?_
 intro hne
 repeat (quiet_step (first | (go_at_call 54; exact zAz (HATc.out _) (fun w' hc bb => zAb hc bb))))
 refine wpQuiet_nil ?_
 intro u4w bq
 clear Gk0 Gk1 Gk2 Gk3 Gk4 Gk5 Gk6 Gk7 Gk8 Nk0 Nk1 Nk2 Nk3 Nk4 Nk5 Nk6 hne
 obtain ⟨B, G, N, R, O⟩ := HFX.out
 clear HFX
 have tu4w : u3w.heap.size ≤ u4w.heap.size := bq.size
 replace B := zAb B bq
 replace G := zAa bq G
 replace N := zAa bq N
 replace R := zAa bq R
 replace O := zAa bq O
 clear bq
 clear HATc HAT
 obtain ⟨Gc0, Gc1, Gc2, Gc3, Gc4, Gc5, Gc6, Gc7, Gc8⟩ := zAc G
 have Glt := (Array.getElem?_eq_some_iff.1 G).1
 obtain ⟨Nc0, Nc1, Nc2, Nc3, Nc4, Nc5, Nc6⟩ := zAe N
 have Nlt := (Array.getElem?_eq_some_iff.1 N).1
 obtain ⟨Rc0, Rc1, Rc2, Rc3, Rc4, Rc5, Rc6⟩ := zAe R
 have Rlt := (Array.getElem?_eq_some_iff.1 R).1
 obtain ⟨Oc0, Oc1, Oc2, Oc3, Oc4, Oc5, Oc6⟩ := zAe O
 have Olt := (Array.getElem?_eq_some_iff.1 O).1
 go_upto_region 13 with fail
 clear Gc0 Gc1 Gc2 Gc3 Gc4 Gc5 Gc6 Gc7 Gc8 Glt Nc0 Nc1 Nc2 Nc3 Nc4 Nc5 Nc6 Nlt Rc0 Rc1 Rc2 Rc3 Rc4 Rc5 Rc6 Rlt Oc0 Oc1 Oc2 Oc3 Oc4 Oc5 Oc6 Olt
 go_cut [83] (fun q wx => q = .bool true ∧ Below u4w.heap.size u4w wx)
 case first =>
  obtain ⟨Gc0, Gc1, Gc2, Gc3, Gc4, Gc5, Gc6, Gc7, Gc8⟩ := zAc G
  have Glt := (Array.getElem?_eq_some_iff.1 G).1
  obtain ⟨Nc0, Nc1, Nc2, Nc3, Nc4, Nc5, Nc6⟩ := zAe N
  have Nlt := (Array.getElem?_eq_some_iff.1 N).1
  obtain ⟨Rc0, Rc1, Rc2, Rc3, Rc4, Rc5, Rc6⟩ := zAe R
  have Rlt := (Array.getElem?_eq_some_iff.1 R).1
  obtain ⟨Oc0, Oc1, Oc2, Oc3, Oc4, Oc5, Oc6⟩ := zAe O
  have Olt := (Array.getElem?_eq_some_iff.1 O).1
  clear B G N R O
  go_quiet (fail)
  go_wp2_with fail
  go_meet
  exact ⟨rfl, zBt (Below.refl _ _) _⟩
 case rest =>
  obtain ⟨rfl, bq⟩ := hcut
  generalize wc = u5w at bq ⊢
  have tu5w : u4w.heap.size ≤ u5w.heap.size := bq.size
  replace B := zAb B bq
  replace G := zAa bq G
  replace N := zAa bq N
  replace R := zAa bq R
  replace O := zAa bq O
  clear bq
  obtain ⟨Gc0, Gc1, Gc2, Gc3, Gc4, Gc5, Gc6, Gc7, Gc8⟩ := zAc G
  have Glt := (Array.getElem?_eq_some_iff.1 G).1
  obtain ⟨Nc0, Nc1, Nc2, Nc3, Nc4, Nc5, Nc6⟩ := zAe N
  have Nlt := (Array.getElem?_eq_some_iff.1 N).1
  obtain ⟨Rc0, Rc1, Rc2, Rc3, Rc4, Rc5, Rc6⟩ := zAe R
  have Rlt := (Array.getElem?_eq_some_iff.1 R).1
  obtain ⟨Oc0, Oc1, Oc2, Oc3, Oc4, Oc5, Oc6⟩ := zAe O
  have Olt := (Array.getElem?_eq_some_iff.1 O).1
  go_upto_region 18 with fail
  clear Gc0 Gc1 Gc2 Gc3 Gc4 Gc5 Gc6 Gc7 Gc8 Glt Nc0 Nc1 Nc2 Nc3 Nc4 Nc5 Nc6 Nlt Rc0 Rc1 Rc2 Rc3 Rc4 Rc5 Rc6 Rlt Oc0 Oc1 Oc2 Oc3 Oc4 Oc5 Oc6 Olt
  obtain ⟨Gc0, Gc1, Gc2, Gc3, Gc4, Gc5, Gc6, Gc7, Gc8⟩ := zAc G
  have Glt := (Array.getElem?_eq_some_iff.1 G).1
  obtain ⟨Nc0, Nc1, Nc2, Nc3, Nc4, Nc5, Nc6⟩ := zAe N
  have Nlt := (Array.getElem?_eq_some_iff.1 N).1
  obtain ⟨Rc0, Rc1, Rc2, Rc3, Rc4, Rc5, Rc6⟩ := zAe R
  have Rlt := (Array.getElem?_eq_some_iff.1 R).1
  obtain ⟨Rf0, Rf1, Rf2, Rf3, Rf4, Rf5, Rf6⟩ := zB8 R
  obtain ⟨Oc0, Oc1, Oc2, Oc3, Oc4, Oc5, Oc6⟩ := zAe O
  have Olt := (Array.getElem?_eq_some_iff.1 O).1
  have ne1 : ¬ (u2w.heap.size = w.heap.size + 1) := by omega
  have ne2 : ¬ (w.heap.size + 1 = u2w.heap.size) := by omega
  have HK : Hid _ := And.intro B (And.intro G (And.intro N (And.intro R (O))))
  clear B G N R O
  go_wp2
  clear ne1 ne2
  clear Gc0 Gc1 Gc2 Gc3 Gc4 Gc5 Gc6 Gc7 Gc8 Glt Nc0 Nc1 Nc2 Nc3 Nc4 Nc5 Nc6 Nlt Rc0 Rc1 Rc2 Rc3 Rc4 Rc5 Rc6 Rlt Rf0 Rf1 Rf2 Rf3 Rf4 Rf5 Rf6 Oc0 Oc1 Oc2 Oc3 Oc4 Oc5 Oc6 Olt
  obtain ⟨B, G, N, R, O⟩ := HK.out
  clear HK
  have bsz := B.size
  have V3 : (zAo u5w (w.heap.size + 1) 0 [.int .i64 2, .int .i64 0, .int .i64 4, .int .i64 9, .int .i64 m.2.2.2.2.1, .slice none 0 0, .int .i64 0]).heap[w.heap.size + 1]? = some (.cells #[.int .i64 2, .int .i64 0, .int .i64 4, .int .i64 9, .int .i64 m.2.2.2.2.1, .slice none 0 0, .int .i64 0] 46 (0, 0)) := zGL R
  obtain ⟨r0, r1, r2, r3, r4, r5, r6⟩ := zAe V3
  have FS : (zAo u5w (w.heap.size + 1) 0 [.int .i64 2, .int .i64 0, .int .i64 4, .int .i64 9, .int .i64 m.2.2.2.2.1, .slice none 0 0, .int .i64 0]).heap.size = u5w.heap.size := zAj _ _ _
  have FQ : zHy S g w (c, p, at_, ph, h, t) (msg 2 0 4 9 m.2.2.2.2.1 [] 0) (.returned (zAM [.int .i64 2, .int .i64 0, .int .i64 4, .int .i64 9, .int .i64 m.2.2.2.2.1, .slice none 0 0, .int .i64 0])) (zAo u5w (w.heap.size + 1) 0 [.int .i64 2, .int .i64 0, .int .i64 4, .int .i64 9, .int .i64 m.2.2.2.2.1, .slice none 0 0, .int .i64 0]) := ⟨[.slice a0 c.1.length c0, .slice b0 c.2.length d0, .slice a1 p.length c1, .int .i64 at_, .int .i64 ph, .int .i64 h.1, .int .i64 h.2.1, .slice a4 h.2.2.length c4, .slice a5 t.length c5], [.int .i64 2, .int .i64 0, .int .i64 4, .int .i64 9, .int .i64 m.2.2.2.2.1, .slice none 0 0, .int .i64 0], rfl, zAn.own_mono (zAs (g := w.heap.size + 1) (o := 0) (vs := [.int .i64 2, .int .i64 0, .int .i64 4, .int .i64 9, .int .i64 m.2.2.2.2.1, .slice none 0 0, .int .i64 0]) (HO.out _ B) (fun q => by have := HSS.out.1 _ q; omega)) (fun k q => by rw [FS]; exact (.inl q)), zBy.own_mono (zAs (g := w.heap.size + 1) (o := 0) (vs := [.int .i64 2, .int .i64 0, .int .i64 4, .int .i64 9, .int .i64 m.2.2.2.2.1, .slice none 0 0, .int .i64 0]) (zBR (S := fun _ => False) (by constructor <;> decide) (by constructor <;> decide) (by constructor <;> decide) (by constructor <;> decide) him (by constructor <;> decide) (zBA _ _)) (fun q => q)) (fun k q => by rw [FS]; exact (q.elim)), zAk (g := w.heap.size + 1) (o := 0) (vs := [.int .i64 2, .int .i64 0, .int .i64 4, .int .i64 9, .int .i64 m.2.2.2.2.1, .slice none 0 0, .int .i64 0]) G (by omega), zBg (zII B) (by omega)⟩
  simp only [zA0, zA3, Nat.reduceAdd] at FQ r0 r1 r2 r3 r4 r5 r6
  rw [show zAM [.int .i64 2, .int .i64 0, .int .i64 4, .int .i64 9, .int .i64 m.2.2.2.2.1, .slice none 0 0, .int .i64 0] = .agg #[.int .i64 2, .int .i64 0, .int .i64 4, .int .i64 9, .int .i64 m.2.2.2.2.1, .slice none 0 0, .int .i64 0] from rfl] at FQ
  clear B G N R O V3 FS
  refine bodyPost_ret (v := .agg #[.int .i64 2, .int .i64 0, .int .i64 4, .int .i64 9, .int .i64 m.2.2.2.2.1, .slice none 0 0, .int .i64 0]) (by simp [results, Tryz.results58, go_sem, r0, r1, r2, r3, r4, r5, r6]) rfl ?_
  exact FQ
theorem zH0 (S : zAX) (g : Nat) (cs ns : List Value) (x : zAE) (m : zB5) (w : World) (ho : zAn.own w S cs x) (hS : ∀ k, S k → k < w.heap.size) (hg : ¬ S g) (hbox : w.heap[g]? = some (.cells cs.toArray 41 (0, 0))) (hm : zBy.rd w ns m) (hk : zAZ x = true) (hat : atC x.1 (zAt m) = none) (hp : x.2.2.2.1 = 1) (hl : x.2.2.2.2.1.1 = m.2.2.2.2.1) (hs : x.2.2.2.2.1.2.1 = 1) (hkd : ¬ m.2.2.2.1 = 6) :
    Calls Tryz.prog 58 #[.pointer (some ⟨g, 0, none⟩), zAM ns] w fun e w' => zHy S g w (x.1, x.2.1, x.2.2.1, x.2.2.2.1, (m.2.2.2.2.1, 0, []), x.2.2.2.2.2) (msg 2 0 4 9 m.2.2.2.2.1 [] 1) e w' := by
 have hok : OkC isL zAJ x.1 := (zB4 hk).ok
 obtain ⟨ma, mc, rfl, im0, im1, im2, im3, im4, im6, -, -, -⟩ := zBB hm
 obtain ⟨v0, v1, v2, v5, v6, v7, v8, S0, S1, S4, S5, rfl, i2, i3, o0, o1, o4, o5, sb0, sb1, sb4, sb5, d01, d04, d05, d14, d15, d45⟩ := zBd ho
 have r0 := zAB.own_rd o0
 obtain ⟨a0, c0, b0, d0, e0, -⟩ := zAH r0
 simp only [List.cons.injEq, and_true] at e0
 obtain ⟨rfl, rfl⟩ := e0
 obtain ⟨a1, c1, e1, -⟩ := zBX.own_rd o1
 simp only [List.cons.injEq, and_true] at e1
 obtain rfl := e1
 have r4 := zAS.own_rd o4
 obtain ⟨a4, c4, e4, ih1, ih2, -, -, q4⟩ := zAL r4
 simp only [List.cons.injEq, and_true] at e4
 obtain ⟨rfl, rfl, rfl⟩ := e4
 obtain ⟨a5, c5, e5, -⟩ := zA5.own_rd o5
 simp only [List.cons.injEq, and_true] at e5
 obtain rfl := e5
 have HAT : Hid (∀ W, Below w.heap.size w W → Calls Tryz.prog 54 #[.agg #[.slice a0 x.1.1.length c0, .slice b0 x.1.2.length d0], .int .i64 m.2.2.2.2.1] W fun e w' => e = .returned (.int .i64 (-1)) ∧ Below W.heap.size W w') := fun W hb => by have := zD0 [.slice a0 x.1.1.length c0, .slice b0 x.1.2.length d0] x.1 m.2.2.2.2.1 W hok (zAN r0 hb); rw [show zAt m = m.2.2.2.2.1 from rfl] at hat; rw [hat] at this; exact this
 have HSS : Hid _ := And.intro hS hg
 have G : w.heap[g]? = some (.cells #[.slice a0 x.1.1.length c0, .slice b0 x.1.2.length d0, .slice a1 x.2.1.length c1, .int .i64 x.2.2.1, .int .i64 x.2.2.2.1, .int .i64 x.2.2.2.2.1.1, .int .i64 x.2.2.2.2.1.2.1, .slice a4 x.2.2.2.2.1.2.2.length c4, .slice a5 x.2.2.2.2.2.length c5] 41 (0, 0)) := hbox
 have gl := (Array.getElem?_eq_some_iff.1 G).1
 have HO : Hid (∀ W, Below w.heap.size w W → zAn.own W S [.slice a0 x.1.1.length c0, .slice b0 x.1.2.length d0, .slice a1 x.2.1.length c1, .int .i64 x.2.2.1, .int .i64 x.2.2.2.1, .int .i64 x.2.2.2.2.1.1, .int .i64 x.2.2.2.2.1.2.1, .slice a4 x.2.2.2.2.1.2.2.length c4, .slice a5 x.2.2.2.2.2.length c5] x) := fun W hb => zAn.own_keep ho (zAh hb)
 have HQ4 : Hid (∀ W, Below w.heap.size w W → zBh zBC W a4 x.2.2.2.2.1.2.2) := fun W hb => zAG q4 hb
 have hln := zDX hk
 have HLN : Hid (x.2.2.2.2.1.2.2.length ≤ 2) := hln
 obtain ⟨c, p, at_, ph, h, t⟩ := x
 simp only at *
 have him : zBk m.2.2.2.2.1 := im4
 have HOW : Hid _ := And.intro o0 (And.intro o1 (And.intro o5 (And.intro sb0 (And.intro sb1 (And.intro sb5 (And.intro d01 (And.intro d05 (And.intro d15 (And.intro i2 i3)))))))))
 have z1 : (ph == 1) = true := by simp [hp]
 have z2 : (h.1 == m.2.2.2.2.1) = true := by simp [hl]
 have z3 : (h.2.1 != 0) = true := by simp; omega
 clear ho hS hg r0 r4 q4 o0 o1 o4 o5 sb0 sb1 sb4 sb5 d01 d04 d05 d14 d15 d45 i2 i3 ih1 ih2 hk hok hm hbox im0 im1 im2 im3 im4 im6 hat hp hl hln
 have z4 : ¬ (2 ≤ h.2.1) := by omega
 have z5 : (m.2.2.2.1 == 6) = false := by simp [hkd]
 clear hs hkd
 rw [show zAM [.int .i64 m.1, .int .i64 m.2.1, .int .i64 m.2.2.1, .int .i64 m.2.2.2.1, .int .i64 m.2.2.2.2.1, .slice ma m.2.2.2.2.2.1.length mc, .int .i64 m.2.2.2.2.2.2] = .agg #[.int .i64 m.1, .int .i64 m.2.1, .int .i64 m.2.2.1, .int .i64 m.2.2.2.1, .int .i64 m.2.2.2.2.1, .slice ma m.2.2.2.2.2.1.length mc, .int .i64 m.2.2.2.2.2.2] from rfl]
 have B := Below.refl w.heap.size w
 go_enter Tryz.func58, Tryz.ntmps58
 go_upto_region 1 with fail
 generalize hu1w : w.alloc _ = u1w
 have N := boxH hu1w
 have bz := boxB hu1w
 have zN := boxL hu1w
 clear hu1w
 replace B := zAb B bz
 replace G := zAa bz G
 clear bz
 have zNa := Nat.le_of_eq zN
 have zNb := Nat.le_of_eq zN.symm
 clear zN
 generalize hu2w : u1w.alloc _ = u2w
 have R := boxH hu2w
 have bz := boxB hu2w
 have zR := boxL hu2w
 clear hu2w
 rw [show u1w.heap.size = w.heap.size + 1 from by omega] at R
 replace B := zAb B bz
 replace G := zAa bz G
 replace N := zAa bz N
 clear bz
 have zRa := Nat.le_of_eq zR
 have zRb := Nat.le_of_eq zR.symm
 clear zR
 obtain ⟨Gc0, Gc1, Gc2, Gc3, Gc4, Gc5, Gc6, Gc7, Gc8⟩ := zAc G
 have Glt := (Array.getElem?_eq_some_iff.1 G).1
 obtain ⟨Nc0, Nc1, Nc2, Nc3, Nc4, Nc5, Nc6⟩ := zAe N
 have Nlt := (Array.getElem?_eq_some_iff.1 N).1
 obtain ⟨Rc0, Rc1, Rc2, Rc3, Rc4, Rc5, Rc6⟩ := zAe R
 have Rlt := (Array.getElem?_eq_some_iff.1 R).1
 go_upto_region 2 with fail
 clear Gc0 Gc1 Gc2 Gc3 Gc4 Gc5 Gc6 Gc7 Gc8 Glt Nc0 Nc1 Nc2 Nc3 Nc4 Nc5 Nc6 Nlt Rc0 Rc1 Rc2 Rc3 Rc4 Rc5 Rc6 Rlt
 generalize hu3w : u2w.alloc _ = u3w
 have O := boxH hu3w
 have bz := boxB hu3w
 have zO := boxL hu3w
 clear hu3w
 replace B := zAb B bz
 replace G := zAa bz G
 replace N := zAa bz N
 replace R := zAa bz R
 clear bz
 have zOa := Nat.le_of_eq zO
 have zOb := Nat.le_of_eq zO.symm
 clear zO
 have HATc : Hid (∀ n' : Cls (fun wx => Below u3w.heap.size u3w wx), _) := fun n' => HAT.out n'.w (zAb B n'.h)
 obtain ⟨Gc0, Gc1, Gc2, Gc3, Gc4, Gc5, Gc6, Gc7, Gc8⟩ := zAc G
 have Glt := (Array.getElem?_eq_some_iff.1 G).1
 obtain ⟨Nc0, Nc1, Nc2, Nc3, Nc4, Nc5, Nc6⟩ := zAe N
 have Nlt := (Array.getElem?_eq_some_iff.1 N).1
 obtain ⟨Rc0, Rc1, Rc2, Rc3, Rc4, Rc5, Rc6⟩ := zAe R
 have Rlt := (Array.getElem?_eq_some_iff.1 R).1
 obtain ⟨Oc0, Oc1, Oc2, Oc3, Oc4, Oc5, Oc6⟩ := zAe O
 have Olt := (Array.getElem?_eq_some_iff.1 O).1
 go_upto_region 2 with fail
 clear Gc0 Gc1 Gc2 Gc3 Gc4 Gc5 Gc6 Gc7 Gc8 Glt Nc0 Nc1 Nc2 Nc3 Nc4 Nc5 Nc6 Nlt Rc0 Rc1 Rc2 Rc3 Rc4 Rc5 Rc6 Rlt Oc0 Oc1 Oc2 Oc3 Oc4 Oc5 Oc6 Olt
 obtain ⟨Gc0, Gc1, Gc2, Gc3, Gc4, Gc5, Gc6, Gc7, Gc8⟩ := zAc G
 have Gk0 : ∀ n' : Cls (fun wx => Below u3w.heap.size u3w wx), n'.w.cell? ⟨g, 0, none⟩ = some (.slice a0 c.1.length c0) := fun n' => zAd n'.h Gc0 (zAi Gc0)
 have Gk1 : ∀ n' : Cls (fun wx => Below u3w.heap.size u3w wx), n'.w.cell? ⟨g, 1, none⟩ = some (.slice b0 c.2.length d0) := fun n' => zAd n'.h Gc1 (zAi Gc1)
 have Gk2 : ∀ n' : Cls (fun wx => Below u3w.heap.size u3w wx), n'.w.cell? ⟨g, 2, none⟩ = some (.slice a1 p.length c1) := fun n' => zAd n'.h Gc2 (zAi Gc2)
 have Gk3 : ∀ n' : Cls (fun wx => Below u3w.heap.size u3w wx), n'.w.cell? ⟨g, 3, none⟩ = some (.int .i64 at_) := fun n' => zAd n'.h Gc3 (zAi Gc3)
 have Gk4 : ∀ n' : Cls (fun wx => Below u3w.heap.size u3w wx), n'.w.cell? ⟨g, 4, none⟩ = some (.int .i64 ph) := fun n' => zAd n'.h Gc4 (zAi Gc4)
 have Gk5 : ∀ n' : Cls (fun wx => Below u3w.heap.size u3w wx), n'.w.cell? ⟨g, 5, none⟩ = some (.int .i64 h.1) := fun n' => zAd n'.h Gc5 (zAi Gc5)
 have Gk6 : ∀ n' : Cls (fun wx => Below u3w.heap.size u3w wx), n'.w.cell? ⟨g, 6, none⟩ = some (.int .i64 h.2.1) := fun n' => zAd n'.h Gc6 (zAi Gc6)
 have Gk7 : ∀ n' : Cls (fun wx => Below u3w.heap.size u3w wx), n'.w.cell? ⟨g, 7, none⟩ = some (.slice a4 h.2.2.length c4) := fun n' => zAd n'.h Gc7 (zAi Gc7)
 have Gk8 : ∀ n' : Cls (fun wx => Below u3w.heap.size u3w wx), n'.w.cell? ⟨g, 8, none⟩ = some (.slice a5 t.length c5) := fun n' => zAd n'.h Gc8 (zAi Gc8)
 clear Gc0 Gc1 Gc2 Gc3 Gc4 Gc5 Gc6 Gc7 Gc8
 obtain ⟨Nc0, Nc1, Nc2, Nc3, Nc4, Nc5, Nc6⟩ := zAe N
 have Nk0 : ∀ n' : Cls (fun wx => Below u3w.heap.size u3w wx), n'.w.cell? ⟨w.heap.size, 0, none⟩ = some (.int .i64 m.1) := fun n' => zAd n'.h Nc0 (zAi Nc0)
 have Nk1 : ∀ n' : Cls (fun wx => Below u3w.heap.size u3w wx), n'.w.cell? ⟨w.heap.size, 1, none⟩ = some (.int .i64 m.2.1) := fun n' => zAd n'.h Nc1 (zAi Nc1)
 have Nk2 : ∀ n' : Cls (fun wx => Below u3w.heap.size u3w wx), n'.w.cell? ⟨w.heap.size, 2, none⟩ = some (.int .i64 m.2.2.1) := fun n' => zAd n'.h Nc2 (zAi Nc2)
 have Nk3 : ∀ n' : Cls (fun wx => Below u3w.heap.size u3w wx), n'.w.cell? ⟨w.heap.size, 3, none⟩ = some (.int .i64 m.2.2.2.1) := fun n' => zAd n'.h Nc3 (zAi Nc3)
 have Nk4 : ∀ n' : Cls (fun wx => Below u3w.heap.size u3w wx), n'.w.cell? ⟨w.heap.size, 4, none⟩ = some (.int .i64 m.2.2.2.2.1) := fun n' => zAd n'.h Nc4 (zAi Nc4)
 have Nk5 : ∀ n' : Cls (fun wx => Below u3w.heap.size u3w wx), n'.w.cell? ⟨w.heap.size, 5, none⟩ = some (.slice ma m.2.2.2.2.2.1.length mc) := fun n' => zAd n'.h Nc5 (zAi Nc5)
 have Nk6 : ∀ n' : Cls (fun wx => Below u3w.heap.size u3w wx), n'.w.cell? ⟨w.heap.size, 6, none⟩ = some (.int .i64 m.2.2.2.2.2.2) := fun n' => zAd n'.h Nc6 (zAi Nc6)
 clear Nc0 Nc1 Nc2 Nc3 Nc4 Nc5 Nc6
 have HFX : Hid _ := And.intro B (And.intro G (And.intro N (And.intro R (O))))
 clear B G N R O
 refine zA8 (fun wx => Below u3w.heap.size u3w wx) (by kernel_rfl) (by kernel_rfl) ((Below.refl _ u3w).drew) ?_
 intro hne
 repeat (quiet_step (first | (go_at_call 54; exact zAz (HATc.out _) (fun w' hc bb => zAb hc bb))))
 refine wpQuiet_nil ?_
 intro u4w bq
 clear Gk0 Gk1 Gk2 Gk3 Gk4 Gk5 Gk6 Gk7 Gk8 Nk0 Nk1 Nk2 Nk3 Nk4 Nk5 Nk6 hne
 obtain ⟨B, G, N, R, O⟩ := HFX.out
 clear HFX
 have tu4w : u3w.heap.size ≤ u4w.heap.size := bq.size
 replace B := zAb B bq
 replace G := zAa bq G
 replace N := zAa bq N
 replace R := zAa bq R
 replace O := zAa bq O
 clear bq
 clear HATc HAT
 obtain ⟨Gc0, Gc1, Gc2, Gc3, Gc4, Gc5, Gc6, Gc7, Gc8⟩ := zAc G
 have Glt := (Array.getElem?_eq_some_iff.1 G).1
 obtain ⟨Nc0, Nc1, Nc2, Nc3, Nc4, Nc5, Nc6⟩ := zAe N
 have Nlt := (Array.getElem?_eq_some_iff.1 N).1
 obtain ⟨Rc0, Rc1, Rc2, Rc3, Rc4, Rc5, Rc6⟩ := zAe R
 have Rlt := (Array.getElem?_eq_some_iff.1 R).1
 obtain ⟨Oc0, Oc1, Oc2, Oc3, Oc4, Oc5, Oc6⟩ := zAe O
 have Olt := (Array.getElem?_eq_some_iff.1 O).1
 go_upto_region 13 with fail
 clear Gc0 Gc1 Gc2 Gc3 Gc4 Gc5 Gc6 Gc7 Gc8 Glt Nc0 Nc1 Nc2 Nc3 Nc4 Nc5 Nc6 Nlt Rc0 Rc1 Rc2 Rc3 Rc4 Rc5 Rc6 Rlt Oc0 Oc1 Oc2 Oc3 Oc4 Oc5 Oc6 Olt
 go_cut [83] (fun q wx => q = .bool true ∧ Below u4w.heap.size u4w wx)
 case first =>
  obtain ⟨Gc0, Gc1, Gc2, Gc3, Gc4, Gc5, Gc6, Gc7, Gc8⟩ := zAc G
  have Glt := (Array.getElem?_eq_some_iff.1 G).1
  obtain ⟨Nc0, Nc1, Nc2, Nc3, Nc4, Nc5, Nc6⟩ := zAe N
  have Nlt := (Array.getElem?_eq_some_iff.1 N).1
  obtain ⟨Rc0, Rc1, Rc2, Rc3, Rc4, Rc5, Rc6⟩ := zAe R
  have Rlt := (Array.getElem?_eq_some_iff.1 R).1
  obtain ⟨Oc0, Oc1, Oc2, Oc3, Oc4, Oc5, Oc6⟩ := zAe O
  have Olt := (Array.getElem?_eq_some_iff.1 O).1
  clear B G N R O
  go_quiet (fail)
  go_wp2_with fail
  go_meet
  exact ⟨rfl, zBt (Below.refl _ _) _⟩
 case rest =>
  obtain ⟨rfl, bq⟩ := hcut
  generalize wc = u5w at bq ⊢
  have tu5w : u4w.heap.size ≤ u5w.heap.size := bq.size
  replace B := zAb B bq
  replace G := zAa bq G
  replace N := zAa bq N
  replace R := zAa bq R
  replace O := zAa bq O
  clear bq
  obtain ⟨Gc0, Gc1, Gc2, Gc3, Gc4, Gc5, Gc6, Gc7, Gc8⟩ := zAc G
  have Glt := (Array.getElem?_eq_some_iff.1 G).1
  obtain ⟨Nc0, Nc1, Nc2, Nc3, Nc4, Nc5, Nc6⟩ := zAe N
  have Nlt := (Array.getElem?_eq_some_iff.1 N).1
  obtain ⟨Rc0, Rc1, Rc2, Rc3, Rc4, Rc5, Rc6⟩ := zAe R
  have Rlt := (Array.getElem?_eq_some_iff.1 R).1
  obtain ⟨Oc0, Oc1, Oc2, Oc3, Oc4, Oc5, Oc6⟩ := zAe O
  have Olt := (Array.getElem?_eq_some_iff.1 O).1
  go_upto_region 19 with fail
  clear Gc0 Gc1 Gc2 Gc3 Gc4 Gc5 Gc6 Gc7 Gc8 Glt Nc0 Nc1 Nc2 Nc3 Nc4 Nc5 Nc6 Nlt Rc0 Rc1 Rc2 Rc3 Rc4 Rc5 Rc6 Rlt Oc0 Oc1 Oc2 Oc3 Oc4 Oc5 Oc6 Olt
  obtain ⟨Gc0, Gc1, Gc2, Gc3, Gc4, Gc5, Gc6, Gc7, Gc8⟩ := zAc G
  have Glt := (Array.getElem?_eq_some_iff.1 G).1
  obtain ⟨Gf0, Gf1, Gf2, Gf3, Gf4, Gf5, Gf6, Gf7, Gf8⟩ := zAr G
  obtain ⟨Nc0, Nc1, Nc2, Nc3, Nc4, Nc5, Nc6⟩ := zAe N
  have Nlt := (Array.getElem?_eq_some_iff.1 N).1
  obtain ⟨Rc0, Rc1, Rc2, Rc3, Rc4, Rc5, Rc6⟩ := zAe R
  have Rlt := (Array.getElem?_eq_some_iff.1 R).1
  obtain ⟨Rf0, Rf1, Rf2, Rf3, Rf4, Rf5, Rf6⟩ := zB8 R
  obtain ⟨Oc0, Oc1, Oc2, Oc3, Oc4, Oc5, Oc6⟩ := zAe O
  have Olt := (Array.getElem?_eq_some_iff.1 O).1
  obtain ⟨Of0, Of1, Of2, Of3, Of4, Of5, Of6⟩ := zB8 O
  have ne1 : ¬ (u2w.heap.size = w.heap.size + 1) := by omega
  have ne2 : ¬ (w.heap.size + 1 = u2w.heap.size) := by omega
  have ne3 : ¬ (g = w.heap.size + 1) := by omega
  have ne4 : ¬ (w.heap.size + 1 = g) := by omega
  have ne5 : ¬ (g = u2w.heap.size) := by omega
  have ne6 : ¬ (u2w.heap.size = g) := by omega
  have ne7 : ¬ (g = w.heap.size) := by omega
  have ne8 : ¬ (w.heap.size = g) := by omega
  have HK : Hid _ := And.intro B (And.intro G (And.intro N (And.intro R (O))))
  clear B G N R O
  go_wp2
  clear ne1 ne2 ne3 ne4 ne5 ne6 ne7 ne8
  clear Gc0 Gc1 Gc2 Gc3 Gc4 Gc5 Gc6 Gc7 Gc8 Glt Gf0 Gf1 Gf2 Gf3 Gf4 Gf5 Gf6 Gf7 Gf8 Nc0 Nc1 Nc2 Nc3 Nc4 Nc5 Nc6 Nlt Rc0 Rc1 Rc2 Rc3 Rc4 Rc5 Rc6 Rlt Rf0 Rf1 Rf2 Rf3 Rf4 Rf5 Rf6 Oc0 Oc1 Oc2 Oc3 Oc4 Oc5 Oc6 Olt Of0 Of1 Of2 Of3 Of4 Of5 Of6
  obtain ⟨B, G, N, R, O⟩ := HK.out
  clear HK
  have bsz := B.size
  obtain ⟨o0, o1, o5, sb0, sb1, sb5, d01, d05, d15, i2, i3⟩ := HOW.out
  obtain ⟨hS, hg⟩ := HSS.out
  have G1 : (zAo u5w g 5 [.int .i64 m.2.2.2.2.1, .int .i64 0, .slice none 0 0]).heap[g]? = some (.cells #[.slice a0 c.1.length c0, .slice b0 c.2.length d0, .slice a1 p.length c1, .int .i64 at_, .int .i64 ph, .int .i64 m.2.2.2.2.1, .int .i64 0, .slice none 0 0, .slice a5 t.length c5] 41 (0, 0)) := zAC (g := g) [.int .i64 m.2.2.2.2.1, .int .i64 0, .slice none 0 0] 5 G
  have G3 := zAk (g := w.heap.size + 1) (o := 0) (vs := [.int .i64 2, .int .i64 0, .int .i64 4, .int .i64 9, .int .i64 m.2.2.2.2.1, .slice none 0 0, .int .i64 1]) (zAk (g := u2w.heap.size) (o := 6) (vs := [.int .i64 1]) G1 (by omega)) (by omega)
  have R2 := zAk (g := u2w.heap.size) (o := 6) (vs := [.int .i64 1]) (zAk (g := g) (o := 5) (vs := [.int .i64 m.2.2.2.2.1, .int .i64 0, .slice none 0 0]) R (by omega)) (by omega)
  have V3 : (zAo (zAo (zAo u5w g 5 [.int .i64 m.2.2.2.2.1, .int .i64 0, .slice none 0 0]) (u2w.heap.size) 6 [.int .i64 1]) (w.heap.size + 1) 0 [.int .i64 2, .int .i64 0, .int .i64 4, .int .i64 9, .int .i64 m.2.2.2.2.1, .slice none 0 0, .int .i64 1]).heap[w.heap.size + 1]? = some (.cells #[.int .i64 2, .int .i64 0, .int .i64 4, .int .i64 9, .int .i64 m.2.2.2.2.1, .slice none 0 0, .int .i64 1] 46 (0, 0)) := zGL R2
  obtain ⟨r0, r1, r2, r3, r4, r5, r6⟩ := zAe V3
  have FS : (zAo (zAo (zAo u5w g 5 [.int .i64 m.2.2.2.2.1, .int .i64 0, .slice none 0 0]) (u2w.heap.size) 6 [.int .i64 1]) (w.heap.size + 1) 0 [.int .i64 2, .int .i64 0, .int .i64 4, .int .i64 9, .int .i64 m.2.2.2.2.1, .slice none 0 0, .int .i64 1]).heap.size = u5w.heap.size := (zAj _ _ _).trans ((zAj _ _ _).trans (zAj _ _ _))
  have OC := zC9 (S := S) (S4 := fun _ => False) i2 i3 (zAB.own_keep o0 (zAh B)) (zBX.own_keep o1 (zAh B)) (zCF (l := m.2.2.2.2.1) (s := 0) (d := []) him (by constructor <;> decide) (zBA u5w (fun _ => False))) (zA5.own_keep o5 (zAh B)) sb0 sb1 (fun _ q => q.elim) sb5 d01 (fun _ _ q => q) d05 (fun _ _ q => q) d15 (fun _ q _ => q)
  have OC3 := zAs (g := w.heap.size + 1) (o := 0) (vs := [.int .i64 2, .int .i64 0, .int .i64 4, .int .i64 9, .int .i64 m.2.2.2.2.1, .slice none 0 0, .int .i64 1]) (zAs (g := u2w.heap.size) (o := 6) (vs := [.int .i64 1]) (zAs (g := g) (o := 5) (vs := [.int .i64 m.2.2.2.2.1, .int .i64 0, .slice none 0 0]) OC hg) (fun q => by have := hS _ q; omega)) (fun q => by have := hS _ q; omega)
  have OM3 := zAs (g := w.heap.size + 1) (o := 0) (vs := [.int .i64 2, .int .i64 0, .int .i64 4, .int .i64 9, .int .i64 m.2.2.2.2.1, .slice none 0 0, .int .i64 1]) (zAs (g := u2w.heap.size) (o := 6) (vs := [.int .i64 1]) (zAs (g := g) (o := 5) (vs := [.int .i64 m.2.2.2.2.1, .int .i64 0, .slice none 0 0]) (zBR (f0 := 2) (f1 := 0) (f2 := 4) (f3 := 9) (f4 := m.2.2.2.2.1) (f6 := 1) (S := fun _ => False) (by constructor <;> decide) (by constructor <;> decide) (by constructor <;> decide) (by constructor <;> decide) him (by constructor <;> decide) (zBA u5w (fun _ => False))) (fun q => q)) (fun q => q)) (fun q => q)
  have CH : Chg (fun k => S k ∨ k = g) w (zAo (zAo (zAo u5w g 5 [.int .i64 m.2.2.2.2.1, .int .i64 0, .slice none 0 0]) (u2w.heap.size) 6 [.int .i64 1]) (w.heap.size + 1) 0 [.int .i64 2, .int .i64 0, .int .i64 4, .int .i64 9, .int .i64 m.2.2.2.2.1, .slice none 0 0, .int .i64 1]) := zBg (zBg ((zII B).trans ((zBU [.int .i64 m.2.2.2.2.1, .int .i64 0, .slice none 0 0] 5 u5w (g := g)).mono fun k q => .inr q)) (by omega)) (by omega)
  have FQ : zHy S g w (c, p, at_, ph, (m.2.2.2.2.1, 0, []), t) (msg 2 0 4 9 m.2.2.2.2.1 [] 1) (.returned (zAM [.int .i64 2, .int .i64 0, .int .i64 4, .int .i64 9, .int .i64 m.2.2.2.2.1, .slice none 0 0, .int .i64 1])) (zAo (zAo (zAo u5w g 5 [.int .i64 m.2.2.2.2.1, .int .i64 0, .slice none 0 0]) (u2w.heap.size) 6 [.int .i64 1]) (w.heap.size + 1) 0 [.int .i64 2, .int .i64 0, .int .i64 4, .int .i64 9, .int .i64 m.2.2.2.2.1, .slice none 0 0, .int .i64 1]) := ⟨[.slice a0 c.1.length c0, .slice b0 c.2.length d0, .slice a1 p.length c1, .int .i64 at_, .int .i64 ph, .int .i64 m.2.2.2.2.1, .int .i64 0, .slice none 0 0, .slice a5 t.length c5], [.int .i64 2, .int .i64 0, .int .i64 4, .int .i64 9, .int .i64 m.2.2.2.2.1, .slice none 0 0, .int .i64 1], rfl, zAn.own_mono OC3 (fun k q => .inl q), zBy.own_mono OM3 (fun k q => by rw [FS]; exact (q.elim)), G3, CH⟩
  simp only [zA0, zA3, Nat.reduceAdd] at FQ r0 r1 r2 r3 r4 r5 r6
  rw [show zAM [.int .i64 2, .int .i64 0, .int .i64 4, .int .i64 9, .int .i64 m.2.2.2.2.1, .slice none 0 0, .int .i64 1] = .agg #[.int .i64 2, .int .i64 0, .int .i64 4, .int .i64 9, .int .i64 m.2.2.2.2.1, .slice none 0 0, .int .i64 1] from rfl] at FQ
  clear B G N R O V3 FS G1 G3 R2 OC OC3 OM3 CH
  refine bodyPost_ret (v := .agg #[.int .i64 2, .int .i64 0, .int .i64 4, .int .i64 9, .int .i64 m.2.2.2.2.1, .slice none 0 0, .int .i64 1]) (by simp [results, Tryz.results58, go_sem, r0, r1, r2, r3, r4, r5, r6]) rfl ?_
  exact FQ
theorem zH1 (S : zAX) (g : Nat) (cs ns : List Value) (x : zAE) (m : zB5) (w : World) (ho : zAn.own w S cs x) (hS : ∀ k, S k → k < w.heap.size) (hg : ¬ S g) (hbox : w.heap[g]? = some (.cells cs.toArray 41 (0, 0))) (hm : zBy.rd w ns m) (hk : zAZ x = true) (hat : atC x.1 (zAt m) = none) (hp : x.2.2.2.1 = 1) (hl : x.2.2.2.2.1.1 = m.2.2.2.2.1) (hs : 2 ≤ x.2.2.2.2.1.2.1) :
    Calls Tryz.prog 58 #[.pointer (some ⟨g, 0, none⟩), zAM ns] w fun e w' => zHy S g w (x.1, x.2.1, x.2.2.1, x.2.2.2.1, (m.2.2.2.2.1, 0, []), x.2.2.2.2.2) (msg 2 0 4 8 m.2.2.2.2.1 x.2.2.2.2.1.2.2 1) e w' := by
 have hok : OkC isL zAJ x.1 := (zB4 hk).ok
 obtain ⟨ma, mc, rfl, im0, im1, im2, im3, im4, im6, -, -, -⟩ := zBB hm
 obtain ⟨v0, v1, v2, v5, v6, v7, v8, S0, S1, S4, S5, rfl, i2, i3, o0, o1, o4, o5, sb0, sb1, sb4, sb5, d01, d04, d05, d14, d15, d45⟩ := zBd ho
 have r0 := zAB.own_rd o0
 obtain ⟨a0, c0, b0, d0, e0, -⟩ := zAH r0
 simp only [List.cons.injEq, and_true] at e0
 obtain ⟨rfl, rfl⟩ := e0
 obtain ⟨a1, c1, e1, -⟩ := zBX.own_rd o1
 simp only [List.cons.injEq, and_true] at e1
 obtain rfl := e1
 have r4 := zAS.own_rd o4
 obtain ⟨a4, c4, e4, ih1, ih2, -, -, q4⟩ := zAL r4
 simp only [List.cons.injEq, and_true] at e4
 obtain ⟨rfl, rfl, rfl⟩ := e4
 obtain ⟨a5, c5, e5, -⟩ := zA5.own_rd o5
 simp only [List.cons.injEq, and_true] at e5
 obtain rfl := e5
 have HAT : Hid (∀ W, Below w.heap.size w W → Calls Tryz.prog 54 #[.agg #[.slice a0 x.1.1.length c0, .slice b0 x.1.2.length d0], .int .i64 m.2.2.2.2.1] W fun e w' => e = .returned (.int .i64 (-1)) ∧ Below W.heap.size W w') := fun W hb => by have := zD0 [.slice a0 x.1.1.length c0, .slice b0 x.1.2.length d0] x.1 m.2.2.2.2.1 W hok (zAN r0 hb); rw [show zAt m = m.2.2.2.2.1 from rfl] at hat; rw [hat] at this; exact this
 have HSS : Hid _ := And.intro hS hg
 have G : w.heap[g]? = some (.cells #[.slice a0 x.1.1.length c0, .slice b0 x.1.2.length d0, .slice a1 x.2.1.length c1, .int .i64 x.2.2.1, .int .i64 x.2.2.2.1, .int .i64 x.2.2.2.2.1.1, .int .i64 x.2.2.2.2.1.2.1, .slice a4 x.2.2.2.2.1.2.2.length c4, .slice a5 x.2.2.2.2.2.length c5] 41 (0, 0)) := hbox
 have gl := (Array.getElem?_eq_some_iff.1 G).1
 have HO : Hid (∀ W, Below w.heap.size w W → zAn.own W S [.slice a0 x.1.1.length c0, .slice b0 x.1.2.length d0, .slice a1 x.2.1.length c1, .int .i64 x.2.2.1, .int .i64 x.2.2.2.1, .int .i64 x.2.2.2.2.1.1, .int .i64 x.2.2.2.2.1.2.1, .slice a4 x.2.2.2.2.1.2.2.length c4, .slice a5 x.2.2.2.2.2.length c5] x) := fun W hb => zAn.own_keep ho (zAh hb)
 have HQ4 : Hid (∀ W, Below w.heap.size w W → zBh zBC W a4 x.2.2.2.2.1.2.2) := fun W hb => zAG q4 hb
 have hln := zDX hk
 have HLN : Hid (x.2.2.2.2.1.2.2.length ≤ 2) := hln
 obtain ⟨c, p, at_, ph, h, t⟩ := x
 simp only at *
 have him : zBk m.2.2.2.2.1 := im4
 have HOW : Hid _ := And.intro o0 (And.intro o1 (And.intro o5 (And.intro sb0 (And.intro sb1 (And.intro sb5 (And.intro d01 (And.intro d05 (And.intro d15 (And.intro i2 i3)))))))))
 have z1 : (ph == 1) = true := by simp [hp]
 have z2 : (h.1 == m.2.2.2.2.1) = true := by simp [hl]
 have z3 : (h.2.1 != 0) = true := by simp; omega
 clear ho hS hg r0 r4 q4 o0 o1 o4 o5 sb0 sb1 sb4 sb5 d01 d04 d05 d14 d15 d45 i2 i3 ih1 ih2 hk hok hm hbox im0 im1 im2 im3 im4 im6 hat hp hl hln
 have z4 : 2 ≤ h.2.1 := hs
 clear hs
 rw [show zAM [.int .i64 m.1, .int .i64 m.2.1, .int .i64 m.2.2.1, .int .i64 m.2.2.2.1, .int .i64 m.2.2.2.2.1, .slice ma m.2.2.2.2.2.1.length mc, .int .i64 m.2.2.2.2.2.2] = .agg #[.int .i64 m.1, .int .i64 m.2.1, .int .i64 m.2.2.1, .int .i64 m.2.2.2.1, .int .i64 m.2.2.2.2.1, .slice ma m.2.2.2.2.2.1.length mc, .int .i64 m.2.2.2.2.2.2] from rfl]
 have B := Below.refl w.heap.size w
 go_enter Tryz.func58, Tryz.ntmps58
 go_upto_region 1 with fail
 generalize hu1w : w.alloc _ = u1w
 have N := boxH hu1w
 have bz := boxB hu1w
 have zN := boxL hu1w
 clear hu1w
 replace B := zAb B bz
 replace G := zAa bz G
 clear bz
 have zNa := Nat.le_of_eq zN
 have zNb := Nat.le_of_eq zN.symm
 clear zN
 generalize hu2w : u1w.alloc _ = u2w
 have R := boxH hu2w
 have bz := boxB hu2w
 have zR := boxL hu2w
 clear hu2w
 rw [show u1w.heap.size = w.heap.size + 1 from by omega] at R
 replace B := zAb B bz
 replace G := zAa bz G
 replace N := zAa bz N
 clear bz
 have zRa := Nat.le_of_eq zR
 have zRb := Nat.le_of_eq zR.symm
 clear zR
 obtain ⟨Gc0, Gc1, Gc2, Gc3, Gc4, Gc5, Gc6, Gc7, Gc8⟩ := zAc G
 have Glt := (Array.getElem?_eq_some_iff.1 G).1
 obtain ⟨Nc0, Nc1, Nc2, Nc3, Nc4, Nc5, Nc6⟩ := zAe N
 have Nlt := (Array.getElem?_eq_some_iff.1 N).1
 obtain ⟨Rc0, Rc1, Rc2, Rc3, Rc4, Rc5, Rc6⟩ := zAe R
 have Rlt := (Array.getElem?_eq_some_iff.1 R).1
 go_upto_region 2 with fail
 clear Gc0 Gc1 Gc2 Gc3 Gc4 Gc5 Gc6 Gc7 Gc8 Glt Nc0 Nc1 Nc2 Nc3 Nc4 Nc5 Nc6 Nlt Rc0 Rc1 Rc2 Rc3 Rc4 Rc5 Rc6 Rlt
 generalize hu3w : u2w.alloc _ = u3w
 have O := boxH hu3w
 have bz := boxB hu3w
 have zO := boxL hu3w
 clear hu3w
 replace B := zAb B bz
 replace G := zAa bz G
 replace N := zAa bz N
 replace R := zAa bz R
 clear bz
 have zOa := Nat.le_of_eq zO
 have zOb := Nat.le_of_eq zO.symm
 clear zO
 have HATc : Hid (∀ n' : Cls (fun wx => Below u3w.heap.size u3w wx), _) := fun n' => HAT.out n'.w (zAb B n'.h)
 obtain ⟨Gc0, Gc1, Gc2, Gc3, Gc4, Gc5, Gc6, Gc7, Gc8⟩ := zAc G
 have Glt := (Array.getElem?_eq_some_iff.1 G).1
 obtain ⟨Nc0, Nc1, Nc2, Nc3, Nc4, Nc5, Nc6⟩ := zAe N
 have Nlt := (Array.getElem?_eq_some_iff.1 N).1
 obtain ⟨Rc0, Rc1, Rc2, Rc3, Rc4, Rc5, Rc6⟩ := zAe R
 have Rlt := (Array.getElem?_eq_some_iff.1 R).1
 obtain ⟨Oc0, Oc1, Oc2, Oc3, Oc4, Oc5, Oc6⟩ := zAe O
 have Olt := (Array.getElem?_eq_some_iff.1 O).1
 go_upto_region 2 with fail
 clear Gc0 Gc1 Gc2 Gc3 Gc4 Gc5 Gc6 Gc7 Gc8 Glt Nc0 Nc1 Nc2 Nc3 Nc4 Nc5 Nc6 Nlt Rc0 Rc1 Rc2 Rc3 Rc4 Rc5 Rc6 Rlt Oc0 Oc1 Oc2 Oc3 Oc4 Oc5 Oc6 Olt
 obtain ⟨Gc0, Gc1, Gc2, Gc3, Gc4, Gc5, Gc6, Gc7, Gc8⟩ := zAc G
 have Gk0 : ∀ n' : Cls (fun wx => Below u3w.heap.size u3w wx), n'.w.cell? ⟨g, 0, none⟩ = some (.slice a0 c.1.length c0) := fun n' => zAd n'.h Gc0 (zAi Gc0)
 have Gk1 : ∀ n' : Cls (fun wx => Below u3w.heap.size u3w wx), n'.w.cell? ⟨g, 1, none⟩ = some (.slice b0 c.2.length d0) := fun n' => zAd n'.h Gc1 (zAi Gc1)
 have Gk2 : ∀ n' : Cls (fun wx => Below u3w.heap.size u3w wx), n'.w.cell? ⟨g, 2, none⟩ = some (.slice a1 p.length c1) := fun n' => zAd n'.h Gc2 (zAi Gc2)
 have Gk3 : ∀ n' : Cls (fun wx => Below u3w.heap.size u3w wx), n'.w.cell? ⟨g, 3, none⟩ = some (.int .i64 at_) := fun n' => zAd n'.h Gc3 (zAi Gc3)
 have Gk4 : ∀ n' : Cls (fun wx => Below u3w.heap.size u3w wx), n'.w.cell? ⟨g, 4, none⟩ = some (.int .i64 ph) := fun n' => zAd n'.h Gc4 (zAi Gc4)
 have Gk5 : ∀ n' : Cls (fun wx => Below u3w.heap.size u3w wx), n'.w.cell? ⟨g, 5, none⟩ = some (.int .i64 h.1) := fun n' => zAd n'.h Gc5 (zAi Gc5)
 have Gk6 : ∀ n' : Cls (fun wx => Below u3w.heap.size u3w wx), n'.w.cell? ⟨g, 6, none⟩ = some (.int .i64 h.2.1) := fun n' => zAd n'.h Gc6 (zAi Gc6)
 have Gk7 : ∀ n' : Cls (fun wx => Below u3w.heap.size u3w wx), n'.w.cell? ⟨g, 7, none⟩ = some (.slice a4 h.2.2.length c4) := fun n' => zAd n'.h Gc7 (zAi Gc7)
 have Gk8 : ∀ n' : Cls (fun wx => Below u3w.heap.size u3w wx), n'.w.cell? ⟨g, 8, none⟩ = some (.slice a5 t.length c5) := fun n' => zAd n'.h Gc8 (zAi Gc8)
 clear Gc0 Gc1 Gc2 Gc3 Gc4 Gc5 Gc6 Gc7 Gc8
 obtain ⟨Nc0, Nc1, Nc2, Nc3, Nc4, Nc5, Nc6⟩ := zAe N
 have Nk0 : ∀ n' : Cls (fun wx => Below u3w.heap.size u3w wx), n'.w.cell? ⟨w.heap.size, 0, none⟩ = some (.int .i64 m.1) := fun n' => zAd n'.h Nc0 (zAi Nc0)
 have Nk1 : ∀ n' : Cls (fun wx => Below u3w.heap.size u3w wx), n'.w.cell? ⟨w.heap.size, 1, none⟩ = some (.int .i64 m.2.1) := fun n' => zAd n'.h Nc1 (zAi Nc1)
 have Nk2 : ∀ n' : Cls (fun wx => Below u3w.heap.size u3w wx), n'.w.cell? ⟨w.heap.size, 2, none⟩ = some (.int .i64 m.2.2.1) := fun n' => zAd n'.h Nc2 (zAi Nc2)
 have Nk3 : ∀ n' : Cls (fun wx => Below u3w.heap.size u3w wx), n'.w.cell? ⟨w.heap.size, 3, none⟩ = some (.int .i64 m.2.2.2.1) := fun n' => zAd n'.h Nc3 (zAi Nc3)
 have Nk4 : ∀ n' : Cls (fun wx => Below u3w.heap.size u3w wx), n'.w.cell? ⟨w.heap.size, 4, none⟩ = some (.int .i64 m.2.2.2.2.1) := fun n' => zAd n'.h Nc4 (zAi Nc4)
 have Nk5 : ∀ n' : Cls (fun wx => Below u3w.heap.size u3w wx), n'.w.cell? ⟨w.heap.size, 5, none⟩ = some (.slice ma m.2.2.2.2.2.1.length mc) := fun n' => zAd n'.h Nc5 (zAi Nc5)
 have Nk6 : ∀ n' : Cls (fun wx => Below u3w.heap.size u3w wx), n'.w.cell? ⟨w.heap.size, 6, none⟩ = some (.int .i64 m.2.2.2.2.2.2) := fun n' => zAd n'.h Nc6 (zAi Nc6)
 clear Nc0 Nc1 Nc2 Nc3 Nc4 Nc5 Nc6
 have HFX : Hid _ := And.intro B (And.intro G (And.intro N (And.intro R (O))))
 clear B G N R O
 refine zA8 (fun wx => Below u3w.heap.size u3w wx) (by kernel_rfl) (by kernel_rfl) ((Below.refl _ u3w).drew) ?_
 intro hne
 repeat (quiet_step (first | (go_at_call 54; exact zAz (HATc.out _) (fun w' hc bb => zAb hc bb))))
 refine wpQuiet_nil ?_
 intro u4w bq
 clear Gk0 Gk1 Gk2 Gk3 Gk4 Gk5 Gk6 Gk7 Gk8 Nk0 Nk1 Nk2 Nk3 Nk4 Nk5 Nk6 hne
 obtain ⟨B, G, N, R, O⟩ := HFX.out
 clear HFX
 have tu4w : u3w.heap.size ≤ u4w.heap.size := bq.size
 replace B := zAb B bq
 replace G := zAa bq G
 replace N := zAa bq N
 replace R := zAa bq R
 replace O := zAa bq O
 clear bq
 clear HATc HAT
 obtain ⟨Gc0, Gc1, Gc2, Gc3, Gc4, Gc5, Gc6, Gc7, Gc8⟩ := zAc G
 have Glt := (Array.getElem?_eq_some_iff.1 G).1
 obtain ⟨Nc0, Nc1, Nc2, Nc3, Nc4, Nc5, Nc6⟩ := zAe N
 have Nlt := (Array.getElem?_eq_some_iff.1 N).1
 obtain ⟨Rc0, Rc1, Rc2, Rc3, Rc4, Rc5, Rc6⟩ := zAe R
 have Rlt := (Array.getElem?_eq_some_iff.1 R).1
 obtain ⟨Oc0, Oc1, Oc2, Oc3, Oc4, Oc5, Oc6⟩ := zAe O
 have Olt := (Array.getElem?_eq_some_iff.1 O).1
 go_upto_region 13 with fail
 clear Gc0 Gc1 Gc2 Gc3 Gc4 Gc5 Gc6 Gc7 Gc8 Glt Nc0 Nc1 Nc2 Nc3 Nc4 Nc5 Nc6 Nlt Rc0 Rc1 Rc2 Rc3 Rc4 Rc5 Rc6 Rlt Oc0 Oc1 Oc2 Oc3 Oc4 Oc5 Oc6 Olt
 go_cut [83] (fun q wx => q = .bool true ∧ Below u4w.heap.size u4w wx)
 case first =>
  obtain ⟨Gc0, Gc1, Gc2, Gc3, Gc4, Gc5, Gc6, Gc7, Gc8⟩ := zAc G
  have Glt := (Array.getElem?_eq_some_iff.1 G).1
  obtain ⟨Nc0, Nc1, Nc2, Nc3, Nc4, Nc5, Nc6⟩ := zAe N
  have Nlt := (Array.getElem?_eq_some_iff.1 N).1
  obtain ⟨Rc0, Rc1, Rc2, Rc3, Rc4, Rc5, Rc6⟩ := zAe R
  have Rlt := (Array.getElem?_eq_some_iff.1 R).1
  obtain ⟨Oc0, Oc1, Oc2, Oc3, Oc4, Oc5, Oc6⟩ := zAe O
  have Olt := (Array.getElem?_eq_some_iff.1 O).1
  clear B G N R O
  go_quiet (fail)
  go_wp2_with fail
  go_meet
  exact ⟨rfl, zBt (Below.refl _ _) _⟩
 case rest =>
  obtain ⟨rfl, bq⟩ := hcut
  generalize wc = u5w at bq ⊢
  have tu5w : u4w.heap.size ≤ u5w.heap.size := bq.size
  replace B := zAb B bq
  replace G := zAa bq G
  replace N := zAa bq N
  replace R := zAa bq R
  replace O := zAa bq O
  clear bq
  obtain ⟨Gc0, Gc1, Gc2, Gc3, Gc4, Gc5, Gc6, Gc7, Gc8⟩ := zAc G
  have Glt := (Array.getElem?_eq_some_iff.1 G).1
  obtain ⟨Nc0, Nc1, Nc2, Nc3, Nc4, Nc5, Nc6⟩ := zAe N
  have Nlt := (Array.getElem?_eq_some_iff.1 N).1
  obtain ⟨Rc0, Rc1, Rc2, Rc3, Rc4, Rc5, Rc6⟩ := zAe R
  have Rlt := (Array.getElem?_eq_some_iff.1 R).1
  obtain ⟨Oc0, Oc1, Oc2, Oc3, Oc4, Oc5, Oc6⟩ := zAe O
  have Olt := (Array.getElem?_eq_some_iff.1 O).1
  obtain ⟨Of0, Of1, Of2, Of3, Of4, Of5, Of6⟩ := zB8 O
  go_upto_region 16 with fail
  clear Gc0 Gc1 Gc2 Gc3 Gc4 Gc5 Gc6 Gc7 Gc8 Glt Nc0 Nc1 Nc2 Nc3 Nc4 Nc5 Nc6 Nlt Rc0 Rc1 Rc2 Rc3 Rc4 Rc5 Rc6 Rlt Oc0 Oc1 Oc2 Oc3 Oc4 Oc5 Oc6 Olt Of0 Of1 Of2 Of3 Of4 Of5 Of6
  rw [show (u5w.setCell ⟨u2w.heap.size, 3, none⟩ (.int .i64 8)) = (zAo u5w (u2w.heap.size) 3 [.int .i64 8]) from rfl]
  replace G := zAk (g := u2w.heap.size) (o := 3) (vs := [.int .i64 8]) G (by omega)
  replace N := zAk (g := u2w.heap.size) (o := 3) (vs := [.int .i64 8]) N (by omega)
  replace R := zAk (g := u2w.heap.size) (o := 3) (vs := [.int .i64 8]) R (by omega)
  replace B := zAv (g := u2w.heap.size) (o := 3) (vs := [.int .i64 8]) B (by omega)
  replace O : (zAo u5w (u2w.heap.size) 3 [.int .i64 8]).heap[u2w.heap.size]? = some (.cells #[.int .i64 2, .int .i64 0, .int .i64 4, .int .i64 8, .int .i64 m.2.2.2.2.1, .slice none 0 0, .int .i64 0] 46 (0, 0)) := zAC _ _ O
  have tu6w := Nat.le_of_eq (zAj (g := u2w.heap.size) [.int .i64 8] 3 u5w)
  have qu6w := Nat.le_of_eq (zAj (g := u2w.heap.size) [.int .i64 8] 3 u5w).symm
  generalize (zAo u5w (u2w.heap.size) 3 [.int .i64 8]) = u6w at B G N R O tu6w qu6w ⊢
  obtain ⟨Gc0, Gc1, Gc2, Gc3, Gc4, Gc5, Gc6, Gc7, Gc8⟩ := zAc G
  have Glt := (Array.getElem?_eq_some_iff.1 G).1
  obtain ⟨Nc0, Nc1, Nc2, Nc3, Nc4, Nc5, Nc6⟩ := zAe N
  have Nlt := (Array.getElem?_eq_some_iff.1 N).1
  obtain ⟨Rc0, Rc1, Rc2, Rc3, Rc4, Rc5, Rc6⟩ := zAe R
  have Rlt := (Array.getElem?_eq_some_iff.1 R).1
  obtain ⟨Oc0, Oc1, Oc2, Oc3, Oc4, Oc5, Oc6⟩ := zAe O
  have Olt := (Array.getElem?_eq_some_iff.1 O).1
  go_wp2_with fail
  clear Gc0 Gc1 Gc2 Gc3 Gc4 Gc5 Gc6 Gc7 Gc8 Glt Nc0 Nc1 Nc2 Nc3 Nc4 Nc5 Nc6 Nlt Rc0 Rc1 Rc2 Rc3 Rc4 Rc5 Rc6 Rlt Oc0 Oc1 Oc2 Oc3 Oc4 Oc5 Oc6 Olt
  refine (zDc a4 h.2.2 c4 _ (HQ4.out _ B) (by have := HLN.out; omega)).mono ?_
  rintro e u7w ⟨vt, rfl, mm⟩
  obtain ⟨ta, tc, rt, -, -, -⟩ := zA5.own_rd mm.1
  simp only [List.cons.injEq, and_true] at rt
  obtain rfl := rt
  have D := zAR (R := zA5) mm
  have mb := mm.2
  have tu7w : u6w.heap.size ≤ u7w.heap.size := mb.size
  replace B := zAb B mb
  replace G := zAa mb G
  replace N := zAa mb N
  replace R := zAa mb R
  replace O := zAa mb O
  clear mb mm
  obtain ⟨Gc0, Gc1, Gc2, Gc3, Gc4, Gc5, Gc6, Gc7, Gc8⟩ := zAc G
  have Glt := (Array.getElem?_eq_some_iff.1 G).1
  obtain ⟨Nc0, Nc1, Nc2, Nc3, Nc4, Nc5, Nc6⟩ := zAe N
  have Nlt := (Array.getElem?_eq_some_iff.1 N).1
  obtain ⟨Rc0, Rc1, Rc2, Rc3, Rc4, Rc5, Rc6⟩ := zAe R
  have Rlt := (Array.getElem?_eq_some_iff.1 R).1
  obtain ⟨Oc0, Oc1, Oc2, Oc3, Oc4, Oc5, Oc6⟩ := zAe O
  have Olt := (Array.getElem?_eq_some_iff.1 O).1
  obtain ⟨Of0, Of1, Of2, Of3, Of4, Of5, Of6⟩ := zB8 O
  go_upto_region 19 with fail
  clear Gc0 Gc1 Gc2 Gc3 Gc4 Gc5 Gc6 Gc7 Gc8 Glt Nc0 Nc1 Nc2 Nc3 Nc4 Nc5 Nc6 Nlt Rc0 Rc1 Rc2 Rc3 Rc4 Rc5 Rc6 Rlt Oc0 Oc1 Oc2 Oc3 Oc4 Oc5 Oc6 Olt Of0 Of1 Of2 Of3 Of4 Of5 Of6
  rw [show (u7w.setCell ⟨u2w.heap.size, 5, none⟩ (.slice ta h.2.2.length tc)) = (zAo u7w (u2w.heap.size) 5 [.slice ta h.2.2.length tc]) from rfl]
  replace G := zAk (g := u2w.heap.size) (o := 5) (vs := [.slice ta h.2.2.length tc]) G (by omega)
  replace N := zAk (g := u2w.heap.size) (o := 5) (vs := [.slice ta h.2.2.length tc]) N (by omega)
  replace R := zAk (g := u2w.heap.size) (o := 5) (vs := [.slice ta h.2.2.length tc]) R (by omega)
  replace D := zAw (g := u2w.heap.size) (o := 5) (vs := [.slice ta h.2.2.length tc]) D (by omega)
  replace B := zAv (g := u2w.heap.size) (o := 5) (vs := [.slice ta h.2.2.length tc]) B (by omega)
  replace O : (zAo u7w (u2w.heap.size) 5 [.slice ta h.2.2.length tc]).heap[u2w.heap.size]? = some (.cells #[.int .i64 2, .int .i64 0, .int .i64 4, .int .i64 8, .int .i64 m.2.2.2.2.1, .slice ta h.2.2.length tc, .int .i64 0] 46 (0, 0)) := zAC _ _ O
  have tu8w := Nat.le_of_eq (zAj (g := u2w.heap.size) [.slice ta h.2.2.length tc] 5 u7w)
  have qu8w := Nat.le_of_eq (zAj (g := u2w.heap.size) [.slice ta h.2.2.length tc] 5 u7w).symm
  generalize (zAo u7w (u2w.heap.size) 5 [.slice ta h.2.2.length tc]) = u8w at B G N R O D tu8w qu8w ⊢
  have hDs := D.2
  obtain ⟨Gc0, Gc1, Gc2, Gc3, Gc4, Gc5, Gc6, Gc7, Gc8⟩ := zAc G
  have Glt := (Array.getElem?_eq_some_iff.1 G).1
  obtain ⟨Gf0, Gf1, Gf2, Gf3, Gf4, Gf5, Gf6, Gf7, Gf8⟩ := zAr G
  obtain ⟨Nc0, Nc1, Nc2, Nc3, Nc4, Nc5, Nc6⟩ := zAe N
  have Nlt := (Array.getElem?_eq_some_iff.1 N).1
  obtain ⟨Rc0, Rc1, Rc2, Rc3, Rc4, Rc5, Rc6⟩ := zAe R
  have Rlt := (Array.getElem?_eq_some_iff.1 R).1
  obtain ⟨Rf0, Rf1, Rf2, Rf3, Rf4, Rf5, Rf6⟩ := zB8 R
  obtain ⟨Oc0, Oc1, Oc2, Oc3, Oc4, Oc5, Oc6⟩ := zAe O
  have Olt := (Array.getElem?_eq_some_iff.1 O).1
  obtain ⟨Of0, Of1, Of2, Of3, Of4, Of5, Of6⟩ := zB8 O
  have ne1 : ¬ (u2w.heap.size = w.heap.size + 1) := by omega
  have ne2 : ¬ (w.heap.size + 1 = u2w.heap.size) := by omega
  have ne3 : ¬ (g = w.heap.size + 1) := by omega
  have ne4 : ¬ (w.heap.size + 1 = g) := by omega
  have ne5 : ¬ (g = u2w.heap.size) := by omega
  have ne6 : ¬ (u2w.heap.size = g) := by omega
  have ne7 : ¬ (g = w.heap.size) := by omega
  have ne8 : ¬ (w.heap.size = g) := by omega
  have HK : Hid _ := And.intro B (And.intro G (And.intro N (And.intro R (And.intro O (D)))))
  clear B G N R O D
  go_wp2
  clear ne1 ne2 ne3 ne4 ne5 ne6 ne7 ne8
  clear Gc0 Gc1 Gc2 Gc3 Gc4 Gc5 Gc6 Gc7 Gc8 Glt Gf0 Gf1 Gf2 Gf3 Gf4 Gf5 Gf6 Gf7 Gf8 Nc0 Nc1 Nc2 Nc3 Nc4 Nc5 Nc6 Nlt Rc0 Rc1 Rc2 Rc3 Rc4 Rc5 Rc6 Rlt Rf0 Rf1 Rf2 Rf3 Rf4 Rf5 Rf6 Oc0 Oc1 Oc2 Oc3 Oc4 Oc5 Oc6 Olt Of0 Of1 Of2 Of3 Of4 Of5 Of6
  obtain ⟨B, G, N, R, O, D⟩ := HK.out
  clear HK
  have bsz := B.size
  obtain ⟨o0, o1, o5, sb0, sb1, sb5, d01, d05, d15, i2, i3⟩ := HOW.out
  obtain ⟨hS, hg⟩ := HSS.out
  have G1 : (zAo u8w g 5 [.int .i64 m.2.2.2.2.1, .int .i64 0, .slice none 0 0]).heap[g]? = some (.cells #[.slice a0 c.1.length c0, .slice b0 c.2.length d0, .slice a1 p.length c1, .int .i64 at_, .int .i64 ph, .int .i64 m.2.2.2.2.1, .int .i64 0, .slice none 0 0, .slice a5 t.length c5] 41 (0, 0)) := zAC (g := g) [.int .i64 m.2.2.2.2.1, .int .i64 0, .slice none 0 0] 5 G
  have G3 := zAk (g := w.heap.size + 1) (o := 0) (vs := [.int .i64 2, .int .i64 0, .int .i64 4, .int .i64 8, .int .i64 m.2.2.2.2.1, .slice ta h.2.2.length tc, .int .i64 1]) (zAk (g := u2w.heap.size) (o := 6) (vs := [.int .i64 1]) G1 (by omega)) (by omega)
  have R2 := zAk (g := u2w.heap.size) (o := 6) (vs := [.int .i64 1]) (zAk (g := g) (o := 5) (vs := [.int .i64 m.2.2.2.2.1, .int .i64 0, .slice none 0 0]) R (by omega)) (by omega)
  have V3 : (zAo (zAo (zAo u8w g 5 [.int .i64 m.2.2.2.2.1, .int .i64 0, .slice none 0 0]) (u2w.heap.size) 6 [.int .i64 1]) (w.heap.size + 1) 0 [.int .i64 2, .int .i64 0, .int .i64 4, .int .i64 8, .int .i64 m.2.2.2.2.1, .slice ta h.2.2.length tc, .int .i64 1]).heap[w.heap.size + 1]? = some (.cells #[.int .i64 2, .int .i64 0, .int .i64 4, .int .i64 8, .int .i64 m.2.2.2.2.1, .slice ta h.2.2.length tc, .int .i64 1] 46 (0, 0)) := zGL R2
  obtain ⟨r0, r1, r2, r3, r4, r5, r6⟩ := zAe V3
  have FS : (zAo (zAo (zAo u8w g 5 [.int .i64 m.2.2.2.2.1, .int .i64 0, .slice none 0 0]) (u2w.heap.size) 6 [.int .i64 1]) (w.heap.size + 1) 0 [.int .i64 2, .int .i64 0, .int .i64 4, .int .i64 8, .int .i64 m.2.2.2.2.1, .slice ta h.2.2.length tc, .int .i64 1]).heap.size = u8w.heap.size := (zAj _ _ _).trans ((zAj _ _ _).trans (zAj _ _ _))
  have OC := zC9 (S := S) (S4 := fun _ => False) i2 i3 (zAB.own_keep o0 (zAh B)) (zBX.own_keep o1 (zAh B)) (zCF (l := m.2.2.2.2.1) (s := 0) (d := []) him (by constructor <;> decide) (zBA u8w (fun _ => False))) (zA5.own_keep o5 (zAh B)) sb0 sb1 (fun _ q => q.elim) sb5 d01 (fun _ _ q => q) d05 (fun _ _ q => q) d15 (fun _ q _ => q)
  have OC3 := zAs (g := w.heap.size + 1) (o := 0) (vs := [.int .i64 2, .int .i64 0, .int .i64 4, .int .i64 8, .int .i64 m.2.2.2.2.1, .slice ta h.2.2.length tc, .int .i64 1]) (zAs (g := u2w.heap.size) (o := 6) (vs := [.int .i64 1]) (zAs (g := g) (o := 5) (vs := [.int .i64 m.2.2.2.2.1, .int .i64 0, .slice none 0 0]) OC hg) (fun q => by have := hS _ q; omega)) (fun q => by have := hS _ q; omega)
  have OM3 := zAs (g := w.heap.size + 1) (o := 0) (vs := [.int .i64 2, .int .i64 0, .int .i64 4, .int .i64 8, .int .i64 m.2.2.2.2.1, .slice ta h.2.2.length tc, .int .i64 1]) (zAs (g := u2w.heap.size) (o := 6) (vs := [.int .i64 1]) (zAs (g := g) (o := 5) (vs := [.int .i64 m.2.2.2.2.1, .int .i64 0, .slice none 0 0]) (zBR (f0 := 2) (f1 := 0) (f2 := 4) (f3 := 8) (f4 := m.2.2.2.2.1) (f6 := 1) (by constructor <;> decide) (by constructor <;> decide) (by constructor <;> decide) (by constructor <;> decide) him (by constructor <;> decide) D.1) (fun q => by have := q.1; have := q.2; omega)) (fun q => by have := q.1; have := q.2; omega)) (fun q => by have := q.1; have := q.2; omega)
  have CH : Chg (fun k => S k ∨ k = g) w (zAo (zAo (zAo u8w g 5 [.int .i64 m.2.2.2.2.1, .int .i64 0, .slice none 0 0]) (u2w.heap.size) 6 [.int .i64 1]) (w.heap.size + 1) 0 [.int .i64 2, .int .i64 0, .int .i64 4, .int .i64 8, .int .i64 m.2.2.2.2.1, .slice ta h.2.2.length tc, .int .i64 1]) := zBg (zBg ((zII B).trans ((zBU [.int .i64 m.2.2.2.2.1, .int .i64 0, .slice none 0 0] 5 u8w (g := g)).mono fun k q => .inr q)) (by omega)) (by omega)
  have FQ : zHy S g w (c, p, at_, ph, (m.2.2.2.2.1, 0, []), t) (msg 2 0 4 8 m.2.2.2.2.1 h.2.2 1) (.returned (zAM [.int .i64 2, .int .i64 0, .int .i64 4, .int .i64 8, .int .i64 m.2.2.2.2.1, .slice ta h.2.2.length tc, .int .i64 1])) (zAo (zAo (zAo u8w g 5 [.int .i64 m.2.2.2.2.1, .int .i64 0, .slice none 0 0]) (u2w.heap.size) 6 [.int .i64 1]) (w.heap.size + 1) 0 [.int .i64 2, .int .i64 0, .int .i64 4, .int .i64 8, .int .i64 m.2.2.2.2.1, .slice ta h.2.2.length tc, .int .i64 1]) := ⟨[.slice a0 c.1.length c0, .slice b0 c.2.length d0, .slice a1 p.length c1, .int .i64 at_, .int .i64 ph, .int .i64 m.2.2.2.2.1, .int .i64 0, .slice none 0 0, .slice a5 t.length c5], [.int .i64 2, .int .i64 0, .int .i64 4, .int .i64 8, .int .i64 m.2.2.2.2.1, .slice ta h.2.2.length tc, .int .i64 1], rfl, zAn.own_mono OC3 (fun k q => .inl q), zBy.own_mono OM3 (fun k q => by rw [FS]; exact (⟨by have := q.1; omega, by have := q.2; omega⟩)), G3, CH⟩
  simp only [zA0, zA3, Nat.reduceAdd] at FQ r0 r1 r2 r3 r4 r5 r6
  rw [show zAM [.int .i64 2, .int .i64 0, .int .i64 4, .int .i64 8, .int .i64 m.2.2.2.2.1, .slice ta h.2.2.length tc, .int .i64 1] = .agg #[.int .i64 2, .int .i64 0, .int .i64 4, .int .i64 8, .int .i64 m.2.2.2.2.1, .slice ta h.2.2.length tc, .int .i64 1] from rfl] at FQ
  clear B G N R O D V3 FS G1 G3 R2 OC OC3 OM3 CH
  refine bodyPost_ret (v := .agg #[.int .i64 2, .int .i64 0, .int .i64 4, .int .i64 8, .int .i64 m.2.2.2.2.1, .slice ta h.2.2.length tc, .int .i64 1]) (by simp [results, Tryz.results58, go_sem, r0, r1, r2, r3, r4, r5, r6]) rfl ?_
  exact FQ
end Go.Proofs.YtoihjejenjcokaaGreatDoor
