import Derived.Test.YtoihjejenjcokaaGreatDoorP00Box
import Derived.Test.YtoihjejenjcokaaGreatDoorP27Ops2
import Derived.Test.YtoihjejenjcokaaGreatDoorP03OpensBase
import Derived.Test.YtoihjejenjcokaaGreatDoorP12Finds
import Derived.BigRegion
import Derived.Deep.DeepCutAuto
namespace Go.Proofs.YtoihjejenjcokaaGreatDoor
open Go.ChangeShapes Go.WideShapes Go.ChangeAt Go.RowKit
set_option linter.unusedVariables false
theorem zEO {w : World} {g : Nat} {cs : Array Value} {t : TypeId} (h : w.heap[g]? = some (.cells cs t (0, 0))) : w.frozen? ⟨g, 0, none⟩ = false ∧ w.frozen? ⟨g, 1, none⟩ = false ∧ w.frozen? ⟨g, 2, none⟩ = false :=
 ⟨frozen_of_row w g 0 _ _ h, frozen_of_row w g 1 _ _ h, frozen_of_row w g 2 _ _ h⟩
theorem zBg {S : zAX} {w W : World} {g o : Nat} {vs : List Value} (h : Chg S w W) (hg : w.heap.size ≤ g) : Chg S w (zAo W g o vs) := by
 have c := zBU vs o W (g := g)
 exact ⟨c.os.trans h.os, c.tape.trans h.tape, c.output.trans h.output, Nat.le_trans h.size c.size, fun k hk hn => (c.block k (Nat.lt_of_lt_of_le hk h.size) (fun e => by have : k = g := e; omega)).trans (h.block k hk hn)⟩
noncomputable def zHh (o : OpD) (u : zAU) : zAU := (u.1, (if zCV o then 3 else u.2.1), u.2.2.set (o.2.1 % 2).toNat (zIH o (u.2.2.getD (o.2.1 % 2).toNat 0)).1)
noncomputable def zJ3 (x : zAE) (u : zAU) : zAE := ((zB1 x.1 (zHh (zBv (toS x)) u)).1, x.2.1, x.2.2.1 + 1, x.2.2.2.1, x.2.2.2.2.1, x.2.2.2.2.2 ++ [(zIH (zBv (toS x)) (u.2.2.getD ((zBv (toS x)).2.1 % 2).toNat 0)).2])
theorem isL_64 {d : List Int} (h : isL d = true) : ∀ x ∈ d, zBk x := by
 obtain ⟨a, b, rfl, h1, h2⟩ := zI6 h
 intro x hx
 simp only [List.mem_cons, List.not_mem_nil, or_false] at hx
 rcases hx with rfl | rfl <;> constructor <;> omega
theorem zN8 {d : List Int} (h : isL d = true) (k : Nat) : okW (d.getD k 0) = true := by
 obtain ⟨a, b, rfl, h1, h2⟩ := zI6 h
 match k with
 | 0 => simp [okW, zAQ]; omega
 | 1 => simp [okW, zAQ]; omega
 | k + 2 => simp [okW, zAQ]
set_option maxHeartbeats 16000000 in
set_option maxRecDepth 20000 in
theorem zN9 (S : zAX) (cs us : List Value) (x : zAE) (u : zAU) (w : World) (ho : zAn.own w S cs x) (hS : ∀ k, S k → k < w.heap.size) (hu : zAS.rd w us u) (hk : zAZ x = true) (h1 : x.2.2.1 < x.2.1.length) (hf : zBi isL u = true) (ha : zCl u.2.1 (zCV (zBv (toS x))) = 0) :
    Calls Tryz.prog 106 #[zAM cs, zAM us] w fun e w' => ∃ ds, e = .returned (zAM ds) ∧ zAn.own w' (fun k => S k ∨ (w.heap.size ≤ k ∧ k < w'.heap.size)) ds (zJ3 x u) ∧ Chg S w w' := by
 have hp := zB4 hk
 have hia := zJ1 hk
 have hat0 : 0 ≤ x.2.2.1 := hp.at0
 have hok : OkC isL zAJ x.1 := hp.ok
 have hlp : x.2.1.length ≤ 30 := hp.len
 have hlt := zF0 hk
 have hoo : zBN (zBv (toS x)) = true := hp.ops _ (zEa hp.at0 h1)
 have KO : Hid (∀ W, Below w.heap.size w W → Calls Tryz.prog 128 #[zAM cs] W fun e w' => e = .returned (.agg #[.int .i64 (zBv (toS x)).1, .int .i64 (zBv (toS x)).2.1, .int .i64 (zBv (toS x)).2.2.1, .int .i64 (zBv (toS x)).2.2.2]) ∧ Below W.heap.size W w') := fun W hb => zLr cs x W (zAN (zAn.own_rd ho) hb) hat0 h1
 unfold zJ3 zHh
 obtain ⟨o, hoe⟩ : ∃ o, o = zBv (toS x) := ⟨_, rfl⟩
 rw [← hoe] at KO hoo ha ⊢
 clear hp hk hoe
 obtain ⟨fu1, fu2, fu3⟩ := zB0 hf
 obtain ⟨hq0, hq1⟩ := zFK hoo
 obtain ⟨kq, hkq⟩ : ∃ kq, kq = o.2.1 % 2 := ⟨_, rfl⟩
 have hkb : zAQ kq 0 1 = true := by simp [zAQ]; omega
 obtain ⟨z, hz⟩ : ∃ z, z = u.2.2.getD kq.toNat 0 := ⟨_, rfl⟩
 have hzo : okW z = true := by rw [hz]; exact zN8 fu3 _
 have hzw : zIM u.2.2 kq = z := by unfold zIM; rw [if_pos fu3, if_pos hkb, hz]
 obtain ⟨th, hth⟩ : ∃ th, th = (zIH o z).1 := ⟨_, rfl⟩
 obtain ⟨td, htd⟩ : ∃ td, td = (zIH o z).2 := ⟨_, rfl⟩
 have hzr : 0 ≤ z ∧ z ≤ 9999 := by simpa [okW, zAQ] using hzo
 have htr := zI7 hoo hzr
 have hto : okW th = true := by rw [hth]; simp [okW, zAQ]; omega
 have htd64 : zBk td := by rw [htd]; unfold zIH zCt; constructor <;> (simp only; split <;> omega)
 have hdk : zEw o.1 o.2.1 o.2.2.1 o.2.2.2 z = true := by unfold zEw; rw [hzo, Bool.and_true]; exact hoo
 rw [← hkq, ← hz, ← hth, ← htd]
 obtain ⟨d2, hd2⟩ : ∃ d2, d2 = u.2.2.set kq.toNat th := ⟨_, rfl⟩
 have hdl : d2.length = u.2.2.length := by rw [hd2]; simp
 have hd2L : isL d2 = true := by rw [hd2, hth, hz, hkq]; exact zGR hoo fu3
 have hd2l : d2.length = 2 := zD4 hd2L
 obtain ⟨s2, hs2⟩ : ∃ s2 : Int, s2 = (if zCV o then 3 else u.2.1) := ⟨_, rfl⟩
 have hs2n : zGb u.2.1 (if zCV o then 2 else 1) = some s2 := by
  rw [hs2]
  unfold zCl at ha
  rw [if_pos (by simp [zAQ]; omega)] at ha
  have h123 : u.2.1 = 1 ∨ u.2.1 = 2 ∨ u.2.1 = 3 := by omega
  cases hw : zCV o
  ·rcases h123 with e | e | e <;> rw [e] <;> decide
  ·rw [hw] at ha
   rcases h123 with e | e | e
   ·rw [e] at ha; exact absurd ha (by decide)
   ·rw [e]; decide
   ·rw [e]; decide
 have hs2r : zBk s2 := by rw [hs2]; split <;> constructor <;> omega
 rw [← hd2, ← hs2]
 obtain ⟨v0, v1, v2, v5, v6, v7, v8, S0, S1, S4, S5, rfl, i2, i3, o0, o1, o4, o5, sb0, sb1, sb4, sb5, d01, d04, d05, d14, d15, d45⟩ := zBd ho
 have r0 := zAB.own_rd o0
 obtain ⟨a0, c0, b0, d0, e0, -⟩ := zAH r0
 simp only [List.cons.injEq, and_true] at e0
 obtain ⟨rfl, rfl⟩ := e0
 obtain ⟨a1, c1, e1, -⟩ := zBX.own_rd o1
 simp only [List.cons.injEq, and_true] at e1
 obtain rfl := e1
 obtain ⟨a4, c4, e4, -⟩ := zAL (zAS.own_rd o4)
 simp only [List.cons.injEq, and_true] at e4
 obtain ⟨rfl, rfl, rfl⟩ := e4
 obtain ⟨a5, c5, e5, -⟩ := zA5.own_rd o5
 simp only [List.cons.injEq, and_true] at e5
 obtain rfl := e5
 obtain ⟨au, cu, rfl, iu1, iu2, -, -, qu⟩ := zAL hu
 obtain ⟨c, p, at_, ph, h, t⟩ := x
 simp only at *
 rw [show zAM [.slice a0 c.1.length c0, .slice b0 c.2.length d0, .slice a1 p.length c1, .int .i64 at_, .int .i64 ph, .int .i64 h.1, .int .i64 h.2.1, .slice a4 h.2.2.length c4, .slice a5 t.length c5] = .agg #[.slice a0 c.1.length c0, .slice b0 c.2.length d0, .slice a1 p.length c1, .int .i64 at_, .int .i64 ph, .int .i64 h.1, .int .i64 h.2.1, .slice a4 h.2.2.length c4, .slice a5 t.length c5] from rfl] at KO ⊢
 rw [show zAM [.int .i64 u.1, .int .i64 u.2.1, .slice au u.2.2.length cu] = .agg #[.int .i64 u.1, .int .i64 u.2.1, .slice au u.2.2.length cu] from rfl]
 have HW1 : Hid (∀ W, Calls Tryz.prog 136 #[.agg #[.int .i64 o.1, .int .i64 o.2.1, .int .i64 o.2.2.1, .int .i64 o.2.2.2]] W fun e w' => e = .returned (.int .i64 kq) ∧ Below W.heap.size W w') := fun W => by rw [hkq]; exact zMj o W hoo
 have HW2 : Hid (∀ W, Below w.heap.size w W → Calls Tryz.prog 135 #[.slice au u.2.2.length cu, .int .i64 kq] W fun e w' => e = .returned (.int .i64 z) ∧ Below W.heap.size W w') := fun W hb => by rw [← hzw]; exact zHn au u.2.2 cu kq W (zCw (zAG qu hb))
 have HD : Hid (∀ W, Calls Tryz.prog 134 #[.agg #[.int .i64 o.1, .int .i64 o.2.1, .int .i64 o.2.2.1, .int .i64 o.2.2.2], .int .i64 z] W fun e w' => e = .returned (.tuple #[.int .i64 th, .int .i64 td]) ∧ Below W.heap.size W w') := fun W => by have := zJ2 o.1 o.2.1 o.2.2.1 o.2.2.2 z W; unfold zC4 zC5 at this; rw [if_pos hdk, if_pos hdk] at this; rw [hth, htd]; exact this
 have HP : Hid (∀ W, Below w.heap.size w W → Calls Tryz.prog 137 #[.slice au u.2.2.length cu, .int .i64 kq, .int .i64 th] W fun e w' => ∃ pa pc, e = .returned (.tuple #[.slice pa d2.length pc, .bool true]) ∧ zAY zA5 W w' [.slice pa d2.length pc] d2) := fun W hb => by
  have e1 : zL4 u.2.2 kq th = d2 := by unfold zL4; rw [if_pos fu3, if_pos hkb, if_pos hto, hd2]
  have e2 : putB u.2.2 kq th = true := by unfold putB; rw [fu3, hkb, hto]; rfl
  refine (zK9 au u.2.2 cu kq th W (zCw (zAG qu hb))).mono ?_
  rintro e w' ⟨v, rfl, m⟩
  rw [e1] at m
  rw [e2]
  have M := zD8 m (isL_64 hd2L)
  obtain ⟨pa, pc, rfl⟩ := zBD M.1
  exact ⟨pa, pc, rfl, M⟩
 have HE : Hid (∀ W, Calls Tryz.prog 138 #[.agg #[.int .i64 o.1, .int .i64 o.2.1, .int .i64 o.2.2.1, .int .i64 o.2.2.2]] W fun e w' => e = .returned (.int .i64 (if zCV o then 2 else 1)) ∧ Below W.heap.size W w') := fun W => zKA o W
 obtain ⟨ev, hev⟩ : ∃ ev : Int, ev = (if zCV o then 2 else 1) := ⟨_, rfl⟩
 rw [← hev] at HE hs2n
 have HN : Hid (∀ W, Calls Tryz.prog 126 #[.int .i64 u.2.1, .int .i64 ev] W fun e w' => e = .returned (.tuple #[.int .i64 s2, .bool true]) ∧ Below W.heap.size W w') := fun W => by have := zEl u.2.1 ev W (WalkArith.wf_i64 (by omega)) (by rw [hev]; split <;> exact WalkArith.wf_i64 (by omega)); unfold nextV at this; rw [hs2n] at this; exact this
 have HF : Hid (∀ W pa pc, Below w.heap.size w W → zA5.rd W [.slice pa d2.length pc] d2 → Calls Tryz.prog 105 #[.agg #[.slice a0 c.1.length c0, .slice b0 c.2.length d0], .agg #[.int .i64 u.1, .int .i64 s2, .slice pa d2.length pc]] W fun e w' => ∃ ds, e = .returned (.tuple #[zAM ds, .bool (zB1 c (u.1, s2, d2)).2]) ∧ zAY zAB W w' ds (zB1 c (u.1, s2, d2)).1) := fun W pa pc hb hr => zFV [.slice a0 c.1.length c0, .slice b0 c.2.length d0] [.int .i64 u.1, .int .i64 s2, .slice pa d2.length pc] c (u.1, s2, d2) W (zAN r0 hb) ⟨[_], [_, _], rfl, ⟨rfl, iu1⟩, [_], [_], rfl, ⟨rfl, hs2r⟩, hr⟩ (by show d2.length ≤ 1048576; omega)
 generalize zB1 c (u.1, s2, d2) = fc at HF ⊢
 have HOW : Hid _ := And.intro o1 (And.intro o4 (And.intro o5 (And.intro sb0 (And.intro sb1 (And.intro sb4 (And.intro sb5 (And.intro d01 (And.intro d04 (And.intro d05 (And.intro d14 (And.intro d15 d45)))))))))))
 have HSS : Hid _ := hS
 have HDL : Hid (d2.length = 2) := hd2l
 clear hdl hd2l
 clear ho hu r0 qu o0 o1 o4 o5 sb0 sb1 sb4 sb5 d01 d04 d05 d14 d15 d45 hS ha hf hs2n hoo hok hzw hdk fu3 hd2L hkq hz hth htd hd2 hs2 hev hq0 hq1 hkb hzo hto htr hzr fu1 fu2
 have B := Below.refl w.heap.size w
 go_enter Tryz.func106, Tryz.ntmps106
 go_wp2_with fail
 generalize hu1w : w.alloc _ = u1w
 have X := boxH hu1w
 have bz := boxB hu1w
 have zX := boxL hu1w
 clear hu1w
 replace B := zAb B bz
 clear bz
 have zXa := Nat.le_of_eq zX
 have zXb := Nat.le_of_eq zX.symm
 clear zX
 generalize hu2w : u1w.alloc _ = u2w
 have V := boxH hu2w
 have bz := boxB hu2w
 have zV := boxL hu2w
 clear hu2w
 rw [show u1w.heap.size = w.heap.size + 1 from by omega] at V
 replace B := zAb B bz
 replace X := zAa bz X
 clear bz
 have zVa := Nat.le_of_eq zV
 have zVb := Nat.le_of_eq zV.symm
 clear zV
 generalize hu3w : u2w.alloc _ = u3w
 have R := boxH hu3w
 have bz := boxB hu3w
 have zR := boxL hu3w
 clear hu3w
 rw [show u2w.heap.size = w.heap.size + 2 from by omega] at R
 replace B := zAb B bz
 replace X := zAa bz X
 replace V := zAa bz V
 clear bz
 have zRa := Nat.le_of_eq zR
 have zRb := Nat.le_of_eq zR.symm
 clear zR
 refine (KO.out _ B).mono ?_
 rintro e u4w ⟨rfl, bq⟩
 have tu4w : u3w.heap.size ≤ u4w.heap.size := bq.size
 replace B := zAb B bq
 replace X := zAa bq X
 replace V := zAa bq V
 replace R := zAa bq R
 clear bq
 obtain ⟨Xc0, Xc1, Xc2, Xc3, Xc4, Xc5, Xc6, Xc7, Xc8⟩ := zAc X
 have Xlt := (Array.getElem?_eq_some_iff.1 X).1
 obtain ⟨Vc0, Vc1, Vc2⟩ := zAg V
 have Vlt := (Array.getElem?_eq_some_iff.1 V).1
 obtain ⟨Rc0, Rc1, Rc2, Rc3, Rc4, Rc5, Rc6, Rc7, Rc8⟩ := zAc R
 have Rlt := (Array.getElem?_eq_some_iff.1 R).1
 go_upto_region 2 with fail
 clear Xc0 Xc1 Xc2 Xc3 Xc4 Xc5 Xc6 Xc7 Xc8 Xlt Vc0 Vc1 Vc2 Vlt Rc0 Rc1 Rc2 Rc3 Rc4 Rc5 Rc6 Rc7 Rc8 Rlt
 generalize hu5w : u4w.alloc _ = u5w
 have O := boxH hu5w
 have bz := boxB hu5w
 have zO := boxL hu5w
 clear hu5w
 replace B := zAb B bz
 replace X := zAa bz X
 replace V := zAa bz V
 replace R := zAa bz R
 clear bz
 have zOa := Nat.le_of_eq zO
 have zOb := Nat.le_of_eq zO.symm
 clear zO
 have HW2c : Hid (∀ n' : Cls (fun wx => Below u5w.heap.size u5w wx), Calls Tryz.prog 135 #[.slice au u.2.2.length cu, .int .i64 kq] n'.w fun e w' => e = .returned (.int .i64 z) ∧ Below n'.w.heap.size n'.w w') := fun n' => HW2.out _ (zAb B n'.h)
 obtain ⟨Xc0, Xc1, Xc2, Xc3, Xc4, Xc5, Xc6, Xc7, Xc8⟩ := zAc X
 have Xlt := (Array.getElem?_eq_some_iff.1 X).1
 obtain ⟨Vc0, Vc1, Vc2⟩ := zAg V
 have Vlt := (Array.getElem?_eq_some_iff.1 V).1
 obtain ⟨Rc0, Rc1, Rc2, Rc3, Rc4, Rc5, Rc6, Rc7, Rc8⟩ := zAc R
 have Rlt := (Array.getElem?_eq_some_iff.1 R).1
 obtain ⟨Oc0, Oc1, Oc2, Oc3⟩ := zB3 O
 have Olt := (Array.getElem?_eq_some_iff.1 O).1
 go_upto_region 2 with fail
 clear Xc0 Xc1 Xc2 Xc3 Xc4 Xc5 Xc6 Xc7 Xc8 Xlt Vc0 Vc1 Vc2 Vlt Rc0 Rc1 Rc2 Rc3 Rc4 Rc5 Rc6 Rc7 Rc8 Rlt Oc0 Oc1 Oc2 Oc3 Olt
 obtain ⟨Vc0, Vc1, Vc2⟩ := zAg V
 have Vk0 : ∀ n' : Cls (fun wx => Below u5w.heap.size u5w wx), n'.w.cell? ⟨w.heap.size + 1, 0, none⟩ = some (.int .i64 u.1) := fun n' => zAd n'.h Vc0 (zAi Vc0)
 have Vk1 : ∀ n' : Cls (fun wx => Below u5w.heap.size u5w wx), n'.w.cell? ⟨w.heap.size + 1, 1, none⟩ = some (.int .i64 u.2.1) := fun n' => zAd n'.h Vc1 (zAi Vc1)
 have Vk2 : ∀ n' : Cls (fun wx => Below u5w.heap.size u5w wx), n'.w.cell? ⟨w.heap.size + 1, 2, none⟩ = some (.slice au u.2.2.length cu) := fun n' => zAd n'.h Vc2 (zAi Vc2)
 clear Vc0 Vc1 Vc2
 obtain ⟨Oc0, Oc1, Oc2, Oc3⟩ := zB3 O
 have Ok0 : ∀ n' : Cls (fun wx => Below u5w.heap.size u5w wx), n'.w.cell? ⟨u4w.heap.size, 0, none⟩ = some (.int .i64 o.1) := fun n' => zAd n'.h Oc0 (zAi Oc0)
 have Ok1 : ∀ n' : Cls (fun wx => Below u5w.heap.size u5w wx), n'.w.cell? ⟨u4w.heap.size, 1, none⟩ = some (.int .i64 o.2.1) := fun n' => zAd n'.h Oc1 (zAi Oc1)
 have Ok2 : ∀ n' : Cls (fun wx => Below u5w.heap.size u5w wx), n'.w.cell? ⟨u4w.heap.size, 2, none⟩ = some (.int .i64 o.2.2.1) := fun n' => zAd n'.h Oc2 (zAi Oc2)
 have Ok3 : ∀ n' : Cls (fun wx => Below u5w.heap.size u5w wx), n'.w.cell? ⟨u4w.heap.size, 3, none⟩ = some (.int .i64 o.2.2.2) := fun n' => zAd n'.h Oc3 (zAi Oc3)
 clear Oc0 Oc1 Oc2 Oc3
 have HFX : Hid _ := And.intro B (And.intro X (And.intro V (And.intro R (O))))
 clear B X V R O
 refine zA8 (fun wx => Below u5w.heap.size u5w wx) (by kernel_rfl) (by kernel_rfl) ((Below.refl _ u5w).drew) ?_
 intro hne
 repeat (quiet_step (first | (go_at_call 136; exact zAz (HW1.out _) (fun w' hc bb => zAb hc bb)) | (go_at_call 135; exact zAz (HW2c.out _) (fun w' hc bb => zAb hc bb)) | (go_at_call 134; exact zAz (HD.out _) (fun w' hc bb => zAb hc bb))))
 refine wpQuiet_nil ?_
 intro u6w bq
 clear Vk0 Vk1 Vk2 Ok0 Ok1 Ok2 Ok3 hne
 obtain ⟨B, X, V, R, O⟩ := HFX.out
 clear HFX
 have tu6w : u5w.heap.size ≤ u6w.heap.size := bq.size
 replace B := zAb B bq
 replace X := zAa bq X
 replace V := zAa bq V
 replace R := zAa bq R
 replace O := zAa bq O
 clear bq
 clear HW2c
 obtain ⟨Xc0, Xc1, Xc2, Xc3, Xc4, Xc5, Xc6, Xc7, Xc8⟩ := zAc X
 have Xlt := (Array.getElem?_eq_some_iff.1 X).1
 obtain ⟨Vc0, Vc1, Vc2⟩ := zAg V
 have Vlt := (Array.getElem?_eq_some_iff.1 V).1
 obtain ⟨Rc0, Rc1, Rc2, Rc3, Rc4, Rc5, Rc6, Rc7, Rc8⟩ := zAc R
 have Rlt := (Array.getElem?_eq_some_iff.1 R).1
 obtain ⟨Oc0, Oc1, Oc2, Oc3⟩ := zB3 O
 have Olt := (Array.getElem?_eq_some_iff.1 O).1
 go_upto_region 3 with fail
 clear Xc0 Xc1 Xc2 Xc3 Xc4 Xc5 Xc6 Xc7 Xc8 Xlt Vc0 Vc1 Vc2 Vlt Rc0 Rc1 Rc2 Rc3 Rc4 Rc5 Rc6 Rc7 Rc8 Rlt Oc0 Oc1 Oc2 Oc3 Olt
 go_cut [27] (fun q27 wx => ∃ (nlo nhi : Nat) (pa : Option Addr) (pc : Nat), u6w.heap.size ≤ nlo ∧ nlo ≤ nhi ∧ zCp zA5 nlo nhi wx [.slice pa d2.length pc] (d2) ∧ Below w.heap.size w wx ∧ wx.heap[w.heap.size]? = some (.cells #[.slice a0 c.1.length c0, .slice b0 c.2.length d0, .slice a1 p.length c1, .int .i64 at_, .int .i64 ph, .int .i64 h.1, .int .i64 h.2.1, .slice a4 h.2.2.length c4, .slice a5 t.length c5] 41 (0, 0)) ∧ wx.heap[w.heap.size + 1]? = some (.cells #[.int .i64 u.1, .int .i64 u.2.1, .slice pa d2.length pc] 39 (0, 0)) ∧ wx.heap[w.heap.size + 2]? = some (.cells #[.slice none 0 0, .slice none 0 0, .slice none 0 0, .int .i64 0, .int .i64 0, .int .i64 0, .int .i64 0, .slice none 0 0, .slice none 0 0] 41 (0, 0)) ∧ wx.heap[u4w.heap.size]? = some (.cells #[.int .i64 o.1, .int .i64 o.2.1, .int .i64 o.2.2.1, .int .i64 o.2.2.2] 85 (0, 0)) ∧ u6w.heap.size ≤ wx.heap.size)
 case first =>
  have sz0 := Nat.le_refl u6w.heap.size
  replace B := B.drew
  obtain ⟨Vc0, Vc1, Vc2⟩ := zAg V
  have Vlt := (Array.getElem?_eq_some_iff.1 V).1
  obtain ⟨Vf0, Vf1, Vf2⟩ := zEO V
  obtain ⟨Oc0, Oc1, Oc2, Oc3⟩ := zB3 O
  have Olt := (Array.getElem?_eq_some_iff.1 O).1
  go_region_with (first | (go_at_call 136; refine (HW1.out _).mono ?_; rintro e wq ⟨rfl, mb⟩; replace sz0 := Nat.le_trans sz0 mb.size; replace B := zAb B mb; replace X := zAa mb X; replace V := zAa mb V; replace R := zAa mb R; replace O := zAa mb O; clear mb; clear Vc0 Vc1 Vc2 Vlt Vf0 Vf1 Vf2 Oc0 Oc1 Oc2 Oc3 Olt; obtain ⟨Vc0, Vc1, Vc2⟩ := zAg V; have Vlt := (Array.getElem?_eq_some_iff.1 V).1; obtain ⟨Vf0, Vf1, Vf2⟩ := zEO V; obtain ⟨Oc0, Oc1, Oc2, Oc3⟩ := zB3 O; have Olt := (Array.getElem?_eq_some_iff.1 O).1) | (go_at_call 137; refine (HP.out _ B).mono ?_; rintro e wq ⟨pa, pc, rfl, mm⟩; have D := zAR (R := zA5) mm; have mb := mm.2; have nlo := sz0; have nhi := mb.size; replace sz0 := Nat.le_trans sz0 mb.size; replace B := zAb B mb; replace X := zAa mb X; replace V := zAa mb V; replace R := zAa mb R; replace O := zAa mb O; clear mb mm; clear Vc0 Vc1 Vc2 Vlt Vf0 Vf1 Vf2 Oc0 Oc1 Oc2 Oc3 Olt; obtain ⟨Vc0, Vc1, Vc2⟩ := zAg V; have Vlt := (Array.getElem?_eq_some_iff.1 V).1; obtain ⟨Vf0, Vf1, Vf2⟩ := zEO V; obtain ⟨Oc0, Oc1, Oc2, Oc3⟩ := zB3 O; have Olt := (Array.getElem?_eq_some_iff.1 O).1))
  all_goals
   go_wp2_with fail
   go_meet
   exact ⟨_, _, _, _, nlo, nhi, zAw (g := w.heap.size + 1) (o := 2) (vs := [.slice pa d2.length pc]) D (by omega), zAv (g := w.heap.size + 1) (o := 2) (vs := [.slice pa d2.length pc]) B (by omega), zAk (g := w.heap.size + 1) (o := 2) (vs := [.slice pa d2.length pc]) X (by omega), zAC (g := w.heap.size + 1) [.slice pa d2.length pc] 2 V, zAk (g := w.heap.size + 1) (o := 2) (vs := [.slice pa d2.length pc]) R (by omega), zAk (g := w.heap.size + 1) (o := 2) (vs := [.slice pa d2.length pc]) O (by omega), Nat.le_trans sz0 (Nat.le_of_eq (zAj (g := w.heap.size + 1) [.slice pa d2.length pc] 2 _).symm)⟩
 case rest =>
  clear B X V R O
  obtain ⟨nlo, nhi, pa, pc, nl1, nl2, D, B, X, V, R, O, tu7w⟩ := hcut
  generalize wc = u7w at B X V R O tu7w D ⊢
  obtain ⟨Xc0, Xc1, Xc2, Xc3, Xc4, Xc5, Xc6, Xc7, Xc8⟩ := zAc X
  have Xlt := (Array.getElem?_eq_some_iff.1 X).1
  obtain ⟨Vc0, Vc1, Vc2⟩ := zAg V
  have Vlt := (Array.getElem?_eq_some_iff.1 V).1
  obtain ⟨Rc0, Rc1, Rc2, Rc3, Rc4, Rc5, Rc6, Rc7, Rc8⟩ := zAc R
  have Rlt := (Array.getElem?_eq_some_iff.1 R).1
  obtain ⟨Oc0, Oc1, Oc2, Oc3⟩ := zB3 O
  have Olt := (Array.getElem?_eq_some_iff.1 O).1
  go_upto_region 4 with fail
  clear Xc0 Xc1 Xc2 Xc3 Xc4 Xc5 Xc6 Xc7 Xc8 Xlt Vc0 Vc1 Vc2 Vlt Rc0 Rc1 Rc2 Rc3 Rc4 Rc5 Rc6 Rc7 Rc8 Rlt Oc0 Oc1 Oc2 Oc3 Olt
  go_cut [36] (fun q36 wx => Below w.heap.size w wx ∧ wx.heap[w.heap.size]? = some (.cells #[.slice a0 c.1.length c0, .slice b0 c.2.length d0, .slice a1 p.length c1, .int .i64 at_, .int .i64 ph, .int .i64 h.1, .int .i64 h.2.1, .slice a4 h.2.2.length c4, .slice a5 t.length c5] 41 (0, 0)) ∧ wx.heap[w.heap.size + 1]? = some (.cells #[.int .i64 u.1, .int .i64 s2, .slice pa d2.length pc] 39 (0, 0)) ∧ wx.heap[w.heap.size + 2]? = some (.cells #[.slice none 0 0, .slice none 0 0, .slice none 0 0, .int .i64 0, .int .i64 0, .int .i64 0, .int .i64 0, .slice none 0 0, .slice none 0 0] 41 (0, 0)) ∧ wx.heap[u4w.heap.size]? = some (.cells #[.int .i64 o.1, .int .i64 o.2.1, .int .i64 o.2.2.1, .int .i64 o.2.2.2] 85 (0, 0)) ∧ zCp zA5 (nlo) (nhi) wx [.slice pa d2.length pc] (d2) ∧ u7w.heap.size ≤ wx.heap.size)
  case first =>
   have sz0 := Nat.le_refl u7w.heap.size
   replace B := B.drew
   replace D := zCJ D
   obtain ⟨Vc0, Vc1, Vc2⟩ := zAg V
   have Vlt := (Array.getElem?_eq_some_iff.1 V).1
   obtain ⟨Vf0, Vf1, Vf2⟩ := zEO V
   obtain ⟨Oc0, Oc1, Oc2, Oc3⟩ := zB3 O
   have Olt := (Array.getElem?_eq_some_iff.1 O).1
   go_region_with (first | (go_at_call 138; refine (HE.out _).mono ?_; rintro e wq ⟨rfl, mb⟩; replace sz0 := Nat.le_trans sz0 mb.size; replace B := zAb B mb; replace X := zAa mb X; replace V := zAa mb V; replace R := zAa mb R; replace O := zAa mb O; replace D := zA6 D mb; clear mb; clear Vc0 Vc1 Vc2 Vlt Vf0 Vf1 Vf2 Oc0 Oc1 Oc2 Oc3 Olt; obtain ⟨Vc0, Vc1, Vc2⟩ := zAg V; have Vlt := (Array.getElem?_eq_some_iff.1 V).1; obtain ⟨Vf0, Vf1, Vf2⟩ := zEO V; obtain ⟨Oc0, Oc1, Oc2, Oc3⟩ := zB3 O; have Olt := (Array.getElem?_eq_some_iff.1 O).1) | (go_at_call 126; refine (HN.out _).mono ?_; rintro e wq ⟨rfl, mb⟩; replace sz0 := Nat.le_trans sz0 mb.size; replace B := zAb B mb; replace X := zAa mb X; replace V := zAa mb V; replace R := zAa mb R; replace O := zAa mb O; replace D := zA6 D mb; clear mb; clear Vc0 Vc1 Vc2 Vlt Vf0 Vf1 Vf2 Oc0 Oc1 Oc2 Oc3 Olt; obtain ⟨Vc0, Vc1, Vc2⟩ := zAg V; have Vlt := (Array.getElem?_eq_some_iff.1 V).1; obtain ⟨Vf0, Vf1, Vf2⟩ := zEO V; obtain ⟨Oc0, Oc1, Oc2, Oc3⟩ := zB3 O; have Olt := (Array.getElem?_eq_some_iff.1 O).1))
   all_goals
    go_wp2_with fail
    go_meet
    exact ⟨zAv (g := w.heap.size + 1) (o := 1) (vs := [.int .i64 s2]) B (by omega), zAk (g := w.heap.size + 1) (o := 1) (vs := [.int .i64 s2]) X (by omega), zAC (g := w.heap.size + 1) [.int .i64 s2] 1 V, zAk (g := w.heap.size + 1) (o := 1) (vs := [.int .i64 s2]) R (by omega), zAk (g := w.heap.size + 1) (o := 1) (vs := [.int .i64 s2]) O (by omega), zAw (g := w.heap.size + 1) (o := 1) (vs := [.int .i64 s2]) D (by omega), Nat.le_trans sz0 (Nat.le_of_eq (zAj (g := w.heap.size + 1) [.int .i64 s2] 1 _).symm)⟩
  case rest =>
   clear B X V R O D
   obtain ⟨B, X, V, R, O, D, tu8w⟩ := hcut
   generalize wc = u8w at B X V R O D tu8w ⊢
   obtain ⟨Xc0, Xc1, Xc2, Xc3, Xc4, Xc5, Xc6, Xc7, Xc8⟩ := zAc X
   have Xlt := (Array.getElem?_eq_some_iff.1 X).1
   obtain ⟨Vc0, Vc1, Vc2⟩ := zAg V
   have Vlt := (Array.getElem?_eq_some_iff.1 V).1
   obtain ⟨Rc0, Rc1, Rc2, Rc3, Rc4, Rc5, Rc6, Rc7, Rc8⟩ := zAc R
   have Rlt := (Array.getElem?_eq_some_iff.1 R).1
   obtain ⟨Oc0, Oc1, Oc2, Oc3⟩ := zB3 O
   have Olt := (Array.getElem?_eq_some_iff.1 O).1
   go_wp2_with fail
   clear Xc0 Xc1 Xc2 Xc3 Xc4 Xc5 Xc6 Xc7 Xc8 Xlt Vc0 Vc1 Vc2 Vlt Rc0 Rc1 Rc2 Rc3 Rc4 Rc5 Rc6 Rc7 Rc8 Rlt Oc0 Oc1 Oc2 Oc3 Olt
   refine (HF.out _ pa pc B (zA5.own_rd D.1)).mono ?_
   rintro e u9w ⟨ds, rfl, mm⟩
   obtain ⟨na, nb, nc, nd, rfl, -, -, -, -, -, -⟩ := zAH (zAB.own_rd mm.1)
   rw [show zAM [.slice na fc.1.1.length nb, .slice nc fc.1.2.length nd] = .agg #[.slice na fc.1.1.length nb, .slice nc fc.1.2.length nd] from rfl]
   have P := zAR (R := zAB) mm
   have mb := mm.2
   have tu9w : u8w.heap.size ≤ u9w.heap.size := mb.size
   replace B := zAb B mb
   replace X := zAa mb X
   replace V := zAa mb V
   replace R := zAa mb R
   replace O := zAa mb O
   replace D := zA6 D mb
   clear mb mm
   obtain ⟨Xc0, Xc1, Xc2, Xc3, Xc4, Xc5, Xc6, Xc7, Xc8⟩ := zAc X
   have Xlt := (Array.getElem?_eq_some_iff.1 X).1
   obtain ⟨Xf0, Xf1, Xf2, Xf3, Xf4, Xf5, Xf6, Xf7, Xf8⟩ := zAr X
   obtain ⟨Vc0, Vc1, Vc2⟩ := zAg V
   have Vlt := (Array.getElem?_eq_some_iff.1 V).1
   obtain ⟨Rc0, Rc1, Rc2, Rc3, Rc4, Rc5, Rc6, Rc7, Rc8⟩ := zAc R
   have Rlt := (Array.getElem?_eq_some_iff.1 R).1
   obtain ⟨Oc0, Oc1, Oc2, Oc3⟩ := zB3 O
   have Olt := (Array.getElem?_eq_some_iff.1 O).1
   go_upto_region 6 with fail
   clear Xc0 Xc1 Xc2 Xc3 Xc4 Xc5 Xc6 Xc7 Xc8 Xlt Xf0 Xf1 Xf2 Xf3 Xf4 Xf5 Xf6 Xf7 Xf8 Vc0 Vc1 Vc2 Vlt Rc0 Rc1 Rc2 Rc3 Rc4 Rc5 Rc6 Rc7 Rc8 Rlt Oc0 Oc1 Oc2 Oc3 Olt
   rw [show ((u9w.setCell ⟨w.heap.size, 0, none⟩ (.slice na fc.1.1.length nb)).setCell ⟨w.heap.size, 1, none⟩ (.slice nc fc.1.2.length nd)) = (zAo u9w (w.heap.size) 0 [.slice na fc.1.1.length nb, .slice nc fc.1.2.length nd]) from rfl]
   replace V := zAk (g := w.heap.size) (o := 0) (vs := [.slice na fc.1.1.length nb, .slice nc fc.1.2.length nd]) V (by omega)
   replace R := zAk (g := w.heap.size) (o := 0) (vs := [.slice na fc.1.1.length nb, .slice nc fc.1.2.length nd]) R (by omega)
   replace O := zAk (g := w.heap.size) (o := 0) (vs := [.slice na fc.1.1.length nb, .slice nc fc.1.2.length nd]) O (by omega)
   replace D := zAw (g := w.heap.size) (o := 0) (vs := [.slice na fc.1.1.length nb, .slice nc fc.1.2.length nd]) D (by omega)
   replace P := zAw (g := w.heap.size) (o := 0) (vs := [.slice na fc.1.1.length nb, .slice nc fc.1.2.length nd]) P (by omega)
   replace B := zAv (g := w.heap.size) (o := 0) (vs := [.slice na fc.1.1.length nb, .slice nc fc.1.2.length nd]) B (by omega)
   replace X : (zAo u9w (w.heap.size) 0 [.slice na fc.1.1.length nb, .slice nc fc.1.2.length nd]).heap[w.heap.size]? = some (.cells #[.slice na fc.1.1.length nb, .slice nc fc.1.2.length nd, .slice a1 p.length c1, .int .i64 at_, .int .i64 ph, .int .i64 h.1, .int .i64 h.2.1, .slice a4 h.2.2.length c4, .slice a5 t.length c5] 41 (0, 0)) := zAC _ _ X
   have tu10w := Nat.le_of_eq (zAj (g := w.heap.size) [.slice na fc.1.1.length nb, .slice nc fc.1.2.length nd] 0 u9w)
   have qu10w := Nat.le_of_eq (zAj (g := w.heap.size) [.slice na fc.1.1.length nb, .slice nc fc.1.2.length nd] 0 u9w).symm
   generalize (zAo u9w (w.heap.size) 0 [.slice na fc.1.1.length nb, .slice nc fc.1.2.length nd]) = u10w at B X V R O D P tu10w qu10w ⊢
   obtain ⟨o1, o4, o5, sb0, sb1, sb4, sb5, d01, d04, d05, d14, d15, d45⟩ := HOW.out
   have hS := HSS.out
   replace o1 := zBX.own_keep o1 (zAh B)
   replace o4 := zAS.own_keep o4 (zAh B)
   have o5w := zA5.own_keep o5 (zAh B)
   have HX9 : Hid _ := And.intro o1 (And.intro o4 (And.intro sb0 (And.intro sb1 (And.intro sb4 (And.intro sb5 (And.intro d01 (And.intro d04 (And.intro d05 (And.intro d14 (And.intro d15 (And.intro d45 hS)))))))))))
   clear o1 o4 o5 sb0 sb1 sb4 sb5 d01 d04 d05 d14 d15 d45 hS HOW
   obtain ⟨Xc0, Xc1, Xc2, Xc3, Xc4, Xc5, Xc6, Xc7, Xc8⟩ := zAc X
   have Xlt := (Array.getElem?_eq_some_iff.1 X).1
   obtain ⟨Xf0, Xf1, Xf2, Xf3, Xf4, Xf5, Xf6, Xf7, Xf8⟩ := zAr X
   obtain ⟨Vc0, Vc1, Vc2⟩ := zAg V
   have Vlt := (Array.getElem?_eq_some_iff.1 V).1
   obtain ⟨Rc0, Rc1, Rc2, Rc3, Rc4, Rc5, Rc6, Rc7, Rc8⟩ := zAc R
   have Rlt := (Array.getElem?_eq_some_iff.1 R).1
   obtain ⟨Oc0, Oc1, Oc2, Oc3⟩ := zB3 O
   have Olt := (Array.getElem?_eq_some_iff.1 O).1
   go_wp2_with (at_builtin; refine zEY (w := u10w) rfl _ _ rfl S5 (.slice a5 t.length c5) t td htd64 rfl u10w.heap.size 1 rfl rfl o5w (by omega) ?_)
   clear Xc0 Xc1 Xc2 Xc3 Xc4 Xc5 Xc6 Xc7 Xc8 Xlt Xf0 Xf1 Xf2 Xf3 Xf4 Xf5 Xf6 Xf7 Xf8 Vc0 Vc1 Vc2 Vlt Rc0 Rc1 Rc2 Rc3 Rc4 Rc5 Rc6 Rc7 Rc8 Rlt Oc0 Oc1 Oc2 Oc3 Olt
   intro gt ct wt NT NC
   have hP2 := P.2
   obtain ⟨o1, o4, sb0, sb1, sb4, sb5, d01, d04, d05, d14, d15, d45, hS⟩ := HX9.out
   have nS : ∀ k, w.heap.size ≤ k → ¬ Old u10w S5 k := fun k hk h => by have := hS k (sb5 k h.1); omega
   have X2 := (NC.block _ (Array.getElem?_eq_some_iff.1 X).1 (nS _ (by omega))).trans X
   have R2 := (NC.block _ (Array.getElem?_eq_some_iff.1 R).1 (nS _ (by omega))).trans R
   have P2 := zAO P.1 NC (fun k h1 h2 => nS k (by have := h1.1; omega) h2)
   have q1 := zAO o1 NC (fun k h1 h2 => d15 k h1 h2.1)
   have q4 := zAO o4 NC (fun k h1 h2 => d45 k h1 h2.1)
   have CH : Chg S w wt := (zA9 (S := S) B).trans (NC.mono fun k hk => sb5 k hk.1)
   have szt := NC.size
   have HZ : Hid _ := And.intro X2 (And.intro R2 (And.intro P2 (And.intro q1 (And.intro q4 (And.intro NT CH)))))
   clear X R V O B D P NC o1 o4 sb0 sb1 sb4 sb5 d01 d04 d05 d14 d15 d45 o5w HZ
   obtain ⟨y0, y1, y2, y3, y4, y5, y6, y7, y8⟩ := zAc X2
   obtain ⟨yf0, yf1, yf2, yf3, yf4, yf5, yf6, yf7, yf8⟩ := zAr X2
   have ylt := (Array.getElem?_eq_some_iff.1 X2).1
   obtain ⟨z0, z1, z2, z3, z4, z5, z6, z7, z8⟩ := zAc R2
   obtain ⟨zf0, zf1, zf2, zf3, zf4, zf5, zf6, zf7, zf8⟩ := zAr R2
   have zlt := (Array.getElem?_eq_some_iff.1 R2).1
   have HZ : Hid _ := And.intro X2 (And.intro R2 (And.intro P2 (And.intro q1 (And.intro q4 (And.intro NT (CH))))))
   clear X2 R2 P2 q1 q4 NT CH
   go_upto_region 7 with fail
   clear y0 y1 y2 y3 y4 y5 y6 y7 y8 yf0 yf1 yf2 yf3 yf4 yf5 yf6 yf7 yf8 ylt z0 z1 z2 z3 z4 z5 z6 z7 z8 zf0 zf1 zf2 zf3 zf4 zf5 zf6 zf7 zf8 zlt
   obtain ⟨X2, R2, P2, q1, q4, NT, CH⟩ := HZ.out
   clear HZ
   obtain ⟨-, -, sb0, sb1, sb4, sb5, d01, d04, d05, d14, d15, d45, hS⟩ := HX9.out
   rw [show wt.setCell ⟨w.heap.size, 8, none⟩ (.slice (some ⟨gt, 0, none⟩) (t.length + 1) ct) = (zAo wt w.heap.size 8 [.slice (some ⟨gt, 0, none⟩) (t.length + 1) ct]) from rfl]
   replace X2 : (zAo wt w.heap.size 8 [.slice (some ⟨gt, 0, none⟩) (t.length + 1) ct]).heap[w.heap.size]? = some (.cells #[.slice na fc.1.1.length nb, .slice nc fc.1.2.length nd, .slice a1 p.length c1, .int .i64 at_, .int .i64 ph, .int .i64 h.1, .int .i64 h.2.1, .slice a4 h.2.2.length c4, .slice (some ⟨gt, 0, none⟩) (t.length + 1) ct] 41 (0, 0)) := zAC _ _ X2
   replace R2 := zAk (g := w.heap.size) (o := 8) (vs := [.slice (some ⟨gt, 0, none⟩) (t.length + 1) ct]) R2 (by omega)
   replace P2 := zAs (g := w.heap.size) (o := 8) (vs := [.slice (some ⟨gt, 0, none⟩) (t.length + 1) ct]) P2 (fun hh => by have := hh.1; have := hh.2; omega)
   replace q1 := zAs (g := w.heap.size) (o := 8) (vs := [.slice (some ⟨gt, 0, none⟩) (t.length + 1) ct]) q1 (fun hh => by have := hS _ (sb1 _ hh); omega)
   replace q4 := zAs (g := w.heap.size) (o := 8) (vs := [.slice (some ⟨gt, 0, none⟩) (t.length + 1) ct]) q4 (fun hh => by have := hS _ (sb4 _ hh); omega)
   replace NT := zAs (g := w.heap.size) (o := 8) (vs := [.slice (some ⟨gt, 0, none⟩) (t.length + 1) ct]) NT (fun hh => by rcases hh with hh | hh; (have := hS _ (sb5 _ hh.1); omega); (have := hh.1; omega))
   replace CH := zBg (g := w.heap.size) (o := 8) (vs := [.slice (some ⟨gt, 0, none⟩) (t.length + 1) ct]) CH (Nat.le_refl _)
   have swua := Nat.le_of_eq (zAj (g := w.heap.size) [.slice (some ⟨gt, 0, none⟩) (t.length + 1) ct] 8 wt)
   have swub := Nat.le_of_eq (zAj (g := w.heap.size) [.slice (some ⟨gt, 0, none⟩) (t.length + 1) ct] 8 wt).symm
   generalize (zAo wt w.heap.size 8 [.slice (some ⟨gt, 0, none⟩) (t.length + 1) ct]) = wu at X2 R2 P2 q1 q4 NT CH swua swub ⊢
   clear sb0 sb1 sb4 sb5 d01 d04 d05 d14 d15 d45 hS
   obtain ⟨y0, y1, y2, y3, y4, y5, y6, y7, y8⟩ := zAc X2
   obtain ⟨yf0, yf1, yf2, yf3, yf4, yf5, yf6, yf7, yf8⟩ := zAr X2
   have ylt := (Array.getElem?_eq_some_iff.1 X2).1
   obtain ⟨z0, z1, z2, z3, z4, z5, z6, z7, z8⟩ := zAc R2
   obtain ⟨zf0, zf1, zf2, zf3, zf4, zf5, zf6, zf7, zf8⟩ := zAr R2
   have zlt := (Array.getElem?_eq_some_iff.1 R2).1
   have HZ : Hid _ := And.intro X2 (And.intro R2 (And.intro P2 (And.intro q1 (And.intro q4 (And.intro NT (CH))))))
   clear X2 R2 P2 q1 q4 NT CH
   go_upto_region 8 with fail
   clear y0 y1 y2 y3 y4 y5 y6 y7 y8 yf0 yf1 yf2 yf3 yf4 yf5 yf6 yf7 yf8 ylt z0 z1 z2 z3 z4 z5 z6 z7 z8 zf0 zf1 zf2 zf3 zf4 zf5 zf6 zf7 zf8 zlt
   obtain ⟨X2, R2, P2, q1, q4, NT, CH⟩ := HZ.out
   clear HZ
   obtain ⟨-, -, sb0, sb1, sb4, sb5, d01, d04, d05, d14, d15, d45, hS⟩ := HX9.out
   rw [show wu.setCell ⟨w.heap.size, 3, none⟩ (.int .i64 (at_ + 1)) = (zAo wu w.heap.size 3 [.int .i64 (at_ + 1)]) from rfl]
   replace X2 : (zAo wu w.heap.size 3 [.int .i64 (at_ + 1)]).heap[w.heap.size]? = some (.cells #[.slice na fc.1.1.length nb, .slice nc fc.1.2.length nd, .slice a1 p.length c1, .int .i64 (at_ + 1), .int .i64 ph, .int .i64 h.1, .int .i64 h.2.1, .slice a4 h.2.2.length c4, .slice (some ⟨gt, 0, none⟩) (t.length + 1) ct] 41 (0, 0)) := zAC _ _ X2
   replace R2 := zAk (g := w.heap.size) (o := 3) (vs := [.int .i64 (at_ + 1)]) R2 (by omega)
   replace P2 := zAs (g := w.heap.size) (o := 3) (vs := [.int .i64 (at_ + 1)]) P2 (fun hh => by have := hh.1; have := hh.2; omega)
   replace q1 := zAs (g := w.heap.size) (o := 3) (vs := [.int .i64 (at_ + 1)]) q1 (fun hh => by have := hS _ (sb1 _ hh); omega)
   replace q4 := zAs (g := w.heap.size) (o := 3) (vs := [.int .i64 (at_ + 1)]) q4 (fun hh => by have := hS _ (sb4 _ hh); omega)
   replace NT := zAs (g := w.heap.size) (o := 3) (vs := [.int .i64 (at_ + 1)]) NT (fun hh => by rcases hh with hh | hh; (have := hS _ (sb5 _ hh.1); omega); (have := hh.1; omega))
   replace CH := zBg (g := w.heap.size) (o := 3) (vs := [.int .i64 (at_ + 1)]) CH (Nat.le_refl _)
   have swva := Nat.le_of_eq (zAj (g := w.heap.size) [.int .i64 (at_ + 1)] 3 wu)
   have swvb := Nat.le_of_eq (zAj (g := w.heap.size) [.int .i64 (at_ + 1)] 3 wu).symm
   generalize (zAo wu w.heap.size 3 [.int .i64 (at_ + 1)]) = wv at X2 R2 P2 q1 q4 NT CH swva swvb ⊢
   clear sb0 sb1 sb4 sb5 d01 d04 d05 d14 d15 d45 hS
   obtain ⟨y0, y1, y2, y3, y4, y5, y6, y7, y8⟩ := zAc X2
   obtain ⟨yf0, yf1, yf2, yf3, yf4, yf5, yf6, yf7, yf8⟩ := zAr X2
   have ylt := (Array.getElem?_eq_some_iff.1 X2).1
   obtain ⟨z0, z1, z2, z3, z4, z5, z6, z7, z8⟩ := zAc R2
   obtain ⟨zf0, zf1, zf2, zf3, zf4, zf5, zf6, zf7, zf8⟩ := zAr R2
   have zlt := (Array.getElem?_eq_some_iff.1 R2).1
   have HZ : Hid _ := And.intro X2 (And.intro R2 (And.intro P2 (And.intro q1 (And.intro q4 (And.intro NT (CH))))))
   clear X2 R2 P2 q1 q4 NT CH
   go_wp2
   clear y0 y1 y2 y3 y4 y5 y6 y7 y8 yf0 yf1 yf2 yf3 yf4 yf5 yf6 yf7 yf8 ylt z0 z1 z2 z3 z4 z5 z6 z7 z8 zf0 zf1 zf2 zf3 zf4 zf5 zf6 zf7 zf8 zlt
   obtain ⟨X2, R2, P2, q1, q4, NT, CH⟩ := HZ.out
   clear HZ
   obtain ⟨-, -, sb0, sb1, sb4, sb5, d01, d04, d05, d14, d15, d45, hS⟩ := HX9.out
   obtain ⟨r0, r1, r2, r3, r4, r5, r6, r7, r8⟩ := zAc (zAV (y0 := .slice na fc.1.1.length nb) (y1 := .slice nc fc.1.2.length nd) (y2 := .slice a1 p.length c1) (y3 := .int .i64 (at_ + 1)) (y4 := .int .i64 ph) (y5 := .int .i64 h.1) (y6 := .int .i64 h.2.1) (y7 := .slice a4 h.2.2.length c4) (y8 := .slice (some ⟨gt, 0, none⟩) (t.length + 1) ct) R2)
   have fsz : (zAo wv (w.heap.size + 2) 0 [.slice na fc.1.1.length nb, .slice nc fc.1.2.length nd, .slice a1 p.length c1, .int .i64 (at_ + 1), .int .i64 ph, .int .i64 h.1, .int .i64 h.2.1, .slice a4 h.2.2.length c4, .slice (some ⟨gt, 0, none⟩) (t.length + 1) ct]).heap.size = wv.heap.size := zAj _ _ _
   have FO : zAn.own (zAo wv (w.heap.size + 2) 0 [.slice na fc.1.1.length nb, .slice nc fc.1.2.length nd, .slice a1 p.length c1, .int .i64 (at_ + 1), .int .i64 ph, .int .i64 h.1, .int .i64 h.2.1, .slice a4 h.2.2.length c4, .slice (some ⟨gt, 0, none⟩) (t.length + 1) ct]) (fun k => S k ∨ (w.heap.size ≤ k ∧ k < (zAo wv (w.heap.size + 2) 0 [.slice na fc.1.1.length nb, .slice nc fc.1.2.length nd, .slice a1 p.length c1, .int .i64 (at_ + 1), .int .i64 ph, .int .i64 h.1, .int .i64 h.2.1, .slice a4 h.2.2.length c4, .slice (some ⟨gt, 0, none⟩) (t.length + 1) ct]).heap.size)) [.slice na fc.1.1.length nb, .slice nc fc.1.2.length nd, .slice a1 p.length c1, .int .i64 (at_ + 1), .int .i64 ph, .int .i64 h.1, .int .i64 h.2.1, .slice a4 h.2.2.length c4, .slice (some ⟨gt, 0, none⟩) (t.length + 1) ct] (fc.1, p, at_ + 1, ph, h, t ++ [td]) := by
    rw [fsz]
    refine zCo (x := (fc.1, p, at_ + 1, ph, h, t ++ [td])) (show zBk (at_ + 1) from ⟨by omega, by omega⟩) hia.2 (zAs (g := w.heap.size + 2) (o := 0) (vs := [.slice na fc.1.1.length nb, .slice nc fc.1.2.length nd, .slice a1 p.length c1, .int .i64 (at_ + 1), .int .i64 ph, .int .i64 h.1, .int .i64 h.2.1, .slice a4 h.2.2.length c4, .slice (some ⟨gt, 0, none⟩) (t.length + 1) ct]) P2 (fun hh => by have := hh.1; have := hh.2; omega)) (zAs (g := w.heap.size + 2) (o := 0) (vs := [.slice na fc.1.1.length nb, .slice nc fc.1.2.length nd, .slice a1 p.length c1, .int .i64 (at_ + 1), .int .i64 ph, .int .i64 h.1, .int .i64 h.2.1, .slice a4 h.2.2.length c4, .slice (some ⟨gt, 0, none⟩) (t.length + 1) ct]) q1 (fun hh => by have := hS _ (sb1 _ hh); omega)) (zAs (g := w.heap.size + 2) (o := 0) (vs := [.slice na fc.1.1.length nb, .slice nc fc.1.2.length nd, .slice a1 p.length c1, .int .i64 (at_ + 1), .int .i64 ph, .int .i64 h.1, .int .i64 h.2.1, .slice a4 h.2.2.length c4, .slice (some ⟨gt, 0, none⟩) (t.length + 1) ct]) q4 (fun hh => by have := hS _ (sb4 _ hh); omega)) (zAs (g := w.heap.size + 2) (o := 0) (vs := [.slice na fc.1.1.length nb, .slice nc fc.1.2.length nd, .slice a1 p.length c1, .int .i64 (at_ + 1), .int .i64 ph, .int .i64 h.1, .int .i64 h.2.1, .slice a4 h.2.2.length c4, .slice (some ⟨gt, 0, none⟩) (t.length + 1) ct]) NT (fun hh => by rcases hh with hh | hh; (have := hS _ (sb5 _ hh.1); omega); (have := hh.1; omega))) (fun k hh => .inr ⟨by have := hh.1; omega, by have := hh.2; omega⟩) (fun k hh => .inl (sb1 k hh)) (fun k hh => .inl (sb4 k hh)) (fun k hh => ?_) (fun k ha hb => ?_) (fun k ha hb => ?_) (fun k ha hb => ?_) d14 (fun k ha hb => ?_) (fun k ha hb => ?_)
    ·rcases hh with hh | hh
     ·exact .inl (sb5 k hh.1)
     ·exact .inr ⟨by have := hh.1; omega, by have := hh.2; omega⟩
    ·have := hS k (sb1 k hb)
     have := ha.1
     omega
    ·have := hS k (sb4 k hb)
     have := ha.1
     omega
    ·rcases hb with hb | hb
     ·have := hS k (sb5 k hb.1)
      have := ha.1
      omega
     ·have := hb.1
      have := ha.2
      omega
    ·rcases hb with hb | hb
     ·exact d15 k ha hb.1
     ·have := hS k (sb1 k ha)
      have := hb.1
      omega
    ·rcases hb with hb | hb
     ·exact d45 k ha hb.1
     ·have := hS k (sb4 k ha)
      have := hb.1
      omega
   have FC : Chg S w (zAo wv (w.heap.size + 2) 0 [.slice na fc.1.1.length nb, .slice nc fc.1.2.length nd, .slice a1 p.length c1, .int .i64 (at_ + 1), .int .i64 ph, .int .i64 h.1, .int .i64 h.2.1, .slice a4 h.2.2.length c4, .slice (some ⟨gt, 0, none⟩) (t.length + 1) ct]) := zBg CH (by omega)
   clear X2 R2 P2 q1 q4 NT CH HX9
   exact bodyPost_ret (v := .agg #[.slice na fc.1.1.length nb, .slice nc fc.1.2.length nd, .slice a1 p.length c1, .int .i64 (at_ + 1), .int .i64 ph, .int .i64 h.1, .int .i64 h.2.1, .slice a4 h.2.2.length c4, .slice (some ⟨gt, 0, none⟩) (t.length + 1) ct]) (by simp [results, Tryz.results106, go_sem, r0, r1, r2, r3, r4, r5, r6, r7, r8]) rfl ⟨[.slice na fc.1.1.length nb, .slice nc fc.1.2.length nd, .slice a1 p.length c1, .int .i64 (at_ + 1), .int .i64 ph, .int .i64 h.1, .int .i64 h.2.1, .slice a4 h.2.2.length c4, .slice (some ⟨gt, 0, none⟩) (t.length + 1) ct], rfl, FO, FC⟩
end Go.Proofs.YtoihjejenjcokaaGreatDoor
