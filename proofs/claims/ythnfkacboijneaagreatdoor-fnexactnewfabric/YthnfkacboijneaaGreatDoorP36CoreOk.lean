import Derived.Test.YthnfkacboijneaaGreatDoorP25CoreU
import Derived.Test.YthnfkacboijneaaGreatDoorP22OkLink
import Derived.Test.YthnfkacboijneaaGreatDoorP35OpsBad
import Derived.Test.YthnfkacboijneaaGreatDoorP10Ops
import Derived.Test.YthnfkacboijneaaGreatDoorP12Prog11
namespace Go.Proofs.YthnfkacboijneaaGreatDoor
open Go.ChangeShapes Go.WideShapes Go.ChangeAt Go.RowKit
set_option linter.unusedVariables false
def goneB (u : WayD) : Bool := betw u.1 0 15 && (decide (u.2.1 = 0) && decide (u.2.2.length = 0))
noncomputable def restC (x : CoreD) : Bool := if x.2.2.2.1 = 1 then (goneB x.2.2.2.2.1 || fullB isL x.2.2.2.2.1) && decide (atC x.1 x.2.2.2.2.1.1 = none) else clearB x.2.2.2.2.1
noncomputable def coreB (x : CoreD) : Bool := okB isL treeB x.1 && (decide (x.2.1.length ≤ 30) && (betw x.2.2.1 0 x.2.1.length && (decide ((x.2.2.2.2.2.length : Int) = x.2.2.1) && (betw x.2.2.2.1 0 2 && (!(decide (x.2.2.2.1 = 2) && decide (x.2.2.1 = (x.2.1.length : Int))) && (x.2.1.all opOkD && restC x))))))
theorem idx_neg (o : Option Nat) : decide (idxI o < 0) = decide (o = none) := by
 cases o with
 | none => rfl
 | some i => exact (decide_eq_false (show ¬ ((i : Int) < 0) by omega)).trans (decide_eq_false (by simp)).symm
theorem rows_len {w : World} {a : Option Addr} {xs : List (List WayD)} (h : SlRd waysR w a xs) : ∀ row ∈ xs, row.length ≤ maxLen := by
 intro row hr
 obtain ⟨j, hj⟩ := List.getElem?_of_mem hr
 obtain ⟨b, off, cs, rfl, ⟨a', cap', rfl, l1, l2, -⟩, -⟩ := slrd_at h hj
 exact Nat.le_trans l1 l2
set_option maxHeartbeats 8000000 in
set_option maxRecDepth 20000 in
theorem specCoreOk_u (cs : List Value) (x : CoreD) (w : World) (h : coreR.rd w cs x) :
    Calls Tryz.prog 33 #[aggV cs] w fun e w' => e = .returned (.bool (coreB x)) ∧ Below w.heap.size w w' := by
 obtain ⟨v0, v1, v2, v5, v6, v7, v8, rfl, r0, r1, i2, i3, r4, r5⟩ := core_rd h
 clear h
 obtain ⟨a0, c0, b0, d0, e0, l1, l2, l3, l4, q0, q1⟩ := cache_rd r0
 simp only [List.cons.injEq, and_true] at e0
 obtain ⟨rfl, rfl⟩ := e0
 obtain ⟨a1, c1, e1, k1, k2, q2⟩ := r1
 simp only [List.cons.injEq, and_true] at e1
 obtain rfl := e1
 obtain ⟨a4, c4, e4, j1, j2, g1, g2, q4⟩ := way_rd r4
 simp only [List.cons.injEq, and_true] at e4
 obtain ⟨rfl, rfl, rfl⟩ := e4
 obtain ⟨a5, c5, e5, m1, m2, q5⟩ := r5
 simp only [List.cons.injEq, and_true] at e5
 obtain rfl := e5
 clear r0 r4
 obtain ⟨c, p, at_, ph, u, t⟩ := x
 simp only at *
 have hp63 : p.length ≤ 9223372036854775807 := Nat.le_trans k1 k2
 have ht63 : t.length ≤ 9223372036854775807 := Nat.le_trans m1 m2
 have hu63 : u.2.2.length ≤ 9223372036854775807 := Nat.le_trans g1 g2
 have KC : Hid (∀ W, Below w.heap.size w W → Calls Tryz.prog 91 #[.agg #[.slice a0 c.1.length c0, .slice b0 c.2.length d0]] W fun e w' => e = .returned (.bool (okB isL treeB c)) ∧ Below W.heap.size W w') := fun W hb => specCacheOk_any a0 b0 c c0 d0 W (slrd_next q0 hb) (slrd_next q1 hb) (Nat.le_trans l1 l2) (Nat.le_trans l3 l4) (rows_len q0)
 have KP : Hid (∀ W, Below w.heap.size w W → SlRd opR W a1 p) := fun W hb => slrd_next q2 hb
 have KL : Hid (∀ W, Calls Tryz.prog 93 #[.agg #[.int .i64 u.1, .int .i64 u.2.1, .slice a4 u.2.2.length c4]] W fun e w' => e = .returned (.bool (clearB u)) ∧ Below W.heap.size W w') := fun W => by rw [← clr_eq]; exact l6Clear_any _ _ _ _ _ W (Nat.le_trans g1 g2)
 have KF : Hid (∀ W, Below w.heap.size w W → Calls Tryz.prog 94 #[.agg #[.int .i64 u.1, .int .i64 u.2.1, .slice a4 u.2.2.length c4]] W fun e w' => e = .returned (.bool (fullB isL u)) ∧ Below W.heap.size W w') := fun W hb => l6Full_any u.1 u.2.1 u.2.2 a4 c4 W (slrd_next q4 hb)
 have KA : Hid (∀ W, okB isL treeB c = true → Below w.heap.size w W → Calls Tryz.prog 95 #[.agg #[.slice a0 c.1.length c0, .slice b0 c.2.length d0], .int .i64 u.1] W fun e w' => e = .returned (.int .i64 (idxI (atC c u.1))) ∧ Below W.heap.size W w') := fun W hk hb => specAt_any a0 b0 c c0 d0 u.1 W (okB_iff.1 hk) (slrd_next q0 hb)
 clear q0 q1 q2 q4 q5 l1 l2 l3 l4 k1 k2 g1 g2 m1 m2 i2 i3 j1 j2
 change Calls Tryz.prog 33 #[.agg #[.slice a0 c.1.length c0, .slice b0 c.2.length d0, .slice a1 p.length c1, .int .i64 at_, .int .i64 ph, .int .i64 u.1, .int .i64 u.2.1, .slice a4 u.2.2.length c4, .slice a5 t.length c5]] w _
 have X := heap_at w (.cells #[.slice a0 c.1.length c0, .slice b0 c.2.length d0, .slice a1 p.length c1, .int .i64 at_, .int .i64 ph, .int .i64 u.1, .int .i64 u.2.1, .slice a4 u.2.2.length c4, .slice a5 t.length c5] 86)
 have B := box_below w (.cells #[.slice a0 c.1.length c0, .slice b0 c.2.length d0, .slice a1 p.length c1, .int .i64 at_, .int .i64 ph, .int .i64 u.1, .int .i64 u.2.1, .slice a4 u.2.2.length c4, .slice a5 t.length c5] 86)
 go_enter Tryz.func33, Tryz.ntmps33
 go_wp2_with fail
 generalize w.alloc (.cells #[.slice a0 c.1.length c0, .slice b0 c.2.length d0, .slice a1 p.length c1, .int .i64 at_, .int .i64 ph, .int .i64 u.1, .int .i64 u.2.1, .slice a4 u.2.2.length c4, .slice a5 t.length c5] 86) = W0 at X B ⊢
 refine (KC.out _ B).mono ?_
 rintro e w1 ⟨rfl, b1⟩
 replace X := row_keep b1 X
 replace B := below_step B b1
 clear b1 KC
 obtain ⟨y0, y1, y2, y3, y4, y5, y6, y7, y8⟩ := cells_core X
 have HX : Hid _ := X
 have HB : Hid _ := B
 clear X B
 cases hok : okB isL treeB c
 ·skip
  have HV : Hid (coreB (c, p, at_, ph, u, t) = false) := by unfold Hid coreB; simp [hok]
  clear hok
  go_wp2
  go_ret
  exact ⟨ret_bool HV.out.symm, HB.out⟩
 by_cases hn : p.length ≤ 30
 case neg =>
  have hn' : (30 : Int) < (p.length : Int) := by omega
  have HV : Hid (coreB (c, p, at_, ph, u, t) = false) := by unfold Hid coreB; simp [hn]
  clear hok hn
  go_wp2
  go_ret
  exact ⟨ret_bool HV.out.symm, HB.out⟩
 have hn' : ¬ ((30 : Int) < (p.length : Int)) := by omega
 cases hat : betw at_ 0 (p.length : Int)
 ·skip
  have HV : Hid (coreB (c, p, at_, ph, u, t) = false) := by unfold Hid coreB; simp [hat]
  clear hok
  go_wp2_with (go_at_call 84; refine (l1In_any _ _ _ _).mono ?_; rintro e wz ⟨rfl, hz9⟩; rw [hz9]; clear hz9 wz; first | rw [hat] | rw [hph] | rw [hb1])
  go_ret
  exact ⟨ret_bool HV.out.symm, HB.out⟩
 by_cases htl : (t.length : Int) = at_
 case neg =>
  have htl' : ((t.length : Int) != at_) = true := by simp [htl]
  have HV : Hid (coreB (c, p, at_, ph, u, t) = false) := by unfold Hid coreB; simp [htl]
  clear hok htl
  go_wp2_with (go_at_call 84; refine (l1In_any _ _ _ _).mono ?_; rintro e wz ⟨rfl, hz9⟩; rw [hz9]; clear hz9 wz; first | rw [hat] | rw [hph] | rw [hb1])
  go_ret
  exact ⟨ret_bool HV.out.symm, HB.out⟩
 have htl' : ((t.length : Int) != at_) = false := by simp [htl]
 have HTL : Hid _ := htl
 have HOK : Hid _ := hok
 clear htl hok
 cases hph : betw ph 0 2
 ·skip
  have HV : Hid (coreB (c, p, at_, ph, u, t) = false) := by unfold Hid coreB; simp [hph]
  clear HTL HOK
  go_wp2_with (go_at_call 84; refine (l1In_any _ _ _ _).mono ?_; rintro e wz ⟨rfl, hz9⟩; rw [hz9]; clear hz9 wz; first | rw [hat] | rw [hph] | rw [hb1])
  go_ret
  exact ⟨ret_bool HV.out.symm, HB.out⟩
 have h3 : ph = 0 ∨ ph = 1 ∨ ph = 2 := by simp [betw] at hph; omega
 have HHP : Hid _ := hph
 clear hph
 rcases h3 with rfl | rfl | rfl
 ·skip
  have HR : Hid (coreB (c, p, at_, 0, u, t) = (p.all opOkD && restC (c, p, at_, 0, u, t))) := by unfold Hid coreB; simp [HOK.out, hn, hat, HTL.out, HHP.out]
  generalize hA : p.all opOkD = A at HR
  have HA : Hid _ := hA
  clear hA
  have hph : betw (0 : Int) 0 2 = true := by decide
  go_wp2_with (go_at_call 84; refine (l1In_any _ _ _ _).mono ?_; rintro e wz ⟨rfl, hz9⟩; rw [hz9]; clear hz9 wz; first | rw [hat] | rw [hph] | rw [hb1])
  clear hph
  clear y0 y1 y2 y3 y4 y5 y6 y7 y8
  go_loopw [4] (fun i wr => ∃ k : Nat, k ≤ p.length ∧ i = .int .i64 k ∧ (p.take k).all opOkD = true ∧ Below w1.heap.size w1 wr) (fun i _ => p.length - (intOf i).toNat)
  case atStart => exact ⟨0, Nat.zero_le _, rfl, rfl, Below.refl _ _⟩
  case round =>
   obtain ⟨k, hk, rfl, hall, BB⟩ := hrel
   obtain ⟨y0, y1, y2, y3, y4, y5, y6, y7, y8⟩ := cells_core (row_keep BB HX.out)
   by_cases hlt : k < p.length
   ·have hlt' : (k : Int) < (p.length : Int) := by omega
    obtain ⟨z, hz⟩ : ∃ z, p[k]? = some z := ⟨_, List.getElem?_eq_getElem hlt⟩
    obtain ⟨b, off, rfl, x0, x1, x2, x3, -⟩ := op_at (KP.out _ (below_step HB.out BB)) hz
    cases hb : opOkD z
    ·have HN : Hid (A = false) := by rw [← HA.out]; exact all_not hz hb
     have HBB : Hid _ := BB
     clear hz hall BB
     go_wp2_with (go_at_call 92; refine (specOpOk_any _ _ _ _ _).mono ?_; rintro e w' ⟨rfl, bb⟩; rw [show opB z.1 z.2.1 z.2.2.1 z.2.2.2 = _ from hb])
     go_ret
     exact ⟨ret_bool (by rw [HR.out, HN.out]; rfl), below_step (below_step HB.out HBB.out) bb⟩
    ·have HT : Hid ((p.take (k + 1)).all opOkD = true) := all_step hall hz hb
     have HBB : Hid _ := BB
     clear hz hall BB
     go_wp2_with (go_at_call 92; refine (specOpOk_any _ _ _ _ _).mono ?_; rintro e w' ⟨rfl, bb⟩; rw [show opB z.1 z.2.1 z.2.2.1 z.2.2.2 = _ from hb])
     go_roundw
     case rel => exact ⟨k + 1, by omega, by go_num, HT.out, below_step HBB.out bb⟩
     case measure => simp [intOf]; omega
   ·have hkl : k = p.length := by omega
    subst hkl
    rw [List.take_length] at hall
    have hA1 : A = true := by rw [← HA.out]; exact hall
    subst hA1
    have HBB : Hid (Below w.heap.size w wr) := below_step HB.out BB
    have HRW : Hid _ := row_keep BB HX.out
    clear hall BB hlt hk HA
    have HV : Hid (coreB (c, p, at_, 0, u, t) = clearB u) := by unfold Hid; rw [HR.out, Bool.true_and]; unfold restC; exact if_neg (show ¬ ((0 : Int) = 1) by decide)
    go_wp2_with (go_at_call 93; refine (KL.out _).mono ?_; rintro e w' ⟨rfl, bb⟩)
    go_ret
    exact ⟨ret_bool HV.out.symm, below_step HBB.out bb⟩
 ·skip
  have HR : Hid (coreB (c, p, at_, 1, u, t) = (p.all opOkD && restC (c, p, at_, 1, u, t))) := by unfold Hid coreB; simp [HOK.out, hn, hat, HTL.out, HHP.out]
  generalize hA : p.all opOkD = A at HR
  have HA : Hid _ := hA
  clear hA
  have hph : betw (1 : Int) 0 2 = true := by decide
  go_wp2_with (go_at_call 84; refine (l1In_any _ _ _ _).mono ?_; rintro e wz ⟨rfl, hz9⟩; rw [hz9]; clear hz9 wz; first | rw [hat] | rw [hph] | rw [hb1])
  clear hph
  clear y0 y1 y2 y3 y4 y5 y6 y7 y8
  go_loopw [4] (fun i wr => ∃ k : Nat, k ≤ p.length ∧ i = .int .i64 k ∧ (p.take k).all opOkD = true ∧ Below w1.heap.size w1 wr) (fun i _ => p.length - (intOf i).toNat)
  case atStart => exact ⟨0, Nat.zero_le _, rfl, rfl, Below.refl _ _⟩
  case round =>
   obtain ⟨k, hk, rfl, hall, BB⟩ := hrel
   obtain ⟨y0, y1, y2, y3, y4, y5, y6, y7, y8⟩ := cells_core (row_keep BB HX.out)
   by_cases hlt : k < p.length
   ·have hlt' : (k : Int) < (p.length : Int) := by omega
    obtain ⟨z, hz⟩ : ∃ z, p[k]? = some z := ⟨_, List.getElem?_eq_getElem hlt⟩
    obtain ⟨b, off, rfl, x0, x1, x2, x3, -⟩ := op_at (KP.out _ (below_step HB.out BB)) hz
    cases hb : opOkD z
    ·have HN : Hid (A = false) := by rw [← HA.out]; exact all_not hz hb
     have HBB : Hid _ := BB
     clear hz hall BB
     go_wp2_with (go_at_call 92; refine (specOpOk_any _ _ _ _ _).mono ?_; rintro e w' ⟨rfl, bb⟩; rw [show opB z.1 z.2.1 z.2.2.1 z.2.2.2 = _ from hb])
     go_ret
     exact ⟨ret_bool (by rw [HR.out, HN.out]; rfl), below_step (below_step HB.out HBB.out) bb⟩
    ·have HT : Hid ((p.take (k + 1)).all opOkD = true) := all_step hall hz hb
     have HBB : Hid _ := BB
     clear hz hall BB
     go_wp2_with (go_at_call 92; refine (specOpOk_any _ _ _ _ _).mono ?_; rintro e w' ⟨rfl, bb⟩; rw [show opB z.1 z.2.1 z.2.2.1 z.2.2.2 = _ from hb])
     go_roundw
     case rel => exact ⟨k + 1, by omega, by go_num, HT.out, below_step HBB.out bb⟩
     case measure => simp [intOf]; omega
   ·have hkl : k = p.length := by omega
    subst hkl
    rw [List.take_length] at hall
    have hA1 : A = true := by rw [← HA.out]; exact hall
    subst hA1
    have HBB : Hid (Below w.heap.size w wr) := below_step HB.out BB
    have HRW : Hid _ := row_keep BB HX.out
    clear hall BB hlt hk HA
    have HV : Hid (coreB (c, p, at_, 1, u, t) = ((goneB u || fullB isL u) && decide (atC c u.1 = none))) := by unfold Hid; rw [HR.out, Bool.true_and]; unfold restC; exact if_pos rfl
    have KA1 : Hid _ := fun W => KA.out W HOK.out
    clear KA
    cases hb1 : betw u.1 0 15
    ·have hgo : goneB u = false := by unfold goneB; rw [hb1]; rfl
     cases hF : fullB isL u
     ·go_wp2_with (first | (go_at_call 84; refine (l1In_any _ _ _ _).mono ?_; rintro e wz ⟨rfl, hz9⟩; rw [hz9]; clear hz9 wz; first | rw [hat] | rw [hph] | rw [hb1]) | (go_at_call 94; refine (KF.out _ HBB.out).mono ?_; rintro e wf ⟨rfl, bf⟩; rw [hF]; have bg := below_step HBB.out bf; obtain ⟨t0, t1, t2, t3, t4, t5, t6, t7, t8⟩ := cells_core (row_keep bf HRW.out)))
      go_ret
      exact ⟨ret_bool (by rw [HV.out, hgo, hF]; rfl), bg⟩
     ·go_wp2_with (first | (go_at_call 84; refine (l1In_any _ _ _ _).mono ?_; rintro e wz ⟨rfl, hz9⟩; rw [hz9]; clear hz9 wz; first | rw [hat] | rw [hph] | rw [hb1]) | (go_at_call 94; refine (KF.out _ HBB.out).mono ?_; rintro e wf ⟨rfl, bf⟩; rw [hF]; have bg := below_step HBB.out bf; obtain ⟨t0, t1, t2, t3, t4, t5, t6, t7, t8⟩ := cells_core (row_keep bf HRW.out)) | (go_at_call 95; refine (KA1.out _ bg).mono ?_; rintro e wa ⟨rfl, ba⟩))
      go_ret
      exact ⟨ret_bool (by rw [HV.out, hgo, hF]; simp [idx_neg]), below_step bg ba⟩
    by_cases hs0 : u.2.1 = 0
    case neg =>
     have hs1 : (u.2.1 == 0) = false := by simp [hs0]
     have hgo : goneB u = false := by unfold goneB; simp [hs0]
     clear hs0
     cases hF : fullB isL u
     ·go_wp2_with (first | (go_at_call 84; refine (l1In_any _ _ _ _).mono ?_; rintro e wz ⟨rfl, hz9⟩; rw [hz9]; clear hz9 wz; first | rw [hat] | rw [hph] | rw [hb1]) | (go_at_call 94; refine (KF.out _ HBB.out).mono ?_; rintro e wf ⟨rfl, bf⟩; rw [hF]; have bg := below_step HBB.out bf; obtain ⟨t0, t1, t2, t3, t4, t5, t6, t7, t8⟩ := cells_core (row_keep bf HRW.out)))
      go_ret
      exact ⟨ret_bool (by rw [HV.out, hgo, hF]; rfl), bg⟩
     ·go_wp2_with (first | (go_at_call 84; refine (l1In_any _ _ _ _).mono ?_; rintro e wz ⟨rfl, hz9⟩; rw [hz9]; clear hz9 wz; first | rw [hat] | rw [hph] | rw [hb1]) | (go_at_call 94; refine (KF.out _ HBB.out).mono ?_; rintro e wf ⟨rfl, bf⟩; rw [hF]; have bg := below_step HBB.out bf; obtain ⟨t0, t1, t2, t3, t4, t5, t6, t7, t8⟩ := cells_core (row_keep bf HRW.out)) | (go_at_call 95; refine (KA1.out _ bg).mono ?_; rintro e wa ⟨rfl, ba⟩))
      go_ret
      exact ⟨ret_bool (by rw [HV.out, hgo, hF]; simp [idx_neg]), below_step bg ba⟩
    have hs1 : (u.2.1 == 0) = true := by simp [hs0]
    by_cases hl0 : u.2.2.length = 0
    case neg =>
     have hl1 : ((u.2.2.length : Int) == 0) = false := beq_false_of_ne (by omega)
     have hgo : goneB u = false := by unfold goneB; simp [hl0]
     clear hs0 hl0
     cases hF : fullB isL u
     ·go_wp2_with (first | (go_at_call 84; refine (l1In_any _ _ _ _).mono ?_; rintro e wz ⟨rfl, hz9⟩; rw [hz9]; clear hz9 wz; first | rw [hat] | rw [hph] | rw [hb1]) | (go_at_call 94; refine (KF.out _ HBB.out).mono ?_; rintro e wf ⟨rfl, bf⟩; rw [hF]; have bg := below_step HBB.out bf; obtain ⟨t0, t1, t2, t3, t4, t5, t6, t7, t8⟩ := cells_core (row_keep bf HRW.out)))
      go_ret
      exact ⟨ret_bool (by rw [HV.out, hgo, hF]; rfl), bg⟩
     ·go_wp2_with (first | (go_at_call 84; refine (l1In_any _ _ _ _).mono ?_; rintro e wz ⟨rfl, hz9⟩; rw [hz9]; clear hz9 wz; first | rw [hat] | rw [hph] | rw [hb1]) | (go_at_call 94; refine (KF.out _ HBB.out).mono ?_; rintro e wf ⟨rfl, bf⟩; rw [hF]; have bg := below_step HBB.out bf; obtain ⟨t0, t1, t2, t3, t4, t5, t6, t7, t8⟩ := cells_core (row_keep bf HRW.out)) | (go_at_call 95; refine (KA1.out _ bg).mono ?_; rintro e wa ⟨rfl, ba⟩))
      go_ret
      exact ⟨ret_bool (by rw [HV.out, hgo, hF]; simp [idx_neg]), below_step bg ba⟩
    have hl1 : ((u.2.2.length : Int) == 0) = true := by simp [hl0]
    have hgo : goneB u = true := by unfold goneB; rw [hb1]; simp [hs0, hl0]
    clear hs0 hl0
    go_wp2_with (first | (go_at_call 84; refine (l1In_any _ _ _ _).mono ?_; rintro e wz ⟨rfl, hz9⟩; rw [hz9]; clear hz9 wz; first | rw [hat] | rw [hph] | rw [hb1]) | (go_at_call 95; refine (KA1.out _ HBB.out).mono ?_; rintro e wa ⟨rfl, ba⟩))
    go_ret
    exact ⟨ret_bool (by rw [HV.out, hgo]; simp [idx_neg]), below_step HBB.out ba⟩
 ·by_cases hwt : at_ = (p.length : Int)
  ·have hwt' : (at_ == (p.length : Int)) = true := by simp [hwt]
   have hph : betw (2 : Int) 0 2 = true := by decide
   have HV : Hid (coreB (c, p, at_, 2, u, t) = false) := by unfold Hid coreB; simp [hwt]
   clear HTL HOK HHP hwt
   go_wp2_with (go_at_call 84; refine (l1In_any _ _ _ _).mono ?_; rintro e wz ⟨rfl, hz9⟩; rw [hz9]; clear hz9 wz; first | rw [hat] | rw [hph] | rw [hb1])
   go_ret
   exact ⟨ret_bool HV.out.symm, HB.out⟩
  ·have hwt' : (at_ == (p.length : Int)) = false := by simp [hwt]
   have HR : Hid (coreB (c, p, at_, 2, u, t) = (p.all opOkD && restC (c, p, at_, 2, u, t))) := by unfold Hid coreB; simp [HOK.out, hn, hat, HTL.out, HHP.out, hwt]
   generalize hA : p.all opOkD = A at HR
   have HA : Hid _ := hA
   clear hA
   have hph : betw (2 : Int) 0 2 = true := by decide
   go_wp2_with (go_at_call 84; refine (l1In_any _ _ _ _).mono ?_; rintro e wz ⟨rfl, hz9⟩; rw [hz9]; clear hz9 wz; first | rw [hat] | rw [hph] | rw [hb1])
   clear hph
   clear y0 y1 y2 y3 y4 y5 y6 y7 y8
   go_loopw [4] (fun i wr => ∃ k : Nat, k ≤ p.length ∧ i = .int .i64 k ∧ (p.take k).all opOkD = true ∧ Below w1.heap.size w1 wr) (fun i _ => p.length - (intOf i).toNat)
   case atStart => exact ⟨0, Nat.zero_le _, rfl, rfl, Below.refl _ _⟩
   case round =>
    obtain ⟨k, hk, rfl, hall, BB⟩ := hrel
    obtain ⟨y0, y1, y2, y3, y4, y5, y6, y7, y8⟩ := cells_core (row_keep BB HX.out)
    by_cases hlt : k < p.length
    ·have hlt' : (k : Int) < (p.length : Int) := by omega
     obtain ⟨z, hz⟩ : ∃ z, p[k]? = some z := ⟨_, List.getElem?_eq_getElem hlt⟩
     obtain ⟨b, off, rfl, x0, x1, x2, x3, -⟩ := op_at (KP.out _ (below_step HB.out BB)) hz
     cases hb : opOkD z
     ·have HN : Hid (A = false) := by rw [← HA.out]; exact all_not hz hb
      have HBB : Hid _ := BB
      clear hz hall BB
      go_wp2_with (go_at_call 92; refine (specOpOk_any _ _ _ _ _).mono ?_; rintro e w' ⟨rfl, bb⟩; rw [show opB z.1 z.2.1 z.2.2.1 z.2.2.2 = _ from hb])
      go_ret
      exact ⟨ret_bool (by rw [HR.out, HN.out]; rfl), below_step (below_step HB.out HBB.out) bb⟩
     ·have HT : Hid ((p.take (k + 1)).all opOkD = true) := all_step hall hz hb
      have HBB : Hid _ := BB
      clear hz hall BB
      go_wp2_with (go_at_call 92; refine (specOpOk_any _ _ _ _ _).mono ?_; rintro e w' ⟨rfl, bb⟩; rw [show opB z.1 z.2.1 z.2.2.1 z.2.2.2 = _ from hb])
      go_roundw
      case rel => exact ⟨k + 1, by omega, by go_num, HT.out, below_step HBB.out bb⟩
      case measure => simp [intOf]; omega
    ·have hkl : k = p.length := by omega
     subst hkl
     rw [List.take_length] at hall
     have hA1 : A = true := by rw [← HA.out]; exact hall
     subst hA1
     have HBB : Hid (Below w.heap.size w wr) := below_step HB.out BB
     have HRW : Hid _ := row_keep BB HX.out
     clear hall BB hlt hk HA
     have HV : Hid (coreB (c, p, at_, 2, u, t) = clearB u) := by unfold Hid; rw [HR.out, Bool.true_and]; unfold restC; exact if_neg (show ¬ ((2 : Int) = 1) by decide)
     go_wp2_with (go_at_call 93; refine (KL.out _).mono ?_; rintro e w' ⟨rfl, bb⟩)
     go_ret
     exact ⟨ret_bool HV.out.symm, below_step HBB.out bb⟩
end Go.Proofs.YthnfkacboijneaaGreatDoor
