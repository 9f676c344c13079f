
/- Ops2, L8Done. -/
import Derived.Test.YthbclkpmgcfdnaaGreatDoorJMsgs7OpsBad
/- The contracts of what is done: of the program (through functions of a table's row) and of its specification. No condition. -/
namespace Go.Proofs.YthbclkpmgcfdnaaGreatDoor
open Go.ChangeShapes Go.WideShapes Go.ChangeAt Go.RowKit
def doneOk (k a x y z : Int) : Bool := opB k a x y && okW z
def opThenD (k a x y z : Int) : Int := if doneOk k a x y z then opThen k x y z else -1
def opToldD (k a x y z : Int) : Int := if doneOk k a x y z then opTold k z else -1
theorem op_sum {x z : Int} (hx : okW x = true) (hz : okW z = true) : (0 ≤ x ∧ x ≤ 9999) ∧ 0 ≤ z ∧ z ≤ 9999 := by
  simp [okW, betw] at hx hz
  omega
theorem opB_kind {k a x y : Int} (h : opB k a x y = true) : betw k 1 5 = true := by simp [opB] at h; exact h.1
theorem opB_x {k a x y : Int} (h : opB k a x y = true) : okW x = true := by
  simp only [opB, Bool.and_eq_true] at h
  have h2 := h.2.2.1
  unfold okW
  unfold opMostA at h2
  simp only [betw, decide_eq_true_eq] at h2 ⊢
  split at h2 <;> omega
set_option maxHeartbeats 1000000 in
theorem implDone_any (k a x y z : Int) (w : World) :
    Calls Tryz.prog 156 #[.agg #[.int .i64 k, .int .i64 a, .int .i64 x, .int .i64 y], .int .i64 z] w fun e w' => e = .returned (.tuple #[.int .i64 (opThenD k a x y z), .int .i64 (opToldD k a x y z)]) ∧ Below w.heap.size w w' := by
  have B := (Below.refl w.heap.size w).alloc (Nat.le_refl _)
  cases h1 : opB k a x y
  · have H : Hid (opThenD k a x y z = -1 ∧ opToldD k a x y z = -1) := by unfold Hid opThenD opToldD doneOk; simp [h1]
    go_enter Tryz.func156, Tryz.ntmps156
    go_wp2_with (first
      | (go_at_call 121; refine (implOpOk_any _ _ _ _ _).mono ?_; rintro e w1 ⟨rfl, b1⟩)
      | (go_at_call 188; refine (valueOk_any _ _).mono ?_; rintro e w' ⟨rfl, rfl⟩))
    rw [H.out.1, H.out.2]
    go_ret2
    exact ⟨rfl, below_step (B _) b1⟩
  cases h2 : okW z
  · have H : Hid (opThenD k a x y z = -1 ∧ opToldD k a x y z = -1) := by unfold Hid opThenD opToldD doneOk; simp [h2]
    go_enter Tryz.func156, Tryz.ntmps156
    go_wp2_with (first
      | (go_at_call 121; refine (implOpOk_any _ _ _ _ _).mono ?_; rintro e w1 ⟨rfl, b1⟩)
      | (go_at_call 188; refine (valueOk_any _ _).mono ?_; rintro e w' ⟨rfl, rfl⟩))
    rw [H.out.1, H.out.2]
    go_ret2
    exact ⟨rfl, below_step (B _) b1⟩
  obtain ⟨⟨hx0, hx1⟩, hz0, hz1⟩ := op_sum (opB_x h1) h2
  rcases opKind (opB_kind h1) with rfl | rfl | rfl | rfl | rfl
  · have H : Hid (opThenD 1 a x y z = z ∧ opToldD 1 a x y z = z) := by unfold Hid opThenD opToldD doneOk; rw [h1, h2]; exact ⟨rfl, rfl⟩
    have K : Hid (∀ wx : World, Calls Tryz.prog 195 #[.agg #[.int .i64 1, .int .i64 a, .int .i64 x, .int .i64 y], .int .i64 z] wx fun e w' => e = .returned (.int .i64 z) ∧ Below wx.heap.size wx w') := fun wx => by exact stays_any _ _ _ _ _ _
    clear hx0 hx1 hz0 hz1
    go_enter Tryz.func156, Tryz.ntmps156
    go_upto_region 3 with (first
      | (go_at_call 121; refine (implOpOk_any _ _ _ _ _).mono ?_; rintro e w1 ⟨rfl, b1⟩)
      | (go_at_call 188; refine (valueOk_any _ _).mono ?_; rintro e w' ⟨rfl, rfl⟩))
    have R := row_keep b1 (heap_alloc_new w (.cells #[.int .i64 1, .int .i64 a, .int .i64 x, .int .i64 y] 54))
    replace B := below_step (B _) b1
    clear b1
    obtain ⟨c0, c1, c2, c3⟩ := op_cells R
    go_upto_region 4 with (go_at_call 169; refine (deedOf1 _).mono ?_; rintro e w2 ⟨rfl, b2⟩)
    replace R := row_keep b2 R
    replace B := below_step B b2
    clear b2 c0 c1 c2 c3
    have hlt : w.heap.size < w2.heap.size := (Array.getElem?_eq_some_iff.1 R).1
    have R2 := heap_alloc_new w2 (.cells #[.int .i64 0, .int .i64 0, .func (.func 195) #[] #[], .func (.func 196) #[] #[]] 181)
    replace R := row_keep ((Below.refl _ w2).alloc (Nat.le_refl _) (.cells #[.int .i64 0, .int .i64 0, .func (.func 195) #[] #[], .func (.func 196) #[] #[]] 181)) R
    replace B := B.alloc B.size (.cells #[.int .i64 0, .int .i64 0, .func (.func 195) #[] #[], .func (.func 196) #[] #[]] 181)
    generalize w2.alloc (.cells #[.int .i64 0, .int .i64 0, .func (.func 195) #[] #[], .func (.func 196) #[] #[]] 181) = W at R B R2 ⊢
    obtain ⟨n0, n1, n2, n3⟩ := op_cls R
    obtain ⟨m0, m1, m2, m3⟩ := op_cls R2
    clear R R2
    go_wp2
    refine region_class (fun wx => Below W.heap.size W wx) (by kernel_rfl) (by kernel_rfl) ((Below.refl _ W).drew) ?_
    intro hne
    repeat (quiet_step (first
      | (go_at_call 195; exact calls_class (K.out _) (fun w' hc bb => below_step hc bb))
      | (go_at_call 196; exact calls_class_same (whatItWas_any _ _))))
    refine wpQuiet_nil ?_
    intro wx b2
    clear n0 n1 n2 n3 m0 m1 m2 m3 hne
    go_wp2
    rw [H.out.1, H.out.2]
    go_ret2
    exact ⟨rfl, below_step B b2⟩
  · have H : Hid (opThenD 2 a x y z = x ∧ opToldD 2 a x y z = 0) := by unfold Hid opThenD opToldD doneOk; rw [h1, h2]; exact ⟨rfl, rfl⟩
    have K : Hid (∀ wx : World, Calls Tryz.prog 197 #[.agg #[.int .i64 2, .int .i64 a, .int .i64 x, .int .i64 y], .int .i64 z] wx fun e w' => e = .returned (.int .i64 x) ∧ Below wx.heap.size wx w') := fun wx => by exact becomesA_any _ _ _ _ _ _
    clear hx0 hx1 hz0 hz1
    go_enter Tryz.func156, Tryz.ntmps156
    go_upto_region 3 with (first
      | (go_at_call 121; refine (implOpOk_any _ _ _ _ _).mono ?_; rintro e w1 ⟨rfl, b1⟩)
      | (go_at_call 188; refine (valueOk_any _ _).mono ?_; rintro e w' ⟨rfl, rfl⟩))
    have R := row_keep b1 (heap_alloc_new w (.cells #[.int .i64 2, .int .i64 a, .int .i64 x, .int .i64 y] 54))
    replace B := below_step (B _) b1
    clear b1
    obtain ⟨c0, c1, c2, c3⟩ := op_cells R
    go_upto_region 4 with (go_at_call 169; refine (deedOf2 _).mono ?_; rintro e w2 ⟨rfl, b2⟩)
    replace R := row_keep b2 R
    replace B := below_step B b2
    clear b2 c0 c1 c2 c3
    have hlt : w.heap.size < w2.heap.size := (Array.getElem?_eq_some_iff.1 R).1
    have R2 := heap_alloc_new w2 (.cells #[.int .i64 9999, .int .i64 0, .func (.func 197) #[] #[], .func (.func 198) #[] #[]] 181)
    replace R := row_keep ((Below.refl _ w2).alloc (Nat.le_refl _) (.cells #[.int .i64 9999, .int .i64 0, .func (.func 197) #[] #[], .func (.func 198) #[] #[]] 181)) R
    replace B := B.alloc B.size (.cells #[.int .i64 9999, .int .i64 0, .func (.func 197) #[] #[], .func (.func 198) #[] #[]] 181)
    generalize w2.alloc (.cells #[.int .i64 9999, .int .i64 0, .func (.func 197) #[] #[], .func (.func 198) #[] #[]] 181) = W at R B R2 ⊢
    obtain ⟨n0, n1, n2, n3⟩ := op_cls R
    obtain ⟨m0, m1, m2, m3⟩ := op_cls R2
    clear R R2
    go_wp2
    refine region_class (fun wx => Below W.heap.size W wx) (by kernel_rfl) (by kernel_rfl) ((Below.refl _ W).drew) ?_
    intro hne
    repeat (quiet_step (first
      | (go_at_call 197; exact calls_class (K.out _) (fun w' hc bb => below_step hc bb))
      | (go_at_call 198; exact calls_class_same (nothing_any _ _))))
    refine wpQuiet_nil ?_
    intro wx b2
    clear n0 n1 n2 n3 m0 m1 m2 m3 hne
    go_wp2
    rw [H.out.1, H.out.2]
    go_ret2
    exact ⟨rfl, below_step B b2⟩
  · have H : Hid (opThenD 3 a x y z = ((z + x) % 10000) ∧ opToldD 3 a x y z = z) := by unfold Hid opThenD opToldD doneOk; rw [h1, h2]; exact ⟨rfl, rfl⟩
    generalize hq : ((z + x) % 10000) = q at H
    have K : Hid (∀ wx : World, Calls Tryz.prog 199 #[.agg #[.int .i64 3, .int .i64 a, .int .i64 x, .int .i64 y], .int .i64 z] wx fun e w' => e = .returned (.int .i64 q) ∧ Below wx.heap.size wx w') := fun wx => by rw [← hq]; exact addsA_any _ _ _ _ _ _ hx0 hx1 hz0 hz1
    clear hq
    clear hx0 hx1 hz0 hz1
    go_enter Tryz.func156, Tryz.ntmps156
    go_upto_region 3 with (first
      | (go_at_call 121; refine (implOpOk_any _ _ _ _ _).mono ?_; rintro e w1 ⟨rfl, b1⟩)
      | (go_at_call 188; refine (valueOk_any _ _).mono ?_; rintro e w' ⟨rfl, rfl⟩))
    have R := row_keep b1 (heap_alloc_new w (.cells #[.int .i64 3, .int .i64 a, .int .i64 x, .int .i64 y] 54))
    replace B := below_step (B _) b1
    clear b1
    obtain ⟨c0, c1, c2, c3⟩ := op_cells R
    go_upto_region 4 with (go_at_call 169; refine (deedOf3 _).mono ?_; rintro e w2 ⟨rfl, b2⟩)
    replace R := row_keep b2 R
    replace B := below_step B b2
    clear b2 c0 c1 c2 c3
    have hlt : w.heap.size < w2.heap.size := (Array.getElem?_eq_some_iff.1 R).1
    have R2 := heap_alloc_new w2 (.cells #[.int .i64 9999, .int .i64 0, .func (.func 199) #[] #[], .func (.func 196) #[] #[]] 181)
    replace R := row_keep ((Below.refl _ w2).alloc (Nat.le_refl _) (.cells #[.int .i64 9999, .int .i64 0, .func (.func 199) #[] #[], .func (.func 196) #[] #[]] 181)) R
    replace B := B.alloc B.size (.cells #[.int .i64 9999, .int .i64 0, .func (.func 199) #[] #[], .func (.func 196) #[] #[]] 181)
    generalize w2.alloc (.cells #[.int .i64 9999, .int .i64 0, .func (.func 199) #[] #[], .func (.func 196) #[] #[]] 181) = W at R B R2 ⊢
    obtain ⟨n0, n1, n2, n3⟩ := op_cls R
    obtain ⟨m0, m1, m2, m3⟩ := op_cls R2
    clear R R2
    go_wp2
    refine region_class (fun wx => Below W.heap.size W wx) (by kernel_rfl) (by kernel_rfl) ((Below.refl _ W).drew) ?_
    intro hne
    repeat (quiet_step (first
      | (go_at_call 199; exact calls_class (K.out _) (fun w' hc bb => below_step hc bb))
      | (go_at_call 196; exact calls_class_same (whatItWas_any _ _))))
    refine wpQuiet_nil ?_
    intro wx b2
    clear n0 n1 n2 n3 m0 m1 m2 m3 hne
    go_wp2
    rw [H.out.1, H.out.2]
    go_ret2
    exact ⟨rfl, below_step B b2⟩
  · have H : Hid (opThenD 4 a x y z = x ∧ opToldD 4 a x y z = z) := by unfold Hid opThenD opToldD doneOk; rw [h1, h2]; exact ⟨rfl, rfl⟩
    have K : Hid (∀ wx : World, Calls Tryz.prog 197 #[.agg #[.int .i64 4, .int .i64 a, .int .i64 x, .int .i64 y], .int .i64 z] wx fun e w' => e = .returned (.int .i64 x) ∧ Below wx.heap.size wx w') := fun wx => by exact becomesA_any _ _ _ _ _ _
    clear hx0 hx1 hz0 hz1
    go_enter Tryz.func156, Tryz.ntmps156
    go_upto_region 3 with (first
      | (go_at_call 121; refine (implOpOk_any _ _ _ _ _).mono ?_; rintro e w1 ⟨rfl, b1⟩)
      | (go_at_call 188; refine (valueOk_any _ _).mono ?_; rintro e w' ⟨rfl, rfl⟩))
    have R := row_keep b1 (heap_alloc_new w (.cells #[.int .i64 4, .int .i64 a, .int .i64 x, .int .i64 y] 54))
    replace B := below_step (B _) b1
    clear b1
    obtain ⟨c0, c1, c2, c3⟩ := op_cells R
    go_upto_region 4 with (go_at_call 169; refine (deedOf4 _).mono ?_; rintro e w2 ⟨rfl, b2⟩)
    replace R := row_keep b2 R
    replace B := below_step B b2
    clear b2 c0 c1 c2 c3
    have hlt : w.heap.size < w2.heap.size := (Array.getElem?_eq_some_iff.1 R).1
    have R2 := heap_alloc_new w2 (.cells #[.int .i64 9999, .int .i64 0, .func (.func 197) #[] #[], .func (.func 196) #[] #[]] 181)
    replace R := row_keep ((Below.refl _ w2).alloc (Nat.le_refl _) (.cells #[.int .i64 9999, .int .i64 0, .func (.func 197) #[] #[], .func (.func 196) #[] #[]] 181)) R
    replace B := B.alloc B.size (.cells #[.int .i64 9999, .int .i64 0, .func (.func 197) #[] #[], .func (.func 196) #[] #[]] 181)
    generalize w2.alloc (.cells #[.int .i64 9999, .int .i64 0, .func (.func 197) #[] #[], .func (.func 196) #[] #[]] 181) = W at R B R2 ⊢
    obtain ⟨n0, n1, n2, n3⟩ := op_cls R
    obtain ⟨m0, m1, m2, m3⟩ := op_cls R2
    clear R R2
    go_wp2
    refine region_class (fun wx => Below W.heap.size W wx) (by kernel_rfl) (by kernel_rfl) ((Below.refl _ W).drew) ?_
    intro hne
    repeat (quiet_step (first
      | (go_at_call 197; exact calls_class (K.out _) (fun w' hc bb => below_step hc bb))
      | (go_at_call 196; exact calls_class_same (whatItWas_any _ _))))
    refine wpQuiet_nil ?_
    intro wx b2
    clear n0 n1 n2 n3 m0 m1 m2 m3 hne
    go_wp2
    rw [H.out.1, H.out.2]
    go_ret2
    exact ⟨rfl, below_step B b2⟩
  · have H : Hid (opThenD 5 a x y z = (if z = x then y else z) ∧ opToldD 5 a x y z = z) := by unfold Hid opThenD opToldD doneOk; rw [h1, h2]; exact ⟨rfl, rfl⟩
    generalize hq : (if z = x then y else z) = q at H
    have K : Hid (∀ wx : World, Calls Tryz.prog 200 #[.agg #[.int .i64 5, .int .i64 a, .int .i64 x, .int .i64 y], .int .i64 z] wx fun e w' => e = .returned (.int .i64 q) ∧ Below wx.heap.size wx w') := fun wx => by rw [← hq]; exact becomesBFromA_any _ _ _ _ _ _
    clear hq
    clear hx0 hx1 hz0 hz1
    go_enter Tryz.func156, Tryz.ntmps156
    go_upto_region 3 with (first
      | (go_at_call 121; refine (implOpOk_any _ _ _ _ _).mono ?_; rintro e w1 ⟨rfl, b1⟩)
      | (go_at_call 188; refine (valueOk_any _ _).mono ?_; rintro e w' ⟨rfl, rfl⟩))
    have R := row_keep b1 (heap_alloc_new w (.cells #[.int .i64 5, .int .i64 a, .int .i64 x, .int .i64 y] 54))
    replace B := below_step (B _) b1
    clear b1
    obtain ⟨c0, c1, c2, c3⟩ := op_cells R
    go_upto_region 4 with (go_at_call 169; refine (deedOf5 _).mono ?_; rintro e w2 ⟨rfl, b2⟩)
    replace R := row_keep b2 R
    replace B := below_step B b2
    clear b2 c0 c1 c2 c3
    have hlt : w.heap.size < w2.heap.size := (Array.getElem?_eq_some_iff.1 R).1
    have R2 := heap_alloc_new w2 (.cells #[.int .i64 9999, .int .i64 9999, .func (.func 200) #[] #[], .func (.func 196) #[] #[]] 181)
    replace R := row_keep ((Below.refl _ w2).alloc (Nat.le_refl _) (.cells #[.int .i64 9999, .int .i64 9999, .func (.func 200) #[] #[], .func (.func 196) #[] #[]] 181)) R
    replace B := B.alloc B.size (.cells #[.int .i64 9999, .int .i64 9999, .func (.func 200) #[] #[], .func (.func 196) #[] #[]] 181)
    generalize w2.alloc (.cells #[.int .i64 9999, .int .i64 9999, .func (.func 200) #[] #[], .func (.func 196) #[] #[]] 181) = W at R B R2 ⊢
    obtain ⟨n0, n1, n2, n3⟩ := op_cls R
    obtain ⟨m0, m1, m2, m3⟩ := op_cls R2
    clear R R2
    go_wp2
    refine region_class (fun wx => Below W.heap.size W wx) (by kernel_rfl) (by kernel_rfl) ((Below.refl _ W).drew) ?_
    intro hne
    repeat (quiet_step (first
      | (go_at_call 200; exact calls_class (K.out _) (fun w' hc bb => below_step hc bb))
      | (go_at_call 196; exact calls_class_same (whatItWas_any _ _))))
    refine wpQuiet_nil ?_
    intro wx b2
    clear n0 n1 n2 n3 m0 m1 m2 m3 hne
    go_wp2
    rw [H.out.1, H.out.2]
    go_ret2
    exact ⟨rfl, below_step B b2⟩


end Go.Proofs.YthbclkpmgcfdnaaGreatDoor
/- What an op does to a word, of the specification. Conditions: a right op, a word. -/
namespace Go.Proofs.YthbclkpmgcfdnaaGreatDoor
open Go.ChangeShapes Go.WideShapes Go.ChangeAt Go.RowKit
set_option linter.unusedVariables false
set_option maxHeartbeats 1000000 in
theorem l8Done_any (k a x y z : Int) (w : World) (hk : betw k 1 5 = true) (hx : okW x = true) (hz : okW z = true) :
    Calls Tryz.prog 171 #[.agg #[.int .i64 k, .int .i64 a, .int .i64 x, .int .i64 y], .int .i64 z] w fun e w' => e = .returned (.tuple #[.int .i64 (opThen k x y z), .int .i64 (opTold k z)]) ∧ Below w.heap.size w w' := by
  have B := (Below.refl w.heap.size w).alloc (Nat.le_refl _)
  obtain ⟨⟨hx0, hx1⟩, hz0, hz1⟩ := op_sum hx hz
  rcases opKind hk with rfl | rfl | rfl | rfl | rfl
  · have H : Hid (opThen 1 x y z = z ∧ opTold 1 z = z) := by unfold Hid opThen opTold; exact ⟨rfl, rfl⟩
    generalize opThen 1 x y z = q at H ⊢
    generalize opTold 1 z = q2 at H ⊢
    go_enter Tryz.func171, Tryz.ntmps171
    go_wp2
    go_ret2
    exact ⟨by rw [H.out.1, H.out.2]; first | rfl | skip, B _⟩
  · have H : Hid (opThen 2 x y z = x ∧ opTold 2 z = 0) := by unfold Hid opThen opTold; exact ⟨rfl, rfl⟩
    generalize opThen 2 x y z = q at H ⊢
    generalize opTold 2 z = q2 at H ⊢
    go_enter Tryz.func171, Tryz.ntmps171
    go_wp2
    go_ret2
    exact ⟨by rw [H.out.1, H.out.2]; first | rfl | skip, B _⟩
  · have H : Hid (opThen 3 x y z = ((z + x) % 10000) ∧ opTold 3 z = z) := by unfold Hid opThen opTold; exact ⟨rfl, rfl⟩
    generalize opThen 3 x y z = q at H ⊢
    generalize opTold 3 z = q2 at H ⊢
    go_enter Tryz.func171, Tryz.ntmps171
    go_wp2
    go_ret2
    exact ⟨by rw [H.out.1, H.out.2]; first | rfl | skip, B _⟩
  · have H : Hid (opThen 4 x y z = x ∧ opTold 4 z = z) := by unfold Hid opThen opTold; exact ⟨rfl, rfl⟩
    generalize opThen 4 x y z = q at H ⊢
    generalize opTold 4 z = q2 at H ⊢
    go_enter Tryz.func171, Tryz.ntmps171
    go_wp2
    go_ret2
    exact ⟨by rw [H.out.1, H.out.2]; first | rfl | skip, B _⟩
  · by_cases h : z = x
    · have H : Hid (opThen 5 x y z = y ∧ opTold 5 z = z) := by unfold Hid opThen opTold; simp [h]
      subst h
      generalize opThen 5 z y z = q at H ⊢
      generalize opTold 5 z = q2 at H ⊢
      go_enter Tryz.func171, Tryz.ntmps171
      go_wp2
      go_ret2
      exact ⟨by rw [H.out.1, H.out.2]; first | rfl | skip, B _⟩
    · have H : Hid (opThen 5 x y z = z ∧ opTold 5 z = z) := by unfold Hid opThen opTold; simp [h]
      generalize opThen 5 x y z = q at H ⊢
      generalize opTold 5 z = q2 at H ⊢
      go_enter Tryz.func171, Tryz.ntmps171
      go_wp2
      go_ret2
      exact ⟨by rw [H.out.1, H.out.2]; first | rfl | skip, B _⟩

end Go.Proofs.YthbclkpmgcfdnaaGreatDoor
