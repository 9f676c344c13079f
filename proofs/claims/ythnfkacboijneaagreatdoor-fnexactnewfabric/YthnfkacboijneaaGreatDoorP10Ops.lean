import Derived.Test.YthnfkacboijneaaGreatDoorP09OpL
import Derived.Test.YthnfkacboijneaaGreatDoorP04Mems
import Derived.Below
import Derived.Laws.EntriesVeiled
import Derived.Deep.QuietTactic
import Derived.Deep.Cut
import Derived.Deep.WholeRow
import Derived.BigQuiet
import Derived.Test.YthnfkacboijneaaGreatDoorP03Nums
import Derived.WalkSmall
import Derived.Test.YthnfkacboijneaaGreatDoorP05Boxes
namespace Go.Proofs.YthnfkacboijneaaGreatDoor
set_option maxHeartbeats 1000000
set_option maxRecDepth 20000
open Go.ChangeShapes Go.WideShapes Go.ChangeAt Go.RowKit
def opMostA (k : Int) : Int := if k = 1 then 0 else 9999
def opMostB (k : Int) : Int := if k = 5 then 9999 else 0
def opB (k a x y : Int) : Bool := betw k 1 5 && (betw a 0 31 && (betw x 0 (opMostA k) && betw y 0 (opMostB k)))
theorem setRow_last (w : World) (o : Obj) (c c' : Array Value) (t : TypeId) : ((w.alloc o).alloc (.cells c t)).setRow (w.heap.size + 1) c' = (w.alloc o).alloc (.cells c' t) := by
 have := World.setRow_alloc_new (w.alloc o) c c' t
 rwa [show (w.alloc o).heap.size = w.heap.size + 1 by simp] at this
theorem heap_last (w : World) (o o2 : Obj) : ((w.alloc o).alloc o2).heap[w.heap.size + 1]? = some o2 := by
 have := heap_alloc_last (w.alloc o) o2
 rwa [show (w.alloc o).heap.size = w.heap.size + 1 by simp] at this
theorem op_cls {W : World} {g : Nat} {v0 v1 v2 v3 : Value} {t : TypeId} (R : W.heap[g]? = some (.cells #[v0, v1, v2, v3] t (0, 0))) :
    (∀ n : Cls (fun wx => Below W.heap.size W wx), n.w.cell? ⟨g, 0, none⟩ = some v0) ∧ (∀ n : Cls (fun wx => Below W.heap.size W wx), n.w.cell? ⟨g, 1, none⟩ = some v1) ∧
     (∀ n : Cls (fun wx => Below W.heap.size W wx), n.w.cell? ⟨g, 2, none⟩ = some v2) ∧ (∀ n : Cls (fun wx => Below W.heap.size W wx), n.w.cell? ⟨g, 3, none⟩ = some v3) := by
 refine ⟨fun n => ?_, fun n => ?_, fun n => ?_, fun n => ?_⟩
 ·rw [cell_of_row n.w g 0 _ t (0, 0) (row_keep n.h R)]; rfl
 ·rw [cell_of_row n.w g 1 _ t (0, 0) (row_keep n.h R)]; rfl
 ·rw [cell_of_row n.w g 2 _ t (0, 0) (row_keep n.h R)]; rfl
 ·rw [cell_of_row n.w g 3 _ t (0, 0) (row_keep n.h R)]; rfl
theorem bl_drew {w w' : World} {n : Nat} (h : Below n w w') {k : Nat} : Below n w (w'.drewN k) := ⟨h.os, h.tape, h.output, h.size, h.block⟩
theorem opKind {k : Int} (h : betw k 1 5 = true) : k = 1 ∨ k = 2 ∨ k = 3 ∨ k = 4 ∨ k = 5 := by simp [betw] at h; omega
theorem deedOf1 (w : World) :
    Calls Tryz.prog 243 #[.int .i64 1] w fun e w' => e = .returned (.agg #[.int .i64 0, .int .i64 0, .func (.func 270) #[] #[], .func (.func 271) #[] #[]]) ∧ Below w.heap.size w w' := by
 go_enter Tryz.func243, Tryz.ntmps243
 go_upto_region 1 with fail
 iterate 23 go_step
 refine wp_store_row 293 _ _ rfl (w.heap.size + 1) _ (by rfl) (by rfl) 293 _ (heap_last _ _ _) (by kernel_rfl) (by rfl) (by kernel_rfl) ?_
 rw [setRow_last]
 go_wp2
 refine bodyPost_ret (v := .agg #[.int .i64 0, .int .i64 0, .func (.func 270) #[] #[], .func (.func 271) #[] #[]]) (by simp [results, Tryz.results243, go_sem]) rfl ⟨rfl, ?_⟩
 repeat first
  | exact Below.refl _ _
  | refine Below.setCell ?_ (by simp <;> omega) _
  | refine Below.alloc ?_ (by simp <;> omega) _
  | refine Below.drew ?_
theorem deedOf2 (w : World) :
    Calls Tryz.prog 243 #[.int .i64 2] w fun e w' => e = .returned (.agg #[.int .i64 9999, .int .i64 0, .func (.func 272) #[] #[], .func (.func 273) #[] #[]]) ∧ Below w.heap.size w w' := by
 go_enter Tryz.func243, Tryz.ntmps243
 go_upto_region 1 with fail
 iterate 23 go_step
 refine wp_store_row 293 _ _ rfl (w.heap.size + 1) _ (by rfl) (by rfl) 293 _ (heap_last _ _ _) (by kernel_rfl) (by rfl) (by kernel_rfl) ?_
 rw [setRow_last]
 go_wp2
 refine bodyPost_ret (v := .agg #[.int .i64 9999, .int .i64 0, .func (.func 272) #[] #[], .func (.func 273) #[] #[]]) (by simp [results, Tryz.results243, go_sem]) rfl ⟨rfl, ?_⟩
 repeat first
  | exact Below.refl _ _
  | refine Below.setCell ?_ (by simp <;> omega) _
  | refine Below.alloc ?_ (by simp <;> omega) _
  | refine Below.drew ?_
theorem deedOf3 (w : World) :
    Calls Tryz.prog 243 #[.int .i64 3] w fun e w' => e = .returned (.agg #[.int .i64 9999, .int .i64 0, .func (.func 274) #[] #[], .func (.func 271) #[] #[]]) ∧ Below w.heap.size w w' := by
 go_enter Tryz.func243, Tryz.ntmps243
 go_upto_region 1 with fail
 iterate 23 go_step
 refine wp_store_row 293 _ _ rfl (w.heap.size + 1) _ (by rfl) (by rfl) 293 _ (heap_last _ _ _) (by kernel_rfl) (by rfl) (by kernel_rfl) ?_
 rw [setRow_last]
 go_wp2
 refine bodyPost_ret (v := .agg #[.int .i64 9999, .int .i64 0, .func (.func 274) #[] #[], .func (.func 271) #[] #[]]) (by simp [results, Tryz.results243, go_sem]) rfl ⟨rfl, ?_⟩
 repeat first
  | exact Below.refl _ _
  | refine Below.setCell ?_ (by simp <;> omega) _
  | refine Below.alloc ?_ (by simp <;> omega) _
  | refine Below.drew ?_
theorem deedOf4 (w : World) :
    Calls Tryz.prog 243 #[.int .i64 4] w fun e w' => e = .returned (.agg #[.int .i64 9999, .int .i64 0, .func (.func 272) #[] #[], .func (.func 271) #[] #[]]) ∧ Below w.heap.size w w' := by
 go_enter Tryz.func243, Tryz.ntmps243
 go_upto_region 1 with fail
 iterate 23 go_step
 refine wp_store_row 293 _ _ rfl (w.heap.size + 1) _ (by rfl) (by rfl) 293 _ (heap_last _ _ _) (by kernel_rfl) (by rfl) (by kernel_rfl) ?_
 rw [setRow_last]
 go_wp2
 refine bodyPost_ret (v := .agg #[.int .i64 9999, .int .i64 0, .func (.func 272) #[] #[], .func (.func 271) #[] #[]]) (by simp [results, Tryz.results243, go_sem]) rfl ⟨rfl, ?_⟩
 repeat first
  | exact Below.refl _ _
  | refine Below.setCell ?_ (by simp <;> omega) _
  | refine Below.alloc ?_ (by simp <;> omega) _
  | refine Below.drew ?_
theorem deedOf5 (w : World) :
    Calls Tryz.prog 243 #[.int .i64 5] w fun e w' => e = .returned (.agg #[.int .i64 9999, .int .i64 9999, .func (.func 275) #[] #[], .func (.func 271) #[] #[]]) ∧ Below w.heap.size w w' := by
 go_enter Tryz.func243, Tryz.ntmps243
 go_upto_region 1 with fail
 iterate 23 go_step
 refine wp_store_row 293 _ _ rfl (w.heap.size + 1) _ (by rfl) (by rfl) 293 _ (heap_last _ _ _) (by kernel_rfl) (by rfl) (by kernel_rfl) ?_
 rw [setRow_last]
 go_wp2
 refine bodyPost_ret (v := .agg #[.int .i64 9999, .int .i64 9999, .func (.func 275) #[] #[], .func (.func 271) #[] #[]]) (by simp [results, Tryz.results243, go_sem]) rfl ⟨rfl, ?_⟩
 repeat first
  | exact Below.refl _ _
  | refine Below.setCell ?_ (by simp <;> omega) _
  | refine Below.alloc ?_ (by simp <;> omega) _
  | refine Below.drew ?_
theorem fits_any (p q : Int) (f g : Value) (k a x y : Int) (w : World) :
    Calls Tryz.prog 244 #[.agg #[.int .i64 p, .int .i64 q, f, g], .agg #[.int .i64 k, .int .i64 a, .int .i64 x, .int .i64 y]] w fun e w' => e = .returned (.bool (betw x 0 p && betw y 0 q)) ∧ Below w.heap.size w w' := by
 cases h : betw x 0 p
 all_goals
  go_enter Tryz.func244, Tryz.ntmps244
  go_wp2_with (go_at_call 157; refine (between_any _ _ _ _).mono ?_; rintro e w' ⟨rfl, rfl⟩)
  go_ret
  refine ⟨rfl, ?_⟩
  exact (Below.alloc (Below.alloc (Below.refl _ _) (Nat.le_refl _) _) (by simp) _)
theorem implOpOk_any (k a x y : Int) (w : World) :
    Calls Tryz.prog 201 #[.agg #[.int .i64 k, .int .i64 a, .int .i64 x, .int .i64 y]] w fun e w' => e = .returned (.bool (opB k a x y)) ∧ Below w.heap.size w w' := by
 have B := (Below.refl w.heap.size w).alloc (Nat.le_refl _)
 cases h1 : betw k 1 5
 ·have H : Hid (opB k a x y = false) := by unfold Hid opB; simp [h1]
  go_enter Tryz.func201, Tryz.ntmps201
  go_wp2
  go_quiet (first | (go_at_call 157; exact Calls.quiet_of_same (between_any _ _ _ _)))
  go_wp2
  go_ret
  exact ⟨ret_bool H.out.symm, bl_drew (B _)⟩
 ·cases h2 : betw a 0 31
  ·have H : Hid (opB k a x y = false) := by unfold Hid opB; simp [h2]
   go_enter Tryz.func201, Tryz.ntmps201
   go_wp2
   go_quiet (first | (go_at_call 157; exact Calls.quiet_of_same (between_any _ _ _ _)))
   go_wp2
   go_ret
   exact ⟨ret_bool H.out.symm, bl_drew (B _)⟩
  ·rcases opKind h1 with rfl | rfl | rfl | rfl | rfl
   ·have H : Hid (opB 1 a x y = (betw x 0 0 && betw y 0 0)) := by unfold Hid opB; rw [h1, h2]; rfl
    have R := heap_alloc_new w (.cells #[.int .i64 1, .int .i64 a, .int .i64 x, .int .i64 y] 98)
    replace B := B (.cells #[.int .i64 1, .int .i64 a, .int .i64 x, .int .i64 y] 98)
    go_enter Tryz.func201, Tryz.ntmps201
    go_wp2
    generalize w.alloc (.cells #[.int .i64 1, .int .i64 a, .int .i64 x, .int .i64 y] 98) = W at R B ⊢
    obtain ⟨n0, n1, n2, n3⟩ := op_cls R
    clear R
    refine region_class (fun wx => Below W.heap.size W wx) (by kernel_rfl) (by kernel_rfl) ((Below.refl _ W).drew) ?_
    intro hne
    repeat (quiet_step (first
     | (go_at_call 157; exact calls_class_same (between_any _ _ _ _))
     | (go_at_call 243; exact calls_class (deedOf1 _) (fun w' hc bb => below_step hc bb))
     | (go_at_call 244; exact calls_class (fits_any _ _ _ _ _ _ _ _ _) (fun w' hc bb => below_step hc bb))))
    refine wpQuiet_nil ?_
    intro wx b2
    clear n0 n1 n2 n3 hne
    go_wp2
    go_ret
    exact ⟨ret_bool H.out.symm, below_step B b2⟩
   ·have H : Hid (opB 2 a x y = (betw x 0 9999 && betw y 0 0)) := by unfold Hid opB; rw [h1, h2]; rfl
    have R := heap_alloc_new w (.cells #[.int .i64 2, .int .i64 a, .int .i64 x, .int .i64 y] 98)
    replace B := B (.cells #[.int .i64 2, .int .i64 a, .int .i64 x, .int .i64 y] 98)
    go_enter Tryz.func201, Tryz.ntmps201
    go_wp2
    generalize w.alloc (.cells #[.int .i64 2, .int .i64 a, .int .i64 x, .int .i64 y] 98) = W at R B ⊢
    obtain ⟨n0, n1, n2, n3⟩ := op_cls R
    clear R
    refine region_class (fun wx => Below W.heap.size W wx) (by kernel_rfl) (by kernel_rfl) ((Below.refl _ W).drew) ?_
    intro hne
    repeat (quiet_step (first
     | (go_at_call 157; exact calls_class_same (between_any _ _ _ _))
     | (go_at_call 243; exact calls_class (deedOf2 _) (fun w' hc bb => below_step hc bb))
     | (go_at_call 244; exact calls_class (fits_any _ _ _ _ _ _ _ _ _) (fun w' hc bb => below_step hc bb))))
    refine wpQuiet_nil ?_
    intro wx b2
    clear n0 n1 n2 n3 hne
    go_wp2
    go_ret
    exact ⟨ret_bool H.out.symm, below_step B b2⟩
   ·have H : Hid (opB 3 a x y = (betw x 0 9999 && betw y 0 0)) := by unfold Hid opB; rw [h1, h2]; rfl
    have R := heap_alloc_new w (.cells #[.int .i64 3, .int .i64 a, .int .i64 x, .int .i64 y] 98)
    replace B := B (.cells #[.int .i64 3, .int .i64 a, .int .i64 x, .int .i64 y] 98)
    go_enter Tryz.func201, Tryz.ntmps201
    go_wp2
    generalize w.alloc (.cells #[.int .i64 3, .int .i64 a, .int .i64 x, .int .i64 y] 98) = W at R B ⊢
    obtain ⟨n0, n1, n2, n3⟩ := op_cls R
    clear R
    refine region_class (fun wx => Below W.heap.size W wx) (by kernel_rfl) (by kernel_rfl) ((Below.refl _ W).drew) ?_
    intro hne
    repeat (quiet_step (first
     | (go_at_call 157; exact calls_class_same (between_any _ _ _ _))
     | (go_at_call 243; exact calls_class (deedOf3 _) (fun w' hc bb => below_step hc bb))
     | (go_at_call 244; exact calls_class (fits_any _ _ _ _ _ _ _ _ _) (fun w' hc bb => below_step hc bb))))
    refine wpQuiet_nil ?_
    intro wx b2
    clear n0 n1 n2 n3 hne
    go_wp2
    go_ret
    exact ⟨ret_bool H.out.symm, below_step B b2⟩
   ·have H : Hid (opB 4 a x y = (betw x 0 9999 && betw y 0 0)) := by unfold Hid opB; rw [h1, h2]; rfl
    have R := heap_alloc_new w (.cells #[.int .i64 4, .int .i64 a, .int .i64 x, .int .i64 y] 98)
    replace B := B (.cells #[.int .i64 4, .int .i64 a, .int .i64 x, .int .i64 y] 98)
    go_enter Tryz.func201, Tryz.ntmps201
    go_wp2
    generalize w.alloc (.cells #[.int .i64 4, .int .i64 a, .int .i64 x, .int .i64 y] 98) = W at R B ⊢
    obtain ⟨n0, n1, n2, n3⟩ := op_cls R
    clear R
    refine region_class (fun wx => Below W.heap.size W wx) (by kernel_rfl) (by kernel_rfl) ((Below.refl _ W).drew) ?_
    intro hne
    repeat (quiet_step (first
     | (go_at_call 157; exact calls_class_same (between_any _ _ _ _))
     | (go_at_call 243; exact calls_class (deedOf4 _) (fun w' hc bb => below_step hc bb))
     | (go_at_call 244; exact calls_class (fits_any _ _ _ _ _ _ _ _ _) (fun w' hc bb => below_step hc bb))))
    refine wpQuiet_nil ?_
    intro wx b2
    clear n0 n1 n2 n3 hne
    go_wp2
    go_ret
    exact ⟨ret_bool H.out.symm, below_step B b2⟩
   ·have H : Hid (opB 5 a x y = (betw x 0 9999 && betw y 0 9999)) := by unfold Hid opB; rw [h1, h2]; rfl
    have R := heap_alloc_new w (.cells #[.int .i64 5, .int .i64 a, .int .i64 x, .int .i64 y] 98)
    replace B := B (.cells #[.int .i64 5, .int .i64 a, .int .i64 x, .int .i64 y] 98)
    go_enter Tryz.func201, Tryz.ntmps201
    go_wp2
    generalize w.alloc (.cells #[.int .i64 5, .int .i64 a, .int .i64 x, .int .i64 y] 98) = W at R B ⊢
    obtain ⟨n0, n1, n2, n3⟩ := op_cls R
    clear R
    refine region_class (fun wx => Below W.heap.size W wx) (by kernel_rfl) (by kernel_rfl) ((Below.refl _ W).drew) ?_
    intro hne
    repeat (quiet_step (first
     | (go_at_call 157; exact calls_class_same (between_any _ _ _ _))
     | (go_at_call 243; exact calls_class (deedOf5 _) (fun w' hc bb => below_step hc bb))
     | (go_at_call 244; exact calls_class (fits_any _ _ _ _ _ _ _ _ _) (fun w' hc bb => below_step hc bb))))
    refine wpQuiet_nil ?_
    intro wx b2
    clear n0 n1 n2 n3 hne
    go_wp2
    go_ret
    exact ⟨ret_bool H.out.symm, below_step B b2⟩
theorem specOpOk_any (k a x y : Int) (w : World) :
    Calls Tryz.prog 92 #[.agg #[.int .i64 k, .int .i64 a, .int .i64 x, .int .i64 y]] w fun e w' => e = .returned (.bool (opB k a x y)) ∧ Below w.heap.size w w' := by
 have B := (Below.refl w.heap.size w).alloc (Nat.le_refl _)
 cases h1 : betw k 1 5 <;> cases h2 : betw a 0 31 <;> cases h3 : okW x <;> cases h4 : okW y
 case true.true.true.true =>
  rcases opKind h1 with rfl | rfl | rfl | rfl | rfl
  ·have H : Hid (opB 1 a x y = (x == 0 && y == 0)) := by
     unfold Hid opB opMostA opMostB
     unfold okW betw at h3 h4
     rw [h1, h2]
     unfold betw
     rw [Bool.eq_iff_iff]
     simp at h3 h4 ⊢
     omega
   by_cases hx : x = 0 <;> by_cases hy : y = 0
   all_goals
    go_enter Tryz.func92, Tryz.ntmps92
    go_wp2_with (first
     | (go_at_call 84; refine (l1In_any _ _ _ _).mono ?_; rintro e w' ⟨rfl, rfl⟩)
     | (go_at_call 152; refine (l3Word_any _ _).mono ?_; rintro e w' ⟨rfl, rfl⟩))
    go_ret
    exact ⟨ret_bool (H.out.trans (by simp [hx, hy])).symm, B _⟩
  ·have H : Hid (opB 2 a x y = (y == 0)) := by
     unfold Hid opB opMostA opMostB
     unfold okW betw at h3 h4
     rw [h1, h2]
     unfold betw
     rw [Bool.eq_iff_iff]
     simp at h3 h4 ⊢
     omega
   by_cases hy : y = 0
   all_goals
    go_enter Tryz.func92, Tryz.ntmps92
    go_wp2_with (first
     | (go_at_call 84; refine (l1In_any _ _ _ _).mono ?_; rintro e w' ⟨rfl, rfl⟩)
     | (go_at_call 152; refine (l3Word_any _ _).mono ?_; rintro e w' ⟨rfl, rfl⟩))
    go_ret
    exact ⟨ret_bool (H.out.trans (by simp [hy])).symm, B _⟩
  ·have H : Hid (opB 3 a x y = (y == 0)) := by
     unfold Hid opB opMostA opMostB
     unfold okW betw at h3 h4
     rw [h1, h2]
     unfold betw
     rw [Bool.eq_iff_iff]
     simp at h3 h4 ⊢
     omega
   by_cases hy : y = 0
   all_goals
    go_enter Tryz.func92, Tryz.ntmps92
    go_wp2_with (first
     | (go_at_call 84; refine (l1In_any _ _ _ _).mono ?_; rintro e w' ⟨rfl, rfl⟩)
     | (go_at_call 152; refine (l3Word_any _ _).mono ?_; rintro e w' ⟨rfl, rfl⟩))
    go_ret
    exact ⟨ret_bool (H.out.trans (by simp [hy])).symm, B _⟩
  ·have H : Hid (opB 4 a x y = (y == 0)) := by
     unfold Hid opB opMostA opMostB
     unfold okW betw at h3 h4
     rw [h1, h2]
     unfold betw
     rw [Bool.eq_iff_iff]
     simp at h3 h4 ⊢
     omega
   by_cases hy : y = 0
   all_goals
    go_enter Tryz.func92, Tryz.ntmps92
    go_wp2_with (first
     | (go_at_call 84; refine (l1In_any _ _ _ _).mono ?_; rintro e w' ⟨rfl, rfl⟩)
     | (go_at_call 152; refine (l3Word_any _ _).mono ?_; rintro e w' ⟨rfl, rfl⟩))
    go_ret
    exact ⟨ret_bool (H.out.trans (by simp [hy])).symm, B _⟩
  ·have H : Hid (opB 5 a x y = true) := by
     unfold Hid opB opMostA opMostB
     unfold okW betw at h3 h4
     rw [h1, h2]
     unfold betw
     rw [Bool.eq_iff_iff]
     simp at h3 h4 ⊢
     omega
   skip
   all_goals
    go_enter Tryz.func92, Tryz.ntmps92
    go_wp2_with (first
     | (go_at_call 84; refine (l1In_any _ _ _ _).mono ?_; rintro e w' ⟨rfl, rfl⟩)
     | (go_at_call 152; refine (l3Word_any _ _).mono ?_; rintro e w' ⟨rfl, rfl⟩))
    go_ret
    exact ⟨ret_bool (H.out.trans (by simp [])).symm, B _⟩
 all_goals
  have H : Hid (opB k a x y = false) := by
   unfold Hid opB opMostA opMostB
   unfold okW betw at h3 h4
   unfold betw at h1 h2 ⊢
   rw [Bool.eq_iff_iff]
   simp at h1 h2 h3 h4 ⊢
   intros
   try split
   all_goals omega
  go_enter Tryz.func92, Tryz.ntmps92
  go_wp2_with (first
        | (go_at_call 84; refine (l1In_any _ _ _ _).mono ?_; rintro e w' ⟨rfl, rfl⟩)
        | (go_at_call 152; refine (l3Word_any _ _).mono ?_; rintro e w' ⟨rfl, rfl⟩))
  go_ret
  exact ⟨ret_bool H.out.symm, B _⟩
theorem linesOk_any (k : Int) (w : World) : Calls Tryz.prog 129 #[.int .i64 k] w fun e w' => e = .returned (.bool (betw k 1 16)) ∧ w' = w := by
 go_enter Tryz.func129, Tryz.ntmps129
 go_wp2_with (go_at_call 157; refine (between_any _ _ _ _).mono ?_; rintro e w' ⟨rfl, rfl⟩)
 go_ret
 exact ⟨rfl, rfl⟩
def powB (n : Int) : Bool := decide (n = 1 ∨ n = 2 ∨ n = 4)
theorem sizeOk_any (n : Int) (w : World) :
    Calls Tryz.prog 158 #[.int .i64 n] w fun e w' => e = .returned (.bool (powB n)) ∧ w' = w := by
 go_enter Tryz.func158, Tryz.ntmps158
 go_wp2
 all_goals go_ret
 all_goals refine ⟨ret_bool ?_, rfl⟩
 all_goals first | (simp_all [powB]; done) | (rw [Bool.eq_iff_iff]; simp [powB]; omega)
theorem l2Pow_any (n : Int) (w : World) :
    Calls Tryz.prog 85 #[.int .i64 n] w fun e w' => e = .returned (.bool (powB n)) ∧ w' = w := by
 go_enter Tryz.func85, Tryz.ntmps85
 go_wp2
 all_goals go_ret
 all_goals refine ⟨ret_bool ?_, rfl⟩
 all_goals first | (simp_all [powB]; done) | (rw [Bool.eq_iff_iff]; simp [powB]; omega)
def codeI (c s y l : Int) : Int := if betw c 1 4 then (if powB s then (if powB y then (if betw l 1 16 then 0 else 4) else 3) else 2) else 1
theorem specCode_any (c s y l : Int) (w : World) :
    Calls Tryz.prog 28 #[.agg #[.int .i64 c, .int .i64 s, .int .i64 y, .int .i64 l]] w fun e w' => e = .returned (.int .i64 (codeI c s y l)) ∧ Below w.heap.size w w' := by
 have B := (Below.refl w.heap.size w).alloc (Nat.le_refl _)
 unfold codeI
 cases h1 : betw c 1 4 <;> cases h2 : powB s <;> cases h3 : powB y <;> cases h4 : betw l 1 16
 all_goals
  go_enter Tryz.func28, Tryz.ntmps28
  go_wp2_with (first
   | (go_at_call 84; refine (l1In_any _ _ _ _).mono ?_; rintro e w' ⟨rfl, rfl⟩)
   | (go_at_call 85; refine (l2Pow_any _ _).mono ?_; rintro e w' ⟨rfl, rfl⟩))
  go_ret
  exact ⟨rfl, B _⟩
theorem firstWrong_any (c s y l : Int) (w : World) :
    Calls Tryz.prog 102 #[.agg #[.int .i64 c, .int .i64 s, .int .i64 y, .int .i64 l], .int .i64 1] w fun e w' => e = .returned (.int .i64 (codeI c s y l)) ∧ Below w.heap.size w w' := by
 have B := (Below.refl w.heap.size w).alloc (Nat.le_refl _)
 unfold codeI
 cases h1 : betw c 1 4 <;> cases h2 : powB s <;> cases h3 : powB y <;> cases h4 : betw l 1 16
 all_goals
  go_enter Tryz.func102, Tryz.ntmps102
  go_wp2_with (first
   | (go_at_call 157; refine (between_any _ _ _ _).mono ?_; rintro e w' ⟨rfl, rfl⟩)
   | (go_at_call 129; refine (linesOk_any _ _).mono ?_; rintro e w' ⟨rfl, rfl⟩)
   | (go_at_call 158; refine (sizeOk_any _ _).mono ?_; rintro e w' ⟨rfl, rfl⟩))
  go_ret
  exact ⟨rfl, B _⟩
theorem implCode_any (c s y l : Int) (w : World) :
    Calls Tryz.prog 42 #[.agg #[.int .i64 c, .int .i64 s, .int .i64 y, .int .i64 l]] w fun e w' => e = .returned (.int .i64 (codeI c s y l)) ∧ Below w.heap.size w w' := by
 have B := (Below.refl w.heap.size w).alloc (Nat.le_refl _)
 go_enter Tryz.func42, Tryz.ntmps42
 go_wp2_with (go_at_call 102; refine (firstWrong_any _ _ _ _ _).mono ?_; rintro e w' ⟨rfl, b1⟩)
 go_ret
 exact ⟨rfl, below_step (B _) b1⟩
theorem code_zero {c s y l : Int} (h : codeI c s y l = 0) : (1 ≤ l ∧ l ≤ 16) ∧ (s = 1 ∨ s = 2 ∨ s = 4) := by
 unfold codeI at h
 cases h1 : betw c 1 4 <;> cases h2 : powB s <;> cases h3 : powB y <;> cases h4 : betw l 1 16 <;> simp [h1, h2, h3, h4] at h
 simp [betw] at h4
 simp [powB] at h2
 exact ⟨h4, h2⟩
def lineB (c s y l k : Int) : Bool := decide (codeI c s y l = 0 ∧ 0 ≤ k ∧ k < l)
def addrB (c s y l k : Int) : Bool := decide (codeI c s y l = 0 ∧ 0 ≤ k ∧ k < 2 * l)
theorem box_cell {w w1 : World} {cs : Array Value} {t : TypeId} (h : Below (w.alloc (.cells cs t)).heap.size (w.alloc (.cells cs t)) w1) (j : Nat) : w1.cell? ⟨w.heap.size, j, none⟩ = cs[j]? := by
 rw [h.cell (by simp), cell_of_row (w.alloc (.cells cs t)) w.heap.size j cs t (0, 0) (heap_alloc_new w _)]
theorem hasLine_any (c s y l k : Int) (w : World) :
    Calls Tryz.prog 186 #[.agg #[.int .i64 c, .int .i64 s, .int .i64 y, .int .i64 l], .int .i64 k] w fun e w' => e = .returned (.bool (lineB c s y l k)) ∧ Below w.heap.size w w' := by
 have B := (Below.refl w.heap.size w).alloc (Nat.le_refl _)
 by_cases h0 : codeI c s y l = 0
 ·obtain ⟨hl, hs⟩ := code_zero h0
  have h0' : (codeI c s y l == 0) = true := by simp [h0]
  have HL : Hid (lineB c s y l k = betw k 0 (l - 1)) := by
   unfold Hid lineB betw
   simp only [h0, true_and]
   rw [Bool.eq_iff_iff]
   simp
   omega
  clear h0 hs
  go_enter Tryz.func186, Tryz.ntmps186
  go_wp2_with fail
  refine (implCode_any _ _ _ _ _).mono ?_
  rintro e w1 ⟨rfl, b1⟩
  have c3 := (box_cell b1 3)
  simp only [List.getElem?_toArray, List.getElem?_cons_succ, List.getElem?_cons_zero] at c3
  go_wp2_with (go_at_call 157; refine (between_any _ _ _ _).mono ?_; rintro e w' ⟨rfl, rfl⟩)
  go_ret
  exact ⟨ret_bool HL.out.symm, below_step (B _) b1⟩
 ·have h0' : (codeI c s y l == 0) = false := by simp [h0]
  have HL : Hid (lineB c s y l k = false) := by
   unfold Hid lineB
   simp [h0]
  clear h0
  go_enter Tryz.func186, Tryz.ntmps186
  go_wp2_with (go_at_call 42; refine (implCode_any _ _ _ _ _).mono ?_; rintro e w1 ⟨rfl, b1⟩)
  go_ret
  exact ⟨ret_bool HL.out.symm, below_step (B _) b1⟩
theorem l2Addr_any (c s y l a : Int) (w : World) (hl : 1 ≤ l ∧ l ≤ 16) :
    Calls Tryz.prog 96 #[.agg #[.int .i64 c, .int .i64 s, .int .i64 y, .int .i64 l], .int .i64 a] w fun e w' => e = .returned (.bool (betw a 0 (2 * l - 1))) ∧ Below w.heap.size w w' := by
 have B := (Below.refl w.heap.size w).alloc (Nat.le_refl _)
 by_cases h1 : 0 ≤ a
 ·by_cases h2 : a < 2 * l
  all_goals
   go_enter Tryz.func96, Tryz.ntmps96
   go_wp2
   go_ret
   exact ⟨ret_bool (by unfold betw; rw [Bool.eq_iff_iff]; simp; omega), B _⟩
 ·go_enter Tryz.func96, Tryz.ntmps96
  go_wp2
  go_ret
  exact ⟨ret_bool (by unfold betw; rw [Bool.eq_iff_iff]; simp; omega), B _⟩
theorem addrB_half (c s y l a : Int) (h : 0 ≤ a) : lineB c s y l (a / 2) = addrB c s y l a := by
 unfold addrB lineB
 rw [Bool.eq_iff_iff]
 simp
 intro _
 omega
theorem addrB_neg (c s y l a : Int) (h : ¬ 0 ≤ a) : addrB c s y l a = false := by
 unfold addrB
 simp
 omega
theorem hasAddr_any (c s y l a : Int) (w : World) (hw : 0 ≤ a → wrap64 (a.tdiv 2) = a / 2) :
    Calls Tryz.prog 239 #[.agg #[.int .i64 c, .int .i64 s, .int .i64 y, .int .i64 l], .int .i64 a] w fun e w' => e = .returned (.bool (addrB c s y l a)) ∧ Below w.heap.size w w' := by
 have B := (Below.refl w.heap.size w).alloc (Nat.le_refl _)
 by_cases h1 : 0 ≤ a
 ·have H := addrB_half c s y l a h1
  have H' : Hid _ := H
  have hw' := hw h1
  clear H hw
  go_enter Tryz.func239, Tryz.ntmps239
  go_wp2_with (go_at_call 186; refine (hasLine_any _ _ _ _ _ _).mono ?_; rintro e w1 ⟨rfl, b1⟩)
  go_ret
  exact ⟨ret_bool H'.out, below_step (B _) b1⟩
 ·have H' : Hid _ := addrB_neg c s y l a h1
  clear hw
  go_enter Tryz.func239, Tryz.ntmps239
  go_wp2
  go_ret
  exact ⟨ret_bool H'.out.symm, B _⟩
set_option linter.unusedVariables false
end Go.Proofs.YthnfkacboijneaaGreatDoor
