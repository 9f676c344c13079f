import Derived.Test.YtiiipclglngdhaaGreatDoorQ00Box
import Derived.Test.YtiiipclglngdhaaGreatDoorQ02Nums
import Derived.Test.YtiiipclglngdhaaGreatDoorQ14Lines6
import Derived.Below
import Derived.Laws.EntriesVeiled
import Derived.Deep.QuietTactic
import Derived.Deep.Cut
import Derived.Deep.WholeRow
import Derived.BigQuiet
import Derived.Test.YtiiipclglngdhaaGreatDoorQ03Bits
namespace Go.Proofs.YtiiipclglngdhaaGreatDoor
set_option maxHeartbeats 1000000
set_option maxRecDepth 20000
def badP {α : Type} (p : α → Bool) (xs : List α) : Int := match xs.findIdx? (fun u => !p u) with
 | some i => (i : Int)
 | none => -1
theorem badP_at {α : Type} {p : α → Bool} {xs : List α} {k : Nat} {u : α} (hu : xs[k]? = some u) (hp : p u = false) (hno : ∀ j v, j < k → xs[j]? = some v → p v = true) : badP p xs = (k : Int) := by
 have hk := (List.getElem?_eq_some_iff.1 hu).1
 have : xs.findIdx? (fun u => !p u) = some k := by
  rw [List.findIdx?_eq_some_iff_getElem]
  refine ⟨hk, ?_, fun j hj => ?_⟩
  ·rw [List.getElem?_eq_getElem hk] at hu
   cases hu
   simp [hp]
  ·have := hno j _ hj (List.getElem?_eq_getElem (by omega))
   simp [this]
 unfold badP
 rw [this]
theorem badP_no {α : Type} {p : α → Bool} {xs : List α} (hno : ∀ (j : Nat) (v : α), xs[j]? = some v → p v = true) : badP p xs = -1 := by
 have : xs.findIdx? (fun u => !p u) = none := by
  rw [List.findIdx?_eq_none_iff]
  intro u hu
  obtain ⟨j, hj⟩ := List.getElem?_of_mem hu
  simp [hno j u hj]
 unfold badP
 rw [this]
theorem badP_all {α : Type} (p : α → Bool) (xs : List α) : xs.all p = decide (badP p xs < 0) := by
 cases h : xs.all p
 ·have h1 : ¬ ∀ x ∈ xs, p x = true := fun hh => by rw [List.all_eq_true.2 hh] at h; cases h
  cases hf : xs.findIdx? (fun u => !p u) with
  | none =>
   rw [List.findIdx?_eq_none_iff] at hf
   exact (h1 fun x hx => by have := hf x hx; simpa using this).elim
  | some i => simp [badP, hf]
 ·rw [badP_no fun j v hv => List.all_eq_true.1 h v (List.mem_of_getElem? hv)]
  rfl
open Go.ChangeShapes Go.WideShapes Go.ChangeAt Go.RowKit
def opMostA (k : Int) : Int := if k = 1 then 0 else 9999
def opMostB (k : Int) : Int := if k = 5 then 9999 else 0
def opB (k a x y : Int) : Bool := betw k 1 5 && (betw a 0 31 && (betw x 0 (opMostA k) && betw y 0 (opMostB k)))
theorem setRow_last (w : World) (o : Obj) (c c' : Array Value) (t : TypeId) : ((w.alloc o).alloc (.cells c t)).setRow (w.heap.size + 1) c' = (w.alloc o).alloc (.cells c' t) := by
 have := World.setRow_alloc_new (w.alloc o) c c' t
 rwa [show (w.alloc o).heap.size = w.heap.size + 1 by simp] at this
theorem heap_last (w : World) (o o2 : Obj) : ((w.alloc o).alloc o2).heap[w.heap.size + 1]? = some o2 := by
 have := heap_alloc_last (w.alloc o) o2
 rwa [show (w.alloc o).heap.size = w.heap.size + 1 by simp] at this
theorem op_cls {W : World} {g : Nat} {v0 v1 v2 v3 : Value} {t : TypeId} (R : W.heap[g]? = some (.cells #[v0, v1, v2, v3] t (0, 0))) :
    (∀ n : Cls (fun wx => Below W.heap.size W wx), n.w.cell? ⟨g, 0, none⟩ = some v0) ∧ (∀ n : Cls (fun wx => Below W.heap.size W wx), n.w.cell? ⟨g, 1, none⟩ = some v1) ∧
     (∀ n : Cls (fun wx => Below W.heap.size W wx), n.w.cell? ⟨g, 2, none⟩ = some v2) ∧ (∀ n : Cls (fun wx => Below W.heap.size W wx), n.w.cell? ⟨g, 3, none⟩ = some v3) := by
 refine ⟨fun n => ?_, fun n => ?_, fun n => ?_, fun n => ?_⟩
 ·rw [cell_of_row n.w g 0 _ t (0, 0) (row_keep n.h R)]; rfl
 ·rw [cell_of_row n.w g 1 _ t (0, 0) (row_keep n.h R)]; rfl
 ·rw [cell_of_row n.w g 2 _ t (0, 0) (row_keep n.h R)]; rfl
 ·rw [cell_of_row n.w g 3 _ t (0, 0) (row_keep n.h R)]; rfl
theorem bl_drew {w w' : World} {n : Nat} (h : Below n w w') {k : Nat} : Below n w (w'.drewN k) := ⟨h.os, h.tape, h.output, h.size, h.block⟩
theorem opKind {k : Int} (h : betw k 1 5 = true) : k = 1 ∨ k = 2 ∨ k = 3 ∨ k = 4 ∨ k = 5 := by simp [betw] at h; omega
theorem deedOf1 (w : World) :
    Calls Tryz.prog 217 #[.int .i64 1] w fun e w' => e = .returned (.agg #[.int .i64 0, .int .i64 0, .func (.func 234) #[] #[], .func (.func 235) #[] #[]]) ∧ Below w.heap.size w w' := by
 go_enter Tryz.func217, Tryz.ntmps217
 go_upto_region 1 with fail
 iterate 23 go_step
 refine wp_store_row 276 _ _ rfl (w.heap.size + 1) _ (by rfl) (by rfl) 276 _ (heap_last _ _ _) (by kernel_rfl) (by rfl) (by kernel_rfl) ?_
 rw [setRow_last]
 go_wp2
 refine bodyPost_ret (v := .agg #[.int .i64 0, .int .i64 0, .func (.func 234) #[] #[], .func (.func 235) #[] #[]]) (by simp [results, Tryz.results217, go_sem]) rfl ⟨rfl, ?_⟩
 repeat first
  | exact Below.refl _ _
  | refine Below.setCell ?_ (by simp <;> omega) _
  | refine Below.alloc ?_ (by simp <;> omega) _
  | refine Below.drew ?_
theorem deedOf2 (w : World) :
    Calls Tryz.prog 217 #[.int .i64 2] w fun e w' => e = .returned (.agg #[.int .i64 9999, .int .i64 0, .func (.func 236) #[] #[], .func (.func 237) #[] #[]]) ∧ Below w.heap.size w w' := by
 go_enter Tryz.func217, Tryz.ntmps217
 go_upto_region 1 with fail
 iterate 23 go_step
 refine wp_store_row 276 _ _ rfl (w.heap.size + 1) _ (by rfl) (by rfl) 276 _ (heap_last _ _ _) (by kernel_rfl) (by rfl) (by kernel_rfl) ?_
 rw [setRow_last]
 go_wp2
 refine bodyPost_ret (v := .agg #[.int .i64 9999, .int .i64 0, .func (.func 236) #[] #[], .func (.func 237) #[] #[]]) (by simp [results, Tryz.results217, go_sem]) rfl ⟨rfl, ?_⟩
 repeat first
  | exact Below.refl _ _
  | refine Below.setCell ?_ (by simp <;> omega) _
  | refine Below.alloc ?_ (by simp <;> omega) _
  | refine Below.drew ?_
theorem deedOf3 (w : World) :
    Calls Tryz.prog 217 #[.int .i64 3] w fun e w' => e = .returned (.agg #[.int .i64 9999, .int .i64 0, .func (.func 238) #[] #[], .func (.func 235) #[] #[]]) ∧ Below w.heap.size w w' := by
 go_enter Tryz.func217, Tryz.ntmps217
 go_upto_region 1 with fail
 iterate 23 go_step
 refine wp_store_row 276 _ _ rfl (w.heap.size + 1) _ (by rfl) (by rfl) 276 _ (heap_last _ _ _) (by kernel_rfl) (by rfl) (by kernel_rfl) ?_
 rw [setRow_last]
 go_wp2
 refine bodyPost_ret (v := .agg #[.int .i64 9999, .int .i64 0, .func (.func 238) #[] #[], .func (.func 235) #[] #[]]) (by simp [results, Tryz.results217, go_sem]) rfl ⟨rfl, ?_⟩
 repeat first
  | exact Below.refl _ _
  | refine Below.setCell ?_ (by simp <;> omega) _
  | refine Below.alloc ?_ (by simp <;> omega) _
  | refine Below.drew ?_
theorem deedOf4 (w : World) :
    Calls Tryz.prog 217 #[.int .i64 4] w fun e w' => e = .returned (.agg #[.int .i64 9999, .int .i64 0, .func (.func 236) #[] #[], .func (.func 235) #[] #[]]) ∧ Below w.heap.size w w' := by
 go_enter Tryz.func217, Tryz.ntmps217
 go_upto_region 1 with fail
 iterate 23 go_step
 refine wp_store_row 276 _ _ rfl (w.heap.size + 1) _ (by rfl) (by rfl) 276 _ (heap_last _ _ _) (by kernel_rfl) (by rfl) (by kernel_rfl) ?_
 rw [setRow_last]
 go_wp2
 refine bodyPost_ret (v := .agg #[.int .i64 9999, .int .i64 0, .func (.func 236) #[] #[], .func (.func 235) #[] #[]]) (by simp [results, Tryz.results217, go_sem]) rfl ⟨rfl, ?_⟩
 repeat first
  | exact Below.refl _ _
  | refine Below.setCell ?_ (by simp <;> omega) _
  | refine Below.alloc ?_ (by simp <;> omega) _
  | refine Below.drew ?_
theorem deedOf5 (w : World) :
    Calls Tryz.prog 217 #[.int .i64 5] w fun e w' => e = .returned (.agg #[.int .i64 9999, .int .i64 9999, .func (.func 239) #[] #[], .func (.func 235) #[] #[]]) ∧ Below w.heap.size w w' := by
 go_enter Tryz.func217, Tryz.ntmps217
 go_upto_region 1 with fail
 iterate 23 go_step
 refine wp_store_row 276 _ _ rfl (w.heap.size + 1) _ (by rfl) (by rfl) 276 _ (heap_last _ _ _) (by kernel_rfl) (by rfl) (by kernel_rfl) ?_
 rw [setRow_last]
 go_wp2
 refine bodyPost_ret (v := .agg #[.int .i64 9999, .int .i64 9999, .func (.func 239) #[] #[], .func (.func 235) #[] #[]]) (by simp [results, Tryz.results217, go_sem]) rfl ⟨rfl, ?_⟩
 repeat first
  | exact Below.refl _ _
  | refine Below.setCell ?_ (by simp <;> omega) _
  | refine Below.alloc ?_ (by simp <;> omega) _
  | refine Below.drew ?_
theorem fits_any (p q : Int) (f g : Value) (k a x y : Int) (w : World) :
    Calls Tryz.prog 218 #[.agg #[.int .i64 p, .int .i64 q, f, g], .agg #[.int .i64 k, .int .i64 a, .int .i64 x, .int .i64 y]] w fun e w' => e = .returned (.bool (betw x 0 p && betw y 0 q)) ∧ Below w.heap.size w w' := by
 cases h : betw x 0 p
 all_goals
  go_enter Tryz.func218, Tryz.ntmps218
  go_wp2_with (go_at_call 123; refine (between_any _ _ _ _).mono ?_; rintro e w' ⟨rfl, rfl⟩)
  go_ret
  refine ⟨rfl, ?_⟩
  exact (Below.alloc (Below.alloc (Below.refl _ _) (Nat.le_refl _) _) (by simp) _)
theorem implOpOk_any (k a x y : Int) (w : World) :
    Calls Tryz.prog 188 #[.agg #[.int .i64 k, .int .i64 a, .int .i64 x, .int .i64 y]] w fun e w' => e = .returned (.bool (opB k a x y)) ∧ Below w.heap.size w w' := by
 have B := (Below.refl w.heap.size w).alloc (Nat.le_refl _)
 cases h1 : betw k 1 5
 ·have H : Hid (opB k a x y = false) := by unfold Hid opB; simp [h1]
  go_enter Tryz.func188, Tryz.ntmps188
  go_wp2
  go_quiet (first | (go_at_call 123; exact Calls.quiet_of_same (between_any _ _ _ _)))
  go_wp2
  go_ret
  exact ⟨ret_bool H.out.symm, bl_drew (B _)⟩
 ·cases h2 : betw a 0 31
  ·have H : Hid (opB k a x y = false) := by unfold Hid opB; simp [h2]
   go_enter Tryz.func188, Tryz.ntmps188
   go_wp2
   go_quiet (first | (go_at_call 123; exact Calls.quiet_of_same (between_any _ _ _ _)))
   go_wp2
   go_ret
   exact ⟨ret_bool H.out.symm, bl_drew (B _)⟩
  ·rcases opKind h1 with rfl | rfl | rfl | rfl | rfl
   ·have H : Hid (opB 1 a x y = (betw x 0 0 && betw y 0 0)) := by unfold Hid opB; rw [h1, h2]; rfl
    have R := heap_alloc_new w (.cells #[.int .i64 1, .int .i64 a, .int .i64 x, .int .i64 y] 117)
    replace B := B (.cells #[.int .i64 1, .int .i64 a, .int .i64 x, .int .i64 y] 117)
    go_enter Tryz.func188, Tryz.ntmps188
    go_wp2
    generalize w.alloc (.cells #[.int .i64 1, .int .i64 a, .int .i64 x, .int .i64 y] 117) = W at R B ⊢
    obtain ⟨n0, n1, n2, n3⟩ := op_cls R
    clear R
    refine region_class (fun wx => Below W.heap.size W wx) (by kernel_rfl) (by kernel_rfl) ((Below.refl _ W).drew) ?_
    intro hne
    repeat (quiet_step (first
     | (go_at_call 123; exact calls_class_same (between_any _ _ _ _))
     | (go_at_call 217; exact calls_class (deedOf1 _) (fun w' hc bb => below_step hc bb))
     | (go_at_call 218; exact calls_class (fits_any _ _ _ _ _ _ _ _ _) (fun w' hc bb => below_step hc bb))))
    refine wpQuiet_nil ?_
    intro wx b2
    clear n0 n1 n2 n3 hne
    go_wp2
    go_ret
    exact ⟨ret_bool H.out.symm, below_step B b2⟩
   ·have H : Hid (opB 2 a x y = (betw x 0 9999 && betw y 0 0)) := by unfold Hid opB; rw [h1, h2]; rfl
    have R := heap_alloc_new w (.cells #[.int .i64 2, .int .i64 a, .int .i64 x, .int .i64 y] 117)
    replace B := B (.cells #[.int .i64 2, .int .i64 a, .int .i64 x, .int .i64 y] 117)
    go_enter Tryz.func188, Tryz.ntmps188
    go_wp2
    generalize w.alloc (.cells #[.int .i64 2, .int .i64 a, .int .i64 x, .int .i64 y] 117) = W at R B ⊢
    obtain ⟨n0, n1, n2, n3⟩ := op_cls R
    clear R
    refine region_class (fun wx => Below W.heap.size W wx) (by kernel_rfl) (by kernel_rfl) ((Below.refl _ W).drew) ?_
    intro hne
    repeat (quiet_step (first
     | (go_at_call 123; exact calls_class_same (between_any _ _ _ _))
     | (go_at_call 217; exact calls_class (deedOf2 _) (fun w' hc bb => below_step hc bb))
     | (go_at_call 218; exact calls_class (fits_any _ _ _ _ _ _ _ _ _) (fun w' hc bb => below_step hc bb))))
    refine wpQuiet_nil ?_
    intro wx b2
    clear n0 n1 n2 n3 hne
    go_wp2
    go_ret
    exact ⟨ret_bool H.out.symm, below_step B b2⟩
   ·have H : Hid (opB 3 a x y = (betw x 0 9999 && betw y 0 0)) := by unfold Hid opB; rw [h1, h2]; rfl
    have R := heap_alloc_new w (.cells #[.int .i64 3, .int .i64 a, .int .i64 x, .int .i64 y] 117)
    replace B := B (.cells #[.int .i64 3, .int .i64 a, .int .i64 x, .int .i64 y] 117)
    go_enter Tryz.func188, Tryz.ntmps188
    go_wp2
    generalize w.alloc (.cells #[.int .i64 3, .int .i64 a, .int .i64 x, .int .i64 y] 117) = W at R B ⊢
    obtain ⟨n0, n1, n2, n3⟩ := op_cls R
    clear R
    refine region_class (fun wx => Below W.heap.size W wx) (by kernel_rfl) (by kernel_rfl) ((Below.refl _ W).drew) ?_
    intro hne
    repeat (quiet_step (first
     | (go_at_call 123; exact calls_class_same (between_any _ _ _ _))
     | (go_at_call 217; exact calls_class (deedOf3 _) (fun w' hc bb => below_step hc bb))
     | (go_at_call 218; exact calls_class (fits_any _ _ _ _ _ _ _ _ _) (fun w' hc bb => below_step hc bb))))
    refine wpQuiet_nil ?_
    intro wx b2
    clear n0 n1 n2 n3 hne
    go_wp2
    go_ret
    exact ⟨ret_bool H.out.symm, below_step B b2⟩
   ·have H : Hid (opB 4 a x y = (betw x 0 9999 && betw y 0 0)) := by unfold Hid opB; rw [h1, h2]; rfl
    have R := heap_alloc_new w (.cells #[.int .i64 4, .int .i64 a, .int .i64 x, .int .i64 y] 117)
    replace B := B (.cells #[.int .i64 4, .int .i64 a, .int .i64 x, .int .i64 y] 117)
    go_enter Tryz.func188, Tryz.ntmps188
    go_wp2
    generalize w.alloc (.cells #[.int .i64 4, .int .i64 a, .int .i64 x, .int .i64 y] 117) = W at R B ⊢
    obtain ⟨n0, n1, n2, n3⟩ := op_cls R
    clear R
    refine region_class (fun wx => Below W.heap.size W wx) (by kernel_rfl) (by kernel_rfl) ((Below.refl _ W).drew) ?_
    intro hne
    repeat (quiet_step (first
     | (go_at_call 123; exact calls_class_same (between_any _ _ _ _))
     | (go_at_call 217; exact calls_class (deedOf4 _) (fun w' hc bb => below_step hc bb))
     | (go_at_call 218; exact calls_class (fits_any _ _ _ _ _ _ _ _ _) (fun w' hc bb => below_step hc bb))))
    refine wpQuiet_nil ?_
    intro wx b2
    clear n0 n1 n2 n3 hne
    go_wp2
    go_ret
    exact ⟨ret_bool H.out.symm, below_step B b2⟩
   ·have H : Hid (opB 5 a x y = (betw x 0 9999 && betw y 0 9999)) := by unfold Hid opB; rw [h1, h2]; rfl
    have R := heap_alloc_new w (.cells #[.int .i64 5, .int .i64 a, .int .i64 x, .int .i64 y] 117)
    replace B := B (.cells #[.int .i64 5, .int .i64 a, .int .i64 x, .int .i64 y] 117)
    go_enter Tryz.func188, Tryz.ntmps188
    go_wp2
    generalize w.alloc (.cells #[.int .i64 5, .int .i64 a, .int .i64 x, .int .i64 y] 117) = W at R B ⊢
    obtain ⟨n0, n1, n2, n3⟩ := op_cls R
    clear R
    refine region_class (fun wx => Below W.heap.size W wx) (by kernel_rfl) (by kernel_rfl) ((Below.refl _ W).drew) ?_
    intro hne
    repeat (quiet_step (first
     | (go_at_call 123; exact calls_class_same (between_any _ _ _ _))
     | (go_at_call 217; exact calls_class (deedOf5 _) (fun w' hc bb => below_step hc bb))
     | (go_at_call 218; exact calls_class (fits_any _ _ _ _ _ _ _ _ _) (fun w' hc bb => below_step hc bb))))
    refine wpQuiet_nil ?_
    intro wx b2
    clear n0 n1 n2 n3 hne
    go_wp2
    go_ret
    exact ⟨ret_bool H.out.symm, below_step B b2⟩
theorem specOpOk_any (k a x y : Int) (w : World) :
    Calls Tryz.prog 86 #[.agg #[.int .i64 k, .int .i64 a, .int .i64 x, .int .i64 y]] w fun e w' => e = .returned (.bool (opB k a x y)) ∧ Below w.heap.size w w' := by
 have B := (Below.refl w.heap.size w).alloc (Nat.le_refl _)
 cases h1 : betw k 1 5 <;> cases h2 : betw a 0 31 <;> cases h3 : okW x <;> cases h4 : okW y
 case true.true.true.true =>
  rcases opKind h1 with rfl | rfl | rfl | rfl | rfl
  ·have H : Hid (opB 1 a x y = (x == 0 && y == 0)) := by
     unfold Hid opB opMostA opMostB
     unfold okW betw at h3 h4
     rw [h1, h2]
     unfold betw
     rw [Bool.eq_iff_iff]
     simp at h3 h4 ⊢
     omega
   by_cases hx : x = 0 <;> by_cases hy : y = 0
   all_goals
    go_enter Tryz.func86, Tryz.ntmps86
    go_wp2_with (first
     | (go_at_call 78; refine (l1In_any _ _ _ _).mono ?_; rintro e w' ⟨rfl, rfl⟩)
     | (go_at_call 120; refine (l3Word_any _ _).mono ?_; rintro e w' ⟨rfl, rfl⟩))
    go_ret
    exact ⟨ret_bool (H.out.trans (by simp [hx, hy])).symm, B _⟩
  ·have H : Hid (opB 2 a x y = (y == 0)) := by
     unfold Hid opB opMostA opMostB
     unfold okW betw at h3 h4
     rw [h1, h2]
     unfold betw
     rw [Bool.eq_iff_iff]
     simp at h3 h4 ⊢
     omega
   by_cases hy : y = 0
   all_goals
    go_enter Tryz.func86, Tryz.ntmps86
    go_wp2_with (first
     | (go_at_call 78; refine (l1In_any _ _ _ _).mono ?_; rintro e w' ⟨rfl, rfl⟩)
     | (go_at_call 120; refine (l3Word_any _ _).mono ?_; rintro e w' ⟨rfl, rfl⟩))
    go_ret
    exact ⟨ret_bool (H.out.trans (by simp [hy])).symm, B _⟩
  ·have H : Hid (opB 3 a x y = (y == 0)) := by
     unfold Hid opB opMostA opMostB
     unfold okW betw at h3 h4
     rw [h1, h2]
     unfold betw
     rw [Bool.eq_iff_iff]
     simp at h3 h4 ⊢
     omega
   by_cases hy : y = 0
   all_goals
    go_enter Tryz.func86, Tryz.ntmps86
    go_wp2_with (first
     | (go_at_call 78; refine (l1In_any _ _ _ _).mono ?_; rintro e w' ⟨rfl, rfl⟩)
     | (go_at_call 120; refine (l3Word_any _ _).mono ?_; rintro e w' ⟨rfl, rfl⟩))
    go_ret
    exact ⟨ret_bool (H.out.trans (by simp [hy])).symm, B _⟩
  ·have H : Hid (opB 4 a x y = (y == 0)) := by
     unfold Hid opB opMostA opMostB
     unfold okW betw at h3 h4
     rw [h1, h2]
     unfold betw
     rw [Bool.eq_iff_iff]
     simp at h3 h4 ⊢
     omega
   by_cases hy : y = 0
   all_goals
    go_enter Tryz.func86, Tryz.ntmps86
    go_wp2_with (first
     | (go_at_call 78; refine (l1In_any _ _ _ _).mono ?_; rintro e w' ⟨rfl, rfl⟩)
     | (go_at_call 120; refine (l3Word_any _ _).mono ?_; rintro e w' ⟨rfl, rfl⟩))
    go_ret
    exact ⟨ret_bool (H.out.trans (by simp [hy])).symm, B _⟩
  ·have H : Hid (opB 5 a x y = true) := by
     unfold Hid opB opMostA opMostB
     unfold okW betw at h3 h4
     rw [h1, h2]
     unfold betw
     rw [Bool.eq_iff_iff]
     simp at h3 h4 ⊢
     omega
   skip
   all_goals
    go_enter Tryz.func86, Tryz.ntmps86
    go_wp2_with (first
     | (go_at_call 78; refine (l1In_any _ _ _ _).mono ?_; rintro e w' ⟨rfl, rfl⟩)
     | (go_at_call 120; refine (l3Word_any _ _).mono ?_; rintro e w' ⟨rfl, rfl⟩))
    go_ret
    exact ⟨ret_bool (H.out.trans (by simp [])).symm, B _⟩
 all_goals
  have H : Hid (opB k a x y = false) := by
   unfold Hid opB opMostA opMostB
   unfold okW betw at h3 h4
   unfold betw at h1 h2 ⊢
   rw [Bool.eq_iff_iff]
   simp at h1 h2 h3 h4 ⊢
   intros
   try split
   all_goals omega
  go_enter Tryz.func86, Tryz.ntmps86
  go_wp2_with (first
        | (go_at_call 78; refine (l1In_any _ _ _ _).mono ?_; rintro e w' ⟨rfl, rfl⟩)
        | (go_at_call 120; refine (l3Word_any _ _).mono ?_; rintro e w' ⟨rfl, rfl⟩))
  go_ret
  exact ⟨ret_bool H.out.symm, B _⟩
set_option linter.unusedVariables false
end Go.Proofs.YtiiipclglngdhaaGreatDoor
