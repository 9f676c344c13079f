import Derived.Test.YtdamokokcdcedaaGreatDoorG00Box
import Derived.Test.YtdamokokcdcedaaGreatDoorG10
import Derived.Laws.EntriesVeiled
import Derived.Deep.WholeRow
namespace Go.Proofs.YtdamokokcdcedaaGreatDoor
set_option maxHeartbeats 1000000
set_option maxRecDepth 20000
def badP {α : Type} (p : α → Bool) (xs : List α) : Int := match xs.findIdx? (fun u => !p u) with
 | some i => (i : Int)
 | none => -1
theorem badP_at {α : Type} {p : α → Bool} {xs : List α} {k : Nat} {u : α} (hu : xs[k]? = some u) (hp : p u = false) (hno : ∀ j v, j < k → xs[j]? = some v → p v = true) : badP p xs = (k : Int) := by
 have a := (List.getElem?_eq_some_iff.1 hu).1;have : xs.findIdx? (fun u => !p u) = some k := by
  rw [List.findIdx?_eq_some_iff_getElem];refine ⟨a, ?_, fun j hj => ?_⟩
  ·rw [List.getElem?_eq_getElem a] at hu;cases hu;simp [hp]
  ·have := hno j _ hj (List.getElem?_eq_getElem (by omega));simp [this]
 unfold badP;rw [this]
theorem badP_no {α : Type} {p : α → Bool} {xs : List α} (hno : ∀ (j : Nat) (v : α), xs[j]? = some v → p v = true) : badP p xs = -1 := by
 have : xs.findIdx? (fun u => !p u) = none := by
  rw [List.findIdx?_eq_none_iff];intro u b;obtain ⟨j, a⟩ := List.getElem?_of_mem b;simp [hno j u a]
 unfold badP;rw [this]
theorem badP_all {α : Type} (p : α → Bool) (xs : List α) : xs.all p = decide (badP p xs < 0) := by
 cases h : xs.all p
 ·have b : ¬ ∀ x ∈ xs, p x = true := fun hh => by rw [List.all_eq_true.2 hh] at h; cases h
  cases a : xs.findIdx? (fun u => !p u) with
  | none =>
   rw [List.findIdx?_eq_none_iff] at a;exact (b fun x hx => by have := a x hx; simpa using this).elim
  | some i => simp [badP, a]
 ·rw [badP_no fun j v hv => List.all_eq_true.1 h v (List.mem_of_getElem? hv)];rfl
open Go.ChangeShapes Go.WideShapes Go.ChangeAt Go.RowKit
def opMostA (k : Int) : Int := if k = 1 then 0 else 9999
def opMostB (k : Int) : Int := if k = 5 then 9999 else 0
def opB (k a x y : Int) : Bool := betw k 1 5 && (betw a 0 31 && (betw x 0 (opMostA k) && betw y 0 (opMostB k)))
theorem setRow_last (w : World) (o : Obj) (c c' : Array Value) (t : TypeId) : ((w.alloc o).alloc (.cells c t)).setRow (w.heap.size + 1) c' = (w.alloc o).alloc (.cells c' t) := by
 have := World.setRow_alloc_new (w.alloc o) c c' t;rwa [show (w.alloc o).heap.size = w.heap.size + 1 by simp] at this
theorem heap_last (w : World) (o o2 : Obj) : ((w.alloc o).alloc o2).heap[w.heap.size + 1]? = some o2 := by
 have := heap_alloc_last (w.alloc o) o2;rwa [show (w.alloc o).heap.size = w.heap.size + 1 by simp] at this
theorem op_cls {W : World} {g : Nat} {v0 v1 v2 v3 : Value} {t : TypeId} (R : W.heap[g]? = some (.cells #[v0, v1, v2, v3] t (0, 0))) :
    (∀ n : Cls (fun wx => Bl W wx), n.w.cell? ⟨g, 0, none⟩ = some v0) ∧ (∀ n : Cls (fun wx => Bl W wx), n.w.cell? ⟨g, 1, none⟩ = some v1) ∧
     (∀ n : Cls (fun wx => Bl W wx), n.w.cell? ⟨g, 2, none⟩ = some v2) ∧ (∀ n : Cls (fun wx => Bl W wx), n.w.cell? ⟨g, 3, none⟩ = some v3) := by
 refine ⟨fun n => ?_, fun n => ?_, fun n => ?_, fun n => ?_⟩
 ·rw [cell_of_row n.w g 0 _ t (0, 0) (row_keep n.h R)]; rfl
 ·rw [cell_of_row n.w g 1 _ t (0, 0) (row_keep n.h R)]; rfl
 ·rw [cell_of_row n.w g 2 _ t (0, 0) (row_keep n.h R)]; rfl
 ·rw [cell_of_row n.w g 3 _ t (0, 0) (row_keep n.h R)]; rfl
theorem bl_drew {w w' : World} {n : Nat} (h : Below n w w') {k : Nat} : Below n w (w'.drewN k) := ⟨h.os, h.tape, h.output, h.size, h.block⟩
theorem opKind {k : Int} (h : betw k 1 5 = true) : k = 1 ∨ k = 2 ∨ k = 3 ∨ k = 4 ∨ k = 5 := by simp [betw] at h; omega
theorem deedOf1 (w : World) :
    Calls Tryz.prog 271 #[nI 1] w fun e w' => e = .returned (.agg #[nI 0, nI 0, .func (.func 283) #[] #[], .func (.func 284) #[] #[]]) ∧ Bl w w' := by
 go_enter Tryz.func271, Tryz.ntmps271;go_upto_region 1 with fail
 iterate 23 go_step
 refine wp_store_row 309 _ _ rfl (w.heap.size + 1) _ (by rfl) (by rfl) 309 _ (heap_last _ _ _) (by kernel_rfl) (by rfl) (by kernel_rfl) ?_;rw [setRow_last];go_wp2;refine bodyPost_ret (v := .agg #[nI 0, nI 0, .func (.func 283) #[] #[], .func (.func 284) #[] #[]]) (by simp [results, Tryz.results271, go_sem]) rfl ⟨rfl, ?_⟩;repeat first
  | exact Below.refl _ _
  | refine Below.setCell ?_ (by simp <;> omega) _
  | refine Below.alloc ?_ (by simp <;> omega) _
  | refine Below.drew ?_
theorem deedOf2 (w : World) :
    Calls Tryz.prog 271 #[nI 2] w fun e w' => e = .returned (.agg #[nI 9999, nI 0, .func (.func 285) #[] #[], .func (.func 286) #[] #[]]) ∧ Bl w w' := by
 go_enter Tryz.func271, Tryz.ntmps271;go_upto_region 1 with fail
 iterate 23 go_step
 refine wp_store_row 309 _ _ rfl (w.heap.size + 1) _ (by rfl) (by rfl) 309 _ (heap_last _ _ _) (by kernel_rfl) (by rfl) (by kernel_rfl) ?_;rw [setRow_last];go_wp2;refine bodyPost_ret (v := .agg #[nI 9999, nI 0, .func (.func 285) #[] #[], .func (.func 286) #[] #[]]) (by simp [results, Tryz.results271, go_sem]) rfl ⟨rfl, ?_⟩;repeat first
  | exact Below.refl _ _
  | refine Below.setCell ?_ (by simp <;> omega) _
  | refine Below.alloc ?_ (by simp <;> omega) _
  | refine Below.drew ?_
theorem deedOf3 (w : World) :
    Calls Tryz.prog 271 #[nI 3] w fun e w' => e = .returned (.agg #[nI 9999, nI 0, .func (.func 287) #[] #[], .func (.func 284) #[] #[]]) ∧ Bl w w' := by
 go_enter Tryz.func271, Tryz.ntmps271;go_upto_region 1 with fail
 iterate 23 go_step
 refine wp_store_row 309 _ _ rfl (w.heap.size + 1) _ (by rfl) (by rfl) 309 _ (heap_last _ _ _) (by kernel_rfl) (by rfl) (by kernel_rfl) ?_;rw [setRow_last];go_wp2;refine bodyPost_ret (v := .agg #[nI 9999, nI 0, .func (.func 287) #[] #[], .func (.func 284) #[] #[]]) (by simp [results, Tryz.results271, go_sem]) rfl ⟨rfl, ?_⟩;repeat first
  | exact Below.refl _ _
  | refine Below.setCell ?_ (by simp <;> omega) _
  | refine Below.alloc ?_ (by simp <;> omega) _
  | refine Below.drew ?_
theorem deedOf4 (w : World) :
    Calls Tryz.prog 271 #[nI 4] w fun e w' => e = .returned (.agg #[nI 9999, nI 0, .func (.func 285) #[] #[], .func (.func 284) #[] #[]]) ∧ Bl w w' := by
 go_enter Tryz.func271, Tryz.ntmps271;go_upto_region 1 with fail
 iterate 23 go_step
 refine wp_store_row 309 _ _ rfl (w.heap.size + 1) _ (by rfl) (by rfl) 309 _ (heap_last _ _ _) (by kernel_rfl) (by rfl) (by kernel_rfl) ?_;rw [setRow_last];go_wp2;refine bodyPost_ret (v := .agg #[nI 9999, nI 0, .func (.func 285) #[] #[], .func (.func 284) #[] #[]]) (by simp [results, Tryz.results271, go_sem]) rfl ⟨rfl, ?_⟩;repeat first
  | exact Below.refl _ _
  | refine Below.setCell ?_ (by simp <;> omega) _
  | refine Below.alloc ?_ (by simp <;> omega) _
  | refine Below.drew ?_
theorem deedOf5 (w : World) :
    Calls Tryz.prog 271 #[nI 5] w fun e w' => e = .returned (.agg #[nI 9999, nI 9999, .func (.func 288) #[] #[], .func (.func 284) #[] #[]]) ∧ Bl w w' := by
 go_enter Tryz.func271, Tryz.ntmps271;go_upto_region 1 with fail
 iterate 23 go_step
 refine wp_store_row 309 _ _ rfl (w.heap.size + 1) _ (by rfl) (by rfl) 309 _ (heap_last _ _ _) (by kernel_rfl) (by rfl) (by kernel_rfl) ?_;rw [setRow_last];go_wp2;refine bodyPost_ret (v := .agg #[nI 9999, nI 9999, .func (.func 288) #[] #[], .func (.func 284) #[] #[]]) (by simp [results, Tryz.results271, go_sem]) rfl ⟨rfl, ?_⟩;repeat first
  | exact Below.refl _ _
  | refine Below.setCell ?_ (by simp <;> omega) _
  | refine Below.alloc ?_ (by simp <;> omega) _
  | refine Below.drew ?_
theorem fits_any (p q : Int) (f g : Value) (k a x y : Int) (w : World) :
    Calls Tryz.prog 272 #[.agg #[nI p, nI q, f, g], .agg #[nI k, nI a, nI x, nI y]] w fun e b => e = .returned (.bool (betw x 0 p && betw y 0 q)) ∧ Bl w b := by
 cases h : betw x 0 p
 all_goals
  go_enter Tryz.func272, Tryz.ntmps272;go_wp2_with (go_at_call 156; refine (between_any _ _ _ _).mono ?_; rintro e b ⟨rfl, rfl⟩)
  go_ret
  refine ⟨rfl, ?_⟩;exact (Below.alloc (Below.alloc (Below.refl _ _) (Nat.le_refl _) _) (by simp) _)
theorem implOpOk_any (k a x y : Int) (w : World) :
    Calls Tryz.prog 247 #[.agg #[nI k, nI a, nI x, nI y]] w fun e w' => e = .returned (.bool (opB k a x y)) ∧ Bl w w' := by
 have B := (Below.refl w.heap.size w).alloc (Nat.le_refl _);cases j : betw k 1 5
 ·have H : Hid (opB k a x y = false) := by unfold Hid opB; simp [j]
  go_enter Tryz.func247, Tryz.ntmps247;go_wp2;go_quiet (first | (go_at_call 156; exact Calls.quiet_of_same (between_any _ _ _ _)))
  go_wp2;go_ret
  exact ⟨ret_bool H.out.symm, bl_drew (B _)⟩
 ·cases l : betw a 0 31
  ·have H : Hid (opB k a x y = false) := by unfold Hid opB; simp [l]
   go_enter Tryz.func247, Tryz.ntmps247;go_wp2;go_quiet (first | (go_at_call 156; exact Calls.quiet_of_same (between_any _ _ _ _)))
   go_wp2;go_ret
   exact ⟨ret_bool H.out.symm, bl_drew (B _)⟩
  ·rcases opKind j with rfl | rfl | rfl | rfl | rfl
   ·have H : Hid (opB 1 a x y = (betw x 0 0 && betw y 0 0)) := by unfold Hid opB; rw [j, l]; rfl
    have R := heap_alloc_new w (.cells #[nI 1, nI a, nI x, nI y] 133);replace B := B (.cells #[nI 1, nI a, nI x, nI y] 133);go_enter Tryz.func247, Tryz.ntmps247;go_wp2;generalize w.alloc (.cells #[nI 1, nI a, nI x, nI y] 133) = W at R B ⊢;obtain ⟨f, c, g, i⟩ := op_cls R;clear R;refine region_class (fun wx => Bl W wx) (by kernel_rfl) (by kernel_rfl) ((Below.refl _ W).drew) ?_;intro b
    repeat (quiet_step (first
     | (go_at_call 156; exact calls_class_same (between_any _ _ _ _))
     | (go_at_call 271; exact calls_class (deedOf1 _) (fun w' hc bb => below_step hc bb))
     | (go_at_call 272; exact calls_class (fits_any _ _ _ _ _ _ _ _ _) (fun w' hc bb => below_step hc bb))))
    refine wpQuiet_nil ?_;intro wx d;clear f c g i b;go_wp2;go_ret
    exact ⟨ret_bool H.out.symm, below_step B d⟩
   ·have H : Hid (opB 2 a x y = (betw x 0 9999 && betw y 0 0)) := by unfold Hid opB; rw [j, l]; rfl
    have R := heap_alloc_new w (.cells #[nI 2, nI a, nI x, nI y] 133);replace B := B (.cells #[nI 2, nI a, nI x, nI y] 133);go_enter Tryz.func247, Tryz.ntmps247;go_wp2;generalize w.alloc (.cells #[nI 2, nI a, nI x, nI y] 133) = W at R B ⊢;obtain ⟨f, c, g, i⟩ := op_cls R;clear R;refine region_class (fun wx => Bl W wx) (by kernel_rfl) (by kernel_rfl) ((Below.refl _ W).drew) ?_;intro b
    repeat (quiet_step (first
     | (go_at_call 156; exact calls_class_same (between_any _ _ _ _))
     | (go_at_call 271; exact calls_class (deedOf2 _) (fun w' hc bb => below_step hc bb))
     | (go_at_call 272; exact calls_class (fits_any _ _ _ _ _ _ _ _ _) (fun w' hc bb => below_step hc bb))))
    refine wpQuiet_nil ?_;intro wx d;clear f c g i b;go_wp2;go_ret
    exact ⟨ret_bool H.out.symm, below_step B d⟩
   ·have H : Hid (opB 3 a x y = (betw x 0 9999 && betw y 0 0)) := by unfold Hid opB; rw [j, l]; rfl
    have R := heap_alloc_new w (.cells #[nI 3, nI a, nI x, nI y] 133);replace B := B (.cells #[nI 3, nI a, nI x, nI y] 133);go_enter Tryz.func247, Tryz.ntmps247;go_wp2;generalize w.alloc (.cells #[nI 3, nI a, nI x, nI y] 133) = W at R B ⊢;obtain ⟨f, c, g, i⟩ := op_cls R;clear R;refine region_class (fun wx => Bl W wx) (by kernel_rfl) (by kernel_rfl) ((Below.refl _ W).drew) ?_;intro b
    repeat (quiet_step (first
     | (go_at_call 156; exact calls_class_same (between_any _ _ _ _))
     | (go_at_call 271; exact calls_class (deedOf3 _) (fun w' hc bb => below_step hc bb))
     | (go_at_call 272; exact calls_class (fits_any _ _ _ _ _ _ _ _ _) (fun w' hc bb => below_step hc bb))))
    refine wpQuiet_nil ?_;intro wx d;clear f c g i b;go_wp2;go_ret
    exact ⟨ret_bool H.out.symm, below_step B d⟩
   ·have H : Hid (opB 4 a x y = (betw x 0 9999 && betw y 0 0)) := by unfold Hid opB; rw [j, l]; rfl
    have R := heap_alloc_new w (.cells #[nI 4, nI a, nI x, nI y] 133);replace B := B (.cells #[nI 4, nI a, nI x, nI y] 133);go_enter Tryz.func247, Tryz.ntmps247;go_wp2;generalize w.alloc (.cells #[nI 4, nI a, nI x, nI y] 133) = W at R B ⊢;obtain ⟨f, c, g, i⟩ := op_cls R;clear R;refine region_class (fun wx => Bl W wx) (by kernel_rfl) (by kernel_rfl) ((Below.refl _ W).drew) ?_;intro b
    repeat (quiet_step (first
     | (go_at_call 156; exact calls_class_same (between_any _ _ _ _))
     | (go_at_call 271; exact calls_class (deedOf4 _) (fun w' hc bb => below_step hc bb))
     | (go_at_call 272; exact calls_class (fits_any _ _ _ _ _ _ _ _ _) (fun w' hc bb => below_step hc bb))))
    refine wpQuiet_nil ?_;intro wx d;clear f c g i b;go_wp2;go_ret
    exact ⟨ret_bool H.out.symm, below_step B d⟩
   ·have H : Hid (opB 5 a x y = (betw x 0 9999 && betw y 0 9999)) := by unfold Hid opB; rw [j, l]; rfl
    have R := heap_alloc_new w (.cells #[nI 5, nI a, nI x, nI y] 133);replace B := B (.cells #[nI 5, nI a, nI x, nI y] 133);go_enter Tryz.func247, Tryz.ntmps247;go_wp2;generalize w.alloc (.cells #[nI 5, nI a, nI x, nI y] 133) = W at R B ⊢;obtain ⟨f, c, g, i⟩ := op_cls R;clear R;refine region_class (fun wx => Bl W wx) (by kernel_rfl) (by kernel_rfl) ((Below.refl _ W).drew) ?_;intro b
    repeat (quiet_step (first
     | (go_at_call 156; exact calls_class_same (between_any _ _ _ _))
     | (go_at_call 271; exact calls_class (deedOf5 _) (fun w' hc bb => below_step hc bb))
     | (go_at_call 272; exact calls_class (fits_any _ _ _ _ _ _ _ _ _) (fun w' hc bb => below_step hc bb))))
    refine wpQuiet_nil ?_;intro wx d;clear f c g i b;go_wp2;go_ret
    exact ⟨ret_bool H.out.symm, below_step B d⟩
theorem specOpOk_any (k a x y : Int) (w : World) :
    Calls Tryz.prog 134 #[.agg #[nI k, nI a, nI x, nI y]] w fun e b => e = .returned (.bool (opB k a x y)) ∧ Bl w b := by
 have B := (Below.refl w.heap.size w).alloc (Nat.le_refl _);cases f : betw k 1 5 <;> cases i : betw a 0 31 <;> cases d : okW x <;> cases c : okW y
 case true.true.true.true =>
  rcases opKind f with rfl | rfl | rfl | rfl | rfl
  ·have H : Hid (opB 1 a x y = (x == 0 && y == 0)) := by
     unfold Hid opB opMostA opMostB;unfold okW betw at d c;rw [f, i];unfold betw;rw [Bool.eq_iff_iff];simp at d c ⊢
     omega
   by_cases j : x = 0 <;> by_cases g : y = 0
   all_goals
    go_enter Tryz.func134, Tryz.ntmps134
    go_wp2_with (first
     | (go_at_call 126; refine (l1In_any _ _ _ _).mono ?_; rintro e b ⟨rfl, rfl⟩)
     | (go_at_call 185; refine (l3Word_any _ _).mono ?_; rintro e b ⟨rfl, rfl⟩))
    go_ret
    exact ⟨ret_bool (H.out.trans (by simp [j, g])).symm, B _⟩
  ·have H : Hid (opB 2 a x y = (y == 0)) := by
     unfold Hid opB opMostA opMostB;unfold okW betw at d c;rw [f, i];unfold betw;rw [Bool.eq_iff_iff];simp at d c ⊢
     omega
   by_cases g : y = 0
   all_goals
    go_enter Tryz.func134, Tryz.ntmps134
    go_wp2_with (first
     | (go_at_call 126; refine (l1In_any _ _ _ _).mono ?_; rintro e b ⟨rfl, rfl⟩)
     | (go_at_call 185; refine (l3Word_any _ _).mono ?_; rintro e b ⟨rfl, rfl⟩))
    go_ret
    exact ⟨ret_bool (H.out.trans (by simp [g])).symm, B _⟩
  ·have H : Hid (opB 3 a x y = (y == 0)) := by
     unfold Hid opB opMostA opMostB;unfold okW betw at d c;rw [f, i];unfold betw;rw [Bool.eq_iff_iff];simp at d c ⊢
     omega
   by_cases g : y = 0
   all_goals
    go_enter Tryz.func134, Tryz.ntmps134
    go_wp2_with (first
     | (go_at_call 126; refine (l1In_any _ _ _ _).mono ?_; rintro e b ⟨rfl, rfl⟩)
     | (go_at_call 185; refine (l3Word_any _ _).mono ?_; rintro e b ⟨rfl, rfl⟩))
    go_ret
    exact ⟨ret_bool (H.out.trans (by simp [g])).symm, B _⟩
  ·have H : Hid (opB 4 a x y = (y == 0)) := by
     unfold Hid opB opMostA opMostB;unfold okW betw at d c;rw [f, i];unfold betw;rw [Bool.eq_iff_iff];simp at d c ⊢
     omega
   by_cases g : y = 0
   all_goals
    go_enter Tryz.func134, Tryz.ntmps134
    go_wp2_with (first
     | (go_at_call 126; refine (l1In_any _ _ _ _).mono ?_; rintro e b ⟨rfl, rfl⟩)
     | (go_at_call 185; refine (l3Word_any _ _).mono ?_; rintro e b ⟨rfl, rfl⟩))
    go_ret
    exact ⟨ret_bool (H.out.trans (by simp [g])).symm, B _⟩
  ·have H : Hid (opB 5 a x y = true) := by
     unfold Hid opB opMostA opMostB;unfold okW betw at d c;rw [f, i];unfold betw;rw [Bool.eq_iff_iff];simp at d c ⊢
     omega
   skip
   all_goals
    go_enter Tryz.func134, Tryz.ntmps134
    go_wp2_with (first
     | (go_at_call 126; refine (l1In_any _ _ _ _).mono ?_; rintro e b ⟨rfl, rfl⟩)
     | (go_at_call 185; refine (l3Word_any _ _).mono ?_; rintro e b ⟨rfl, rfl⟩))
    go_ret
    exact ⟨ret_bool (H.out.trans (by simp [])).symm, B _⟩
 all_goals
  have H : Hid (opB k a x y = false) := by
   unfold Hid opB opMostA opMostB;unfold okW betw at d c;unfold betw at f i ⊢;rw [Bool.eq_iff_iff];simp at f i d c ⊢
   intros
   try split
   all_goals omega
  go_enter Tryz.func134, Tryz.ntmps134
  go_wp2_with (first
        | (go_at_call 126; refine (l1In_any _ _ _ _).mono ?_; rintro e b ⟨rfl, rfl⟩)
        | (go_at_call 185; refine (l3Word_any _ _).mono ?_; rintro e b ⟨rfl, rfl⟩))
  go_ret
  exact ⟨ret_bool H.out.symm, B _⟩
set_option linter.unusedVariables false
end Go.Proofs.YtdamokokcdcedaaGreatDoor
