
/- The contracts of ops, of the program (a table whose rows hold functions) and of its specification. No condition. -/
import Derived.Test.YtbcggkfbahmpoaaLines6
import Derived.Test.YtbcggkfbahmpoaaJOwn5OpensBaseClassesBits
import Derived.Below
import Derived.Laws.EntriesVeiled
import Derived.Deep.QuietTactic
import Derived.Deep.Cut
import Derived.Deep.WholeRow
import Derived.BigQuiet
namespace Go.Proofs.Ytbcggkfbahmpoaa
open Go.ChangeShapes Go.WideShapes Go.ChangeAt Go.RowKit

def opMostA (k : Int) : Int := if k = 1 then 0 else 9999
def opMostB (k : Int) : Int := if k = 5 then 9999 else 0
def opB (k a x y : Int) : Bool := betw k 1 5 && (betw a 0 31 && (betw x 0 (opMostA k) && betw y 0 (opMostB k)))
def opThen (k x y z : Int) : Int := if k = 1 then z else if k = 2 then x else if k = 3 then (z + x) % 10000 else if k = 4 then x else if z = x then y else z
def opTold (k z : Int) : Int := if k = 2 then 0 else z

theorem setRow_last (w : World) (o : Obj) (c c' : Array Value) (t : TypeId) : ((w.alloc o).alloc (.cells c t)).setRow (w.heap.size + 1) c' = (w.alloc o).alloc (.cells c' t) := by
  have := World.setRow_alloc_new (w.alloc o) c c' t
  rwa [show (w.alloc o).heap.size = w.heap.size + 1 by simp] at this
theorem heap_last (w : World) (o o2 : Obj) : ((w.alloc o).alloc o2).heap[w.heap.size + 1]? = some o2 := by
  have := heap_alloc_last (w.alloc o) o2
  rwa [show (w.alloc o).heap.size = w.heap.size + 1 by simp] at this
theorem op_cls {W : World} {g : Nat} {v0 v1 v2 v3 : Value} {t : TypeId} (R : W.heap[g]? = some (.cells #[v0, v1, v2, v3] t (0, 0))) :
    (∀ n : Cls (fun wx => Below W.heap.size W wx), n.w.cell? ⟨g, 0, none⟩ = some v0) ∧ (∀ n : Cls (fun wx => Below W.heap.size W wx), n.w.cell? ⟨g, 1, none⟩ = some v1) ∧
      (∀ n : Cls (fun wx => Below W.heap.size W wx), n.w.cell? ⟨g, 2, none⟩ = some v2) ∧ (∀ n : Cls (fun wx => Below W.heap.size W wx), n.w.cell? ⟨g, 3, none⟩ = some v3) := by
  refine ⟨fun n => ?_, fun n => ?_, fun n => ?_, fun n => ?_⟩
  · rw [cell_of_row n.w g 0 _ t (0, 0) (row_keep n.h R)]; rfl
  · rw [cell_of_row n.w g 1 _ t (0, 0) (row_keep n.h R)]; rfl
  · rw [cell_of_row n.w g 2 _ t (0, 0) (row_keep n.h R)]; rfl
  · rw [cell_of_row n.w g 3 _ t (0, 0) (row_keep n.h R)]; rfl
theorem op_cells {W : World} {g : Nat} {v0 v1 v2 v3 : Value} {t : TypeId} (R : W.heap[g]? = some (.cells #[v0, v1, v2, v3] t (0, 0))) :
    W.cell? ⟨g, 0, none⟩ = some v0 ∧ W.cell? ⟨g, 1, none⟩ = some v1 ∧ W.cell? ⟨g, 2, none⟩ = some v2 ∧ W.cell? ⟨g, 3, none⟩ = some v3 := by
  refine ⟨?_, ?_, ?_, ?_⟩
  · rw [cell_of_row W g 0 _ t (0, 0) R]; rfl
  · rw [cell_of_row W g 1 _ t (0, 0) R]; rfl
  · rw [cell_of_row W g 2 _ t (0, 0) R]; rfl
  · rw [cell_of_row W g 3 _ t (0, 0) R]; rfl
theorem bl_drew {w w' : World} {n : Nat} (h : Below n w w') {k : Nat} : Below n w (w'.drewN k) := ⟨h.os, h.tape, h.output, h.size, h.block⟩
theorem opKind {k : Int} (h : betw k 1 5 = true) : k = 1 ∨ k = 2 ∨ k = 3 ∨ k = 4 ∨ k = 5 := by simp [betw] at h; omega

theorem op_cell {w w1 : World} {cs : Array Value} {t : TypeId} (h : Below (w.alloc (.cells cs t)).heap.size (w.alloc (.cells cs t)) w1) (j : Nat) : w1.cell? ⟨w.heap.size, j, none⟩ = cs[j]? := by
  rw [h.cell (by simp), cell_of_row (w.alloc (.cells cs t)) w.heap.size j cs t (0, 0) (heap_alloc_new w _)]
theorem op_box {w w1 : World} {v0 v1 v2 v3 : Value} {t : TypeId} (h : Below (w.alloc (.cells #[v0, v1, v2, v3] t)).heap.size (w.alloc (.cells #[v0, v1, v2, v3] t)) w1) :
    w1.cell? ⟨w.heap.size, 0, none⟩ = some v0 ∧ w1.cell? ⟨w.heap.size, 1, none⟩ = some v1 ∧ w1.cell? ⟨w.heap.size, 2, none⟩ = some v2 ∧ w1.cell? ⟨w.heap.size, 3, none⟩ = some v3 :=
  ⟨op_cell h 0, op_cell h 1, op_cell h 2, op_cell h 3⟩

set_option maxRecDepth 20000 in
set_option maxHeartbeats 1000000 in
theorem deedOf1 (w : World) :
    Calls Try.prog 79 #[.int .i64 1] w fun e w' => e = .returned (.agg #[.int .i64 0, .int .i64 0, .func (.func 90) #[] #[], .func (.func 91) #[] #[]]) ∧ Below w.heap.size w w' := by
  go_enter Try.func79, Try.ntmps79
  go_upto_region 1 with fail
  iterate 23 go_step
  refine wp_store_row 112 _ _ rfl (w.heap.size + 1) _ (by rfl) (by rfl) 112 _ (heap_last _ _ _) (by kernel_rfl) (by rfl) (by kernel_rfl) ?_
  rw [setRow_last]
  go_wp2
  refine bodyPost_ret (v := .agg #[.int .i64 0, .int .i64 0, .func (.func 90) #[] #[], .func (.func 91) #[] #[]]) (by simp [results, Try.results79, go_sem]) rfl ⟨rfl, ?_⟩
  repeat first
    | exact Below.refl _ _
    | refine Below.setCell ?_ (by simp <;> omega) _
    | refine Below.alloc ?_ (by simp <;> omega) _
    | refine Below.drew ?_

set_option maxRecDepth 20000 in
set_option maxHeartbeats 1000000 in
theorem deedOf2 (w : World) :
    Calls Try.prog 79 #[.int .i64 2] w fun e w' => e = .returned (.agg #[.int .i64 9999, .int .i64 0, .func (.func 92) #[] #[], .func (.func 93) #[] #[]]) ∧ Below w.heap.size w w' := by
  go_enter Try.func79, Try.ntmps79
  go_upto_region 1 with fail
  iterate 23 go_step
  refine wp_store_row 112 _ _ rfl (w.heap.size + 1) _ (by rfl) (by rfl) 112 _ (heap_last _ _ _) (by kernel_rfl) (by rfl) (by kernel_rfl) ?_
  rw [setRow_last]
  go_wp2
  refine bodyPost_ret (v := .agg #[.int .i64 9999, .int .i64 0, .func (.func 92) #[] #[], .func (.func 93) #[] #[]]) (by simp [results, Try.results79, go_sem]) rfl ⟨rfl, ?_⟩
  repeat first
    | exact Below.refl _ _
    | refine Below.setCell ?_ (by simp <;> omega) _
    | refine Below.alloc ?_ (by simp <;> omega) _
    | refine Below.drew ?_

set_option maxRecDepth 20000 in
set_option maxHeartbeats 1000000 in
theorem deedOf3 (w : World) :
    Calls Try.prog 79 #[.int .i64 3] w fun e w' => e = .returned (.agg #[.int .i64 9999, .int .i64 0, .func (.func 94) #[] #[], .func (.func 91) #[] #[]]) ∧ Below w.heap.size w w' := by
  go_enter Try.func79, Try.ntmps79
  go_upto_region 1 with fail
  iterate 23 go_step
  refine wp_store_row 112 _ _ rfl (w.heap.size + 1) _ (by rfl) (by rfl) 112 _ (heap_last _ _ _) (by kernel_rfl) (by rfl) (by kernel_rfl) ?_
  rw [setRow_last]
  go_wp2
  refine bodyPost_ret (v := .agg #[.int .i64 9999, .int .i64 0, .func (.func 94) #[] #[], .func (.func 91) #[] #[]]) (by simp [results, Try.results79, go_sem]) rfl ⟨rfl, ?_⟩
  repeat first
    | exact Below.refl _ _
    | refine Below.setCell ?_ (by simp <;> omega) _
    | refine Below.alloc ?_ (by simp <;> omega) _
    | refine Below.drew ?_

set_option maxRecDepth 20000 in
set_option maxHeartbeats 1000000 in
theorem deedOf4 (w : World) :
    Calls Try.prog 79 #[.int .i64 4] w fun e w' => e = .returned (.agg #[.int .i64 9999, .int .i64 0, .func (.func 92) #[] #[], .func (.func 91) #[] #[]]) ∧ Below w.heap.size w w' := by
  go_enter Try.func79, Try.ntmps79
  go_upto_region 1 with fail
  iterate 23 go_step
  refine wp_store_row 112 _ _ rfl (w.heap.size + 1) _ (by rfl) (by rfl) 112 _ (heap_last _ _ _) (by kernel_rfl) (by rfl) (by kernel_rfl) ?_
  rw [setRow_last]
  go_wp2
  refine bodyPost_ret (v := .agg #[.int .i64 9999, .int .i64 0, .func (.func 92) #[] #[], .func (.func 91) #[] #[]]) (by simp [results, Try.results79, go_sem]) rfl ⟨rfl, ?_⟩
  repeat first
    | exact Below.refl _ _
    | refine Below.setCell ?_ (by simp <;> omega) _
    | refine Below.alloc ?_ (by simp <;> omega) _
    | refine Below.drew ?_

set_option maxRecDepth 20000 in
set_option maxHeartbeats 1000000 in
theorem deedOf5 (w : World) :
    Calls Try.prog 79 #[.int .i64 5] w fun e w' => e = .returned (.agg #[.int .i64 9999, .int .i64 9999, .func (.func 95) #[] #[], .func (.func 91) #[] #[]]) ∧ Below w.heap.size w w' := by
  go_enter Try.func79, Try.ntmps79
  go_upto_region 1 with fail
  iterate 23 go_step
  refine wp_store_row 112 _ _ rfl (w.heap.size + 1) _ (by rfl) (by rfl) 112 _ (heap_last _ _ _) (by kernel_rfl) (by rfl) (by kernel_rfl) ?_
  rw [setRow_last]
  go_wp2
  refine bodyPost_ret (v := .agg #[.int .i64 9999, .int .i64 9999, .func (.func 95) #[] #[], .func (.func 91) #[] #[]]) (by simp [results, Try.results79, go_sem]) rfl ⟨rfl, ?_⟩
  repeat first
    | exact Below.refl _ _
    | refine Below.setCell ?_ (by simp <;> omega) _
    | refine Below.alloc ?_ (by simp <;> omega) _
    | refine Below.drew ?_

set_option maxHeartbeats 400000 in
theorem stays_any (k a x y z : Int) (w : World) :
    Calls Try.prog 90 #[.agg #[.int .i64 k, .int .i64 a, .int .i64 x, .int .i64 y], .int .i64 z] w fun e w' => e = .returned (.int .i64 z) ∧ Below w.heap.size w w' := by
  have B := (Below.refl w.heap.size w).alloc (Nat.le_refl _)
  go_enter Try.func90, Try.ntmps90
  go_wp2
  go_ret
  exact ⟨rfl, B _⟩

set_option maxHeartbeats 400000 in
theorem becomesA_any (k a x y z : Int) (w : World) :
    Calls Try.prog 92 #[.agg #[.int .i64 k, .int .i64 a, .int .i64 x, .int .i64 y], .int .i64 z] w fun e w' => e = .returned (.int .i64 x) ∧ Below w.heap.size w w' := by
  have B := (Below.refl w.heap.size w).alloc (Nat.le_refl _)
  go_enter Try.func92, Try.ntmps92
  go_wp2
  go_ret
  exact ⟨rfl, B _⟩

set_option maxHeartbeats 400000 in
theorem addsA_any (k a x y z : Int) (w : World) (hx : 0 ≤ x) (hx1 : x ≤ 9999) (hz : 0 ≤ z) (hz1 : z ≤ 9999) :
    Calls Try.prog 94 #[.agg #[.int .i64 k, .int .i64 a, .int .i64 x, .int .i64 y], .int .i64 z] w fun e w' => e = .returned (.int .i64 ((z + x) % 10000)) ∧ Below w.heap.size w w' := by
  have B := (Below.refl w.heap.size w).alloc (Nat.le_refl _)
  go_enter Try.func94, Try.ntmps94
  go_wp2
  go_ret
  exact ⟨ret_int (by first | rfl | (rw [Int.tmod_eq_emod_of_nonneg (by omega)]) | (congr 1; omega)), B _⟩

set_option maxHeartbeats 400000 in
theorem becomesBFromA_any (k a x y z : Int) (w : World) :
    Calls Try.prog 95 #[.agg #[.int .i64 k, .int .i64 a, .int .i64 x, .int .i64 y], .int .i64 z] w fun e w' => e = .returned (.int .i64 (if z = x then y else z)) ∧ Below w.heap.size w w' := by
  have B := (Below.refl w.heap.size w).alloc (Nat.le_refl _)
  by_cases h : z = x
  · have H : Hid ((if z = x then y else z) = y) := by unfold Hid; simp [h]
    subst h
    generalize (if z = z then y else z) = q at H ⊢
    go_enter Try.func95, Try.ntmps95
    go_wp2
    go_ret
    exact ⟨ret_int H.out.symm, B _⟩
  · have H : Hid ((if z = x then y else z) = z) := by unfold Hid; simp [h]
    generalize (if z = x then y else z) = q at H ⊢
    go_enter Try.func95, Try.ntmps95
    go_wp2
    go_ret
    exact ⟨ret_int H.out.symm, B _⟩

set_option maxHeartbeats 400000 in
theorem whatItWas_any (z : Int) (w : World) :
    Calls Try.prog 91 #[.int .i64 z] w fun e w' => e = .returned (.int .i64 z) ∧ w' = w := by
  go_enter Try.func91, Try.ntmps91
  go_wp2
  go_ret
  exact ⟨rfl, rfl⟩

set_option maxHeartbeats 400000 in
theorem nothing_any (z : Int) (w : World) :
    Calls Try.prog 93 #[.int .i64 z] w fun e w' => e = .returned (.int .i64 0) ∧ w' = w := by
  go_enter Try.func93, Try.ntmps93
  go_wp2
  go_ret
  exact ⟨rfl, rfl⟩

set_option maxHeartbeats 400000 in
theorem fits_any (p q : Int) (f g : Value) (k a x y : Int) (w : World) :
    Calls Try.prog 80 #[.agg #[.int .i64 p, .int .i64 q, f, g], .agg #[.int .i64 k, .int .i64 a, .int .i64 x, .int .i64 y]] w fun e w' => e = .returned (.bool (betw x 0 p && betw y 0 q)) ∧ Below w.heap.size w w' := by
  cases h : betw x 0 p
  all_goals
    go_enter Try.func80, Try.ntmps80
    go_wp2_with (go_at_call 62; refine (between_any _ _ _ _).mono ?_; rintro e w' ⟨rfl, rfl⟩)
    go_ret
    refine ⟨rfl, ?_⟩
    exact (Below.alloc (Below.alloc (Below.refl _ _) (Nat.le_refl _) _) (by simp) _)

set_option maxHeartbeats 1000000 in
theorem implOpOk_any (k a x y : Int) (w : World) :
    Calls Try.prog 61 #[.agg #[.int .i64 k, .int .i64 a, .int .i64 x, .int .i64 y]] w fun e w' => e = .returned (.bool (opB k a x y)) ∧ Below w.heap.size w w' := by
  have B := (Below.refl w.heap.size w).alloc (Nat.le_refl _)
  cases h1 : betw k 1 5
  · have H : Hid (opB k a x y = false) := by unfold Hid opB; simp [h1]
    go_enter Try.func61, Try.ntmps61
    go_wp2
    go_quiet (first | (go_at_call 62; exact Calls.quiet_of_same (between_any _ _ _ _)))
    go_wp2
    go_ret
    exact ⟨ret_bool H.out.symm, bl_drew (B _)⟩
  · cases h2 : betw a 0 31
    · have H : Hid (opB k a x y = false) := by unfold Hid opB; simp [h2]
      go_enter Try.func61, Try.ntmps61
      go_wp2
      go_quiet (first | (go_at_call 62; exact Calls.quiet_of_same (between_any _ _ _ _)))
      go_wp2
      go_ret
      exact ⟨ret_bool H.out.symm, bl_drew (B _)⟩
    · rcases opKind h1 with rfl | rfl | rfl | rfl | rfl
      · have H : Hid (opB 1 a x y = (betw x 0 0 && betw y 0 0)) := by unfold Hid opB; rw [h1, h2]; rfl
        have R := heap_alloc_new w (.cells #[.int .i64 1, .int .i64 a, .int .i64 x, .int .i64 y] 58)
        replace B := B (.cells #[.int .i64 1, .int .i64 a, .int .i64 x, .int .i64 y] 58)
        go_enter Try.func61, Try.ntmps61
        go_wp2
        generalize w.alloc (.cells #[.int .i64 1, .int .i64 a, .int .i64 x, .int .i64 y] 58) = W at R B ⊢
        obtain ⟨n0, n1, n2, n3⟩ := op_cls R
        clear R
        refine region_class (fun wx => Below W.heap.size W wx) (by kernel_rfl) (by kernel_rfl) ((Below.refl _ W).drew) ?_
        intro hne
        repeat (quiet_step (first
          | (go_at_call 62; exact calls_class_same (between_any _ _ _ _))
          | (go_at_call 79; exact calls_class (deedOf1 _) (fun w' hc bb => below_step hc bb))
          | (go_at_call 80; exact calls_class (fits_any _ _ _ _ _ _ _ _ _) (fun w' hc bb => below_step hc bb))))
        refine wpQuiet_nil ?_
        intro wx b2
        clear n0 n1 n2 n3 hne
        go_wp2
        go_ret
        exact ⟨ret_bool H.out.symm, below_step B b2⟩
      · have H : Hid (opB 2 a x y = (betw x 0 9999 && betw y 0 0)) := by unfold Hid opB; rw [h1, h2]; rfl
        have R := heap_alloc_new w (.cells #[.int .i64 2, .int .i64 a, .int .i64 x, .int .i64 y] 58)
        replace B := B (.cells #[.int .i64 2, .int .i64 a, .int .i64 x, .int .i64 y] 58)
        go_enter Try.func61, Try.ntmps61
        go_wp2
        generalize w.alloc (.cells #[.int .i64 2, .int .i64 a, .int .i64 x, .int .i64 y] 58) = W at R B ⊢
        obtain ⟨n0, n1, n2, n3⟩ := op_cls R
        clear R
        refine region_class (fun wx => Below W.heap.size W wx) (by kernel_rfl) (by kernel_rfl) ((Below.refl _ W).drew) ?_
        intro hne
        repeat (quiet_step (first
          | (go_at_call 62; exact calls_class_same (between_any _ _ _ _))
          | (go_at_call 79; exact calls_class (deedOf2 _) (fun w' hc bb => below_step hc bb))
          | (go_at_call 80; exact calls_class (fits_any _ _ _ _ _ _ _ _ _) (fun w' hc bb => below_step hc bb))))
        refine wpQuiet_nil ?_
        intro wx b2
        clear n0 n1 n2 n3 hne
        go_wp2
        go_ret
        exact ⟨ret_bool H.out.symm, below_step B b2⟩
      · have H : Hid (opB 3 a x y = (betw x 0 9999 && betw y 0 0)) := by unfold Hid opB; rw [h1, h2]; rfl
        have R := heap_alloc_new w (.cells #[.int .i64 3, .int .i64 a, .int .i64 x, .int .i64 y] 58)
        replace B := B (.cells #[.int .i64 3, .int .i64 a, .int .i64 x, .int .i64 y] 58)
        go_enter Try.func61, Try.ntmps61
        go_wp2
        generalize w.alloc (.cells #[.int .i64 3, .int .i64 a, .int .i64 x, .int .i64 y] 58) = W at R B ⊢
        obtain ⟨n0, n1, n2, n3⟩ := op_cls R
        clear R
        refine region_class (fun wx => Below W.heap.size W wx) (by kernel_rfl) (by kernel_rfl) ((Below.refl _ W).drew) ?_
        intro hne
        repeat (quiet_step (first
          | (go_at_call 62; exact calls_class_same (between_any _ _ _ _))
          | (go_at_call 79; exact calls_class (deedOf3 _) (fun w' hc bb => below_step hc bb))
          | (go_at_call 80; exact calls_class (fits_any _ _ _ _ _ _ _ _ _) (fun w' hc bb => below_step hc bb))))
        refine wpQuiet_nil ?_
        intro wx b2
        clear n0 n1 n2 n3 hne
        go_wp2
        go_ret
        exact ⟨ret_bool H.out.symm, below_step B b2⟩
      · have H : Hid (opB 4 a x y = (betw x 0 9999 && betw y 0 0)) := by unfold Hid opB; rw [h1, h2]; rfl
        have R := heap_alloc_new w (.cells #[.int .i64 4, .int .i64 a, .int .i64 x, .int .i64 y] 58)
        replace B := B (.cells #[.int .i64 4, .int .i64 a, .int .i64 x, .int .i64 y] 58)
        go_enter Try.func61, Try.ntmps61
        go_wp2
        generalize w.alloc (.cells #[.int .i64 4, .int .i64 a, .int .i64 x, .int .i64 y] 58) = W at R B ⊢
        obtain ⟨n0, n1, n2, n3⟩ := op_cls R
        clear R
        refine region_class (fun wx => Below W.heap.size W wx) (by kernel_rfl) (by kernel_rfl) ((Below.refl _ W).drew) ?_
        intro hne
        repeat (quiet_step (first
          | (go_at_call 62; exact calls_class_same (between_any _ _ _ _))
          | (go_at_call 79; exact calls_class (deedOf4 _) (fun w' hc bb => below_step hc bb))
          | (go_at_call 80; exact calls_class (fits_any _ _ _ _ _ _ _ _ _) (fun w' hc bb => below_step hc bb))))
        refine wpQuiet_nil ?_
        intro wx b2
        clear n0 n1 n2 n3 hne
        go_wp2
        go_ret
        exact ⟨ret_bool H.out.symm, below_step B b2⟩
      · have H : Hid (opB 5 a x y = (betw x 0 9999 && betw y 0 9999)) := by unfold Hid opB; rw [h1, h2]; rfl
        have R := heap_alloc_new w (.cells #[.int .i64 5, .int .i64 a, .int .i64 x, .int .i64 y] 58)
        replace B := B (.cells #[.int .i64 5, .int .i64 a, .int .i64 x, .int .i64 y] 58)
        go_enter Try.func61, Try.ntmps61
        go_wp2
        generalize w.alloc (.cells #[.int .i64 5, .int .i64 a, .int .i64 x, .int .i64 y] 58) = W at R B ⊢
        obtain ⟨n0, n1, n2, n3⟩ := op_cls R
        clear R
        refine region_class (fun wx => Below W.heap.size W wx) (by kernel_rfl) (by kernel_rfl) ((Below.refl _ W).drew) ?_
        intro hne
        repeat (quiet_step (first
          | (go_at_call 62; exact calls_class_same (between_any _ _ _ _))
          | (go_at_call 79; exact calls_class (deedOf5 _) (fun w' hc bb => below_step hc bb))
          | (go_at_call 80; exact calls_class (fits_any _ _ _ _ _ _ _ _ _) (fun w' hc bb => below_step hc bb))))
        refine wpQuiet_nil ?_
        intro wx b2
        clear n0 n1 n2 n3 hne
        go_wp2
        go_ret
        exact ⟨ret_bool H.out.symm, below_step B b2⟩

set_option maxHeartbeats 1000000 in
theorem specOpOk_any (k a x y : Int) (w : World) :
    Calls Try.prog 23 #[.agg #[.int .i64 k, .int .i64 a, .int .i64 x, .int .i64 y]] w fun e w' => e = .returned (.bool (opB k a x y)) ∧ Below w.heap.size w w' := by
  have B := (Below.refl w.heap.size w).alloc (Nat.le_refl _)
  cases h1 : betw k 1 5 <;> cases h2 : betw a 0 31 <;> cases h3 : okW x <;> cases h4 : okW y
  case true.true.true.true =>
    rcases opKind h1 with rfl | rfl | rfl | rfl | rfl
    · have H : Hid (opB 1 a x y = (x == 0 && y == 0)) := by
        unfold Hid opB opMostA opMostB
        unfold okW betw at h3 h4
        rw [h1, h2]
        unfold betw
        rw [Bool.eq_iff_iff]
        simp at h3 h4 ⊢
        omega
      by_cases hx : x = 0 <;> by_cases hy : y = 0
      all_goals
        go_enter Try.func23, Try.ntmps23
        go_wp2_with (first
          | (go_at_call 22; refine (l1In_any _ _ _ _).mono ?_; rintro e w' ⟨rfl, rfl⟩)
          | (go_at_call 54; refine (l3Word_any _ _).mono ?_; rintro e w' ⟨rfl, rfl⟩))
        go_ret
        exact ⟨ret_bool (H.out.trans (by simp [hx, hy])).symm, B _⟩
    · have H : Hid (opB 2 a x y = (y == 0)) := by
        unfold Hid opB opMostA opMostB
        unfold okW betw at h3 h4
        rw [h1, h2]
        unfold betw
        rw [Bool.eq_iff_iff]
        simp at h3 h4 ⊢
        omega
      by_cases hy : y = 0
      all_goals
        go_enter Try.func23, Try.ntmps23
        go_wp2_with (first
          | (go_at_call 22; refine (l1In_any _ _ _ _).mono ?_; rintro e w' ⟨rfl, rfl⟩)
          | (go_at_call 54; refine (l3Word_any _ _).mono ?_; rintro e w' ⟨rfl, rfl⟩))
        go_ret
        exact ⟨ret_bool (H.out.trans (by simp [hy])).symm, B _⟩
    · have H : Hid (opB 3 a x y = (y == 0)) := by
        unfold Hid opB opMostA opMostB
        unfold okW betw at h3 h4
        rw [h1, h2]
        unfold betw
        rw [Bool.eq_iff_iff]
        simp at h3 h4 ⊢
        omega
      by_cases hy : y = 0
      all_goals
        go_enter Try.func23, Try.ntmps23
        go_wp2_with (first
          | (go_at_call 22; refine (l1In_any _ _ _ _).mono ?_; rintro e w' ⟨rfl, rfl⟩)
          | (go_at_call 54; refine (l3Word_any _ _).mono ?_; rintro e w' ⟨rfl, rfl⟩))
        go_ret
        exact ⟨ret_bool (H.out.trans (by simp [hy])).symm, B _⟩
    · have H : Hid (opB 4 a x y = (y == 0)) := by
        unfold Hid opB opMostA opMostB
        unfold okW betw at h3 h4
        rw [h1, h2]
        unfold betw
        rw [Bool.eq_iff_iff]
        simp at h3 h4 ⊢
        omega
      by_cases hy : y = 0
      all_goals
        go_enter Try.func23, Try.ntmps23
        go_wp2_with (first
          | (go_at_call 22; refine (l1In_any _ _ _ _).mono ?_; rintro e w' ⟨rfl, rfl⟩)
          | (go_at_call 54; refine (l3Word_any _ _).mono ?_; rintro e w' ⟨rfl, rfl⟩))
        go_ret
        exact ⟨ret_bool (H.out.trans (by simp [hy])).symm, B _⟩
    · have H : Hid (opB 5 a x y = true) := by
        unfold Hid opB opMostA opMostB
        unfold okW betw at h3 h4
        rw [h1, h2]
        unfold betw
        rw [Bool.eq_iff_iff]
        simp at h3 h4 ⊢
        omega
      skip
      all_goals
        go_enter Try.func23, Try.ntmps23
        go_wp2_with (first
          | (go_at_call 22; refine (l1In_any _ _ _ _).mono ?_; rintro e w' ⟨rfl, rfl⟩)
          | (go_at_call 54; refine (l3Word_any _ _).mono ?_; rintro e w' ⟨rfl, rfl⟩))
        go_ret
        exact ⟨ret_bool (H.out.trans (by simp [])).symm, B _⟩
  all_goals
    have H : Hid (opB k a x y = false) := by
      unfold Hid opB opMostA opMostB
      unfold okW betw at h3 h4
      unfold betw at h1 h2 ⊢
      rw [Bool.eq_iff_iff]
      simp at h1 h2 h3 h4 ⊢
      intros
      try split
      all_goals omega
    go_enter Try.func23, Try.ntmps23
    go_wp2_with (first
          | (go_at_call 22; refine (l1In_any _ _ _ _).mono ?_; rintro e w' ⟨rfl, rfl⟩)
          | (go_at_call 54; refine (l3Word_any _ _).mono ?_; rintro e w' ⟨rfl, rfl⟩))
    go_ret
    exact ⟨ret_bool H.out.symm, B _⟩

end Go.Proofs.Ytbcggkfbahmpoaa
