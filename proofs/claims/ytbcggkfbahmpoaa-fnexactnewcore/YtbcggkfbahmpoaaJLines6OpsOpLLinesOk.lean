import Derived.Test.YtbcggkfbahmpoaaJLinesBoxesAppGenOwned
import Derived.Test.YtbcggkfbahmpoaaJOwn5OpensBaseClassesBits
import Derived.Below
import Derived.Laws.EntriesVeiled
import Derived.Deep.QuietTactic
import Derived.Deep.Cut
import Derived.Deep.WholeRow
import Derived.BigQuiet
import Derived.Test.YtbcggkfbahmpoaaJListsOwnNumsCopies

/- The contracts of lines, of the specification: what LineOk, WordAt, Put and Masked answer; lists are new memory. Conditions: lists of at most 2^20 numbers. -/
namespace Go.Proofs.Ytbcggkfbahmpoaa
open Go.ChangeShapes Go.WideShapes Go.ChangeAt Go.RowKit

set_option maxHeartbeats 400000 in
theorem l3Word_any (k : Int) (w : World) : Calls Try.prog 54 #[.int .i64 k] w fun e w' => e = .returned (.bool (okW k)) ∧ w' = w := by
  go_enter Try.func54, Try.ntmps54
  go_wp2_with (go_at_call 22; refine (l1In_any _ _ _ _).mono ?_; rintro e w' ⟨rfl, rfl⟩)
  go_ret
  exact ⟨rfl, rfl⟩

set_option maxHeartbeats 400000 in
theorem specLineOk_not (a : Option Addr) (n cap : Nat) (w : World) (hn : n ≠ 2) :
    Calls Try.prog 55 #[.slice a n cap] w fun e w' => e = .returned (.bool false) ∧ w' = w := by
  have hn' : ((n : Int) == 2) = false := by simp; omega
  go_enter Try.func55, Try.ntmps55
  go_wp2
  go_ret
  exact ⟨rfl, rfl⟩

set_option maxHeartbeats 400000 in
theorem specLineOk_two (a : Option Addr) (x y : Int) (cap : Nat) (w : World) (h : Reads w a [x, y]) :
    Calls Try.prog 55 #[.slice a 2 cap] w fun e w' => e = .returned (.bool (okW x && okW y)) ∧ w' = w := by
  obtain ⟨b, off, rfl, c0, c1⟩ := reads_two h
  clear h
  cases hx : okW x <;> cases hy : okW y
  all_goals
    go_enter Try.func55, Try.ntmps55
    go_wp2_with (go_at_call 54; refine (l3Word_any _ _).mono ?_; rintro e w' ⟨rfl, rfl⟩)
    go_ret
    exact ⟨rfl, rfl⟩

theorem specLineOk_any (a : Option Addr) (xs : List Int) (cap : Nat) (w : World) (h : Reads w a xs) :
    Calls Try.prog 55 #[.slice a xs.length cap] w fun e w' => e = .returned (.bool (isL xs)) ∧ w' = w := by
  match xs with
  | [x, y] => exact specLineOk_two a x y cap w h
  | [] => exact specLineOk_not a 0 cap w (by simp)
  | [_] => exact specLineOk_not a 1 cap w (by simp)
  | _ :: _ :: _ :: r => exact specLineOk_not a (r.length + 1 + 1 + 1) cap w (by omega)

theorem specLineOk_yes (a : Option Addr) (x y : Int) (cap : Nat) (w : World) (h : Reads w a [x, y]) (hx : okW x = true) (hy : okW y = true) :
    Calls Try.prog 55 #[.slice a 2 cap] w fun e w' => e = .returned (.bool true) ∧ w' = w := by
  refine (specLineOk_two a x y cap w h).mono ?_
  rintro e w' ⟨rfl, rfl⟩
  exact ⟨by rw [hx, hy]; rfl, rfl⟩


theorem made_put {w w1 : World} {g cap : Nat} {zs : List Int} (h : OwnI w.heap.size w1 g cap zs) (hb : Below w.heap.size w w1) (k : Nat) (u : Int) :
    Made w (w1.setCell ⟨g, k, none⟩ (.int .i64 u)) (.slice (some ⟨g, 0, none⟩) zs.length cap) (zs.set k u) := by
  have hl := h.lt g rfl
  have S := World.ownsRow.stored h k (.int .i64 u)
  refine ⟨g, cap, by simp, hl.1, by simpa using hl.2, ?_, hb.grown S.2 hb.size (by intro j hj; cases hj; exact hl.1)⟩
  have := S.1
  unfold OwnI
  rw [List.length_set, List.map_set]
  exact this

theorem owni_cells {B g cap : Nat} {w : World} {x y : Int} (h : OwnI B w g cap [x, y]) :
    w.cell? ⟨g, 0, none⟩ = some (.int .i64 x) ∧ w.cell? ⟨g, 1, none⟩ = some (.int .i64 y) ∧ w.frozen? ⟨g, 0, none⟩ = false ∧ w.frozen? ⟨g, 1, none⟩ = false :=
  ⟨by rw [World.ownsRow.cellAt h 0 (by simp)]; rfl, by rw [World.ownsRow.cellAt h 1 (by simp)]; rfl, World.ownsRow.frozenAt h 0, World.ownsRow.frozenAt h 1⟩


end Go.Proofs.Ytbcggkfbahmpoaa


/- The contracts of ops, of the program (a table whose rows hold functions) and of its specification. No condition. -/
namespace Go.Proofs.Ytbcggkfbahmpoaa
open Go.ChangeShapes Go.WideShapes Go.ChangeAt Go.RowKit

def opMostA (k : Int) : Int := if k = 1 then 0 else 9999
def opMostB (k : Int) : Int := if k = 5 then 9999 else 0
def opB (k a x y : Int) : Bool := betw k 1 5 && (betw a 0 31 && (betw x 0 (opMostA k) && betw y 0 (opMostB k)))
def opThen (k x y z : Int) : Int := if k = 1 then z else if k = 2 then x else if k = 3 then (z + x) % 10000 else if k = 4 then x else if z = x then y else z
def opTold (k z : Int) : Int := if k = 2 then 0 else z

theorem setRow_last (w : World) (o : Obj) (c c' : Array Value) (t : TypeId) : ((w.alloc o).alloc (.cells c t)).setRow (w.heap.size + 1) c' = (w.alloc o).alloc (.cells c' t) := by
  have := World.setRow_alloc_new (w.alloc o) c c' t
  rwa [show (w.alloc o).heap.size = w.heap.size + 1 by simp] at this
theorem heap_last (w : World) (o o2 : Obj) : ((w.alloc o).alloc o2).heap[w.heap.size + 1]? = some o2 := by
  have := heap_alloc_last (w.alloc o) o2
  rwa [show (w.alloc o).heap.size = w.heap.size + 1 by simp] at this
theorem op_cls {W : World} {g : Nat} {v0 v1 v2 v3 : Value} {t : TypeId} (R : W.heap[g]? = some (.cells #[v0, v1, v2, v3] t (0, 0))) :
    (∀ n : Cls (fun wx => Below W.heap.size W wx), n.w.cell? ⟨g, 0, none⟩ = some v0) ∧ (∀ n : Cls (fun wx => Below W.heap.size W wx), n.w.cell? ⟨g, 1, none⟩ = some v1) ∧
      (∀ n : Cls (fun wx => Below W.heap.size W wx), n.w.cell? ⟨g, 2, none⟩ = some v2) ∧ (∀ n : Cls (fun wx => Below W.heap.size W wx), n.w.cell? ⟨g, 3, none⟩ = some v3) := by
  refine ⟨fun n => ?_, fun n => ?_, fun n => ?_, fun n => ?_⟩
  · rw [cell_of_row n.w g 0 _ t (0, 0) (row_keep n.h R)]; rfl
  · rw [cell_of_row n.w g 1 _ t (0, 0) (row_keep n.h R)]; rfl
  · rw [cell_of_row n.w g 2 _ t (0, 0) (row_keep n.h R)]; rfl
  · rw [cell_of_row n.w g 3 _ t (0, 0) (row_keep n.h R)]; rfl
theorem op_cells {W : World} {g : Nat} {v0 v1 v2 v3 : Value} {t : TypeId} (R : W.heap[g]? = some (.cells #[v0, v1, v2, v3] t (0, 0))) :
    W.cell? ⟨g, 0, none⟩ = some v0 ∧ W.cell? ⟨g, 1, none⟩ = some v1 ∧ W.cell? ⟨g, 2, none⟩ = some v2 ∧ W.cell? ⟨g, 3, none⟩ = some v3 := by
  refine ⟨?_, ?_, ?_, ?_⟩
  · rw [cell_of_row W g 0 _ t (0, 0) R]; rfl
  · rw [cell_of_row W g 1 _ t (0, 0) R]; rfl
  · rw [cell_of_row W g 2 _ t (0, 0) R]; rfl
  · rw [cell_of_row W g 3 _ t (0, 0) R]; rfl
theorem bl_drew {w w' : World} {n : Nat} (h : Below n w w') {k : Nat} : Below n w (w'.drewN k) := ⟨h.os, h.tape, h.output, h.size, h.block⟩
theorem opKind {k : Int} (h : betw k 1 5 = true) : k = 1 ∨ k = 2 ∨ k = 3 ∨ k = 4 ∨ k = 5 := by simp [betw] at h; omega

theorem op_cell {w w1 : World} {cs : Array Value} {t : TypeId} (h : Below (w.alloc (.cells cs t)).heap.size (w.alloc (.cells cs t)) w1) (j : Nat) : w1.cell? ⟨w.heap.size, j, none⟩ = cs[j]? := by
  rw [h.cell (by simp), cell_of_row (w.alloc (.cells cs t)) w.heap.size j cs t (0, 0) (heap_alloc_new w _)]
theorem op_box {w w1 : World} {v0 v1 v2 v3 : Value} {t : TypeId} (h : Below (w.alloc (.cells #[v0, v1, v2, v3] t)).heap.size (w.alloc (.cells #[v0, v1, v2, v3] t)) w1) :
    w1.cell? ⟨w.heap.size, 0, none⟩ = some v0 ∧ w1.cell? ⟨w.heap.size, 1, none⟩ = some v1 ∧ w1.cell? ⟨w.heap.size, 2, none⟩ = some v2 ∧ w1.cell? ⟨w.heap.size, 3, none⟩ = some v3 :=
  ⟨op_cell h 0, op_cell h 1, op_cell h 2, op_cell h 3⟩

set_option maxRecDepth 20000 in
set_option maxHeartbeats 1000000 in
theorem deedOf1 (w : World) :
    Calls Try.prog 79 #[.int .i64 1] w fun e w' => e = .returned (.agg #[.int .i64 0, .int .i64 0, .func (.func 90) #[] #[], .func (.func 91) #[] #[]]) ∧ Below w.heap.size w w' := by
  go_enter Try.func79, Try.ntmps79
  go_upto_region 1 with fail
  iterate 23 go_step
  refine wp_store_row 112 _ _ rfl (w.heap.size + 1) _ (by rfl) (by rfl) 112 _ (heap_last _ _ _) (by kernel_rfl) (by rfl) (by kernel_rfl) ?_
  rw [setRow_last]
  go_wp2
  refine bodyPost_ret (v := .agg #[.int .i64 0, .int .i64 0, .func (.func 90) #[] #[], .func (.func 91) #[] #[]]) (by simp [results, Try.results79, go_sem]) rfl ⟨rfl, ?_⟩
  repeat first
    | exact Below.refl _ _
    | refine Below.setCell ?_ (by simp <;> omega) _
    | refine Below.alloc ?_ (by simp <;> omega) _
    | refine Below.drew ?_

set_option maxRecDepth 20000 in
set_option maxHeartbeats 1000000 in
theorem deedOf2 (w : World) :
    Calls Try.prog 79 #[.int .i64 2] w fun e w' => e = .returned (.agg #[.int .i64 9999, .int .i64 0, .func (.func 92) #[] #[], .func (.func 93) #[] #[]]) ∧ Below w.heap.size w w' := by
  go_enter Try.func79, Try.ntmps79
  go_upto_region 1 with fail
  iterate 23 go_step
  refine wp_store_row 112 _ _ rfl (w.heap.size + 1) _ (by rfl) (by rfl) 112 _ (heap_last _ _ _) (by kernel_rfl) (by rfl) (by kernel_rfl) ?_
  rw [setRow_last]
  go_wp2
  refine bodyPost_ret (v := .agg #[.int .i64 9999, .int .i64 0, .func (.func 92) #[] #[], .func (.func 93) #[] #[]]) (by simp [results, Try.results79, go_sem]) rfl ⟨rfl, ?_⟩
  repeat first
    | exact Below.refl _ _
    | refine Below.setCell ?_ (by simp <;> omega) _
    | refine Below.alloc ?_ (by simp <;> omega) _
    | refine Below.drew ?_

set_option maxRecDepth 20000 in
set_option maxHeartbeats 1000000 in
theorem deedOf3 (w : World) :
    Calls Try.prog 79 #[.int .i64 3] w fun e w' => e = .returned (.agg #[.int .i64 9999, .int .i64 0, .func (.func 94) #[] #[], .func (.func 91) #[] #[]]) ∧ Below w.heap.size w w' := by
  go_enter Try.func79, Try.ntmps79
  go_upto_region 1 with fail
  iterate 23 go_step
  refine wp_store_row 112 _ _ rfl (w.heap.size + 1) _ (by rfl) (by rfl) 112 _ (heap_last _ _ _) (by kernel_rfl) (by rfl) (by kernel_rfl) ?_
  rw [setRow_last]
  go_wp2
  refine bodyPost_ret (v := .agg #[.int .i64 9999, .int .i64 0, .func (.func 94) #[] #[], .func (.func 91) #[] #[]]) (by simp [results, Try.results79, go_sem]) rfl ⟨rfl, ?_⟩
  repeat first
    | exact Below.refl _ _
    | refine Below.setCell ?_ (by simp <;> omega) _
    | refine Below.alloc ?_ (by simp <;> omega) _
    | refine Below.drew ?_

set_option maxRecDepth 20000 in
set_option maxHeartbeats 1000000 in
theorem deedOf4 (w : World) :
    Calls Try.prog 79 #[.int .i64 4] w fun e w' => e = .returned (.agg #[.int .i64 9999, .int .i64 0, .func (.func 92) #[] #[], .func (.func 91) #[] #[]]) ∧ Below w.heap.size w w' := by
  go_enter Try.func79, Try.ntmps79
  go_upto_region 1 with fail
  iterate 23 go_step
  refine wp_store_row 112 _ _ rfl (w.heap.size + 1) _ (by rfl) (by rfl) 112 _ (heap_last _ _ _) (by kernel_rfl) (by rfl) (by kernel_rfl) ?_
  rw [setRow_last]
  go_wp2
  refine bodyPost_ret (v := .agg #[.int .i64 9999, .int .i64 0, .func (.func 92) #[] #[], .func (.func 91) #[] #[]]) (by simp [results, Try.results79, go_sem]) rfl ⟨rfl, ?_⟩
  repeat first
    | exact Below.refl _ _
    | refine Below.setCell ?_ (by simp <;> omega) _
    | refine Below.alloc ?_ (by simp <;> omega) _
    | refine Below.drew ?_

set_option maxRecDepth 20000 in
set_option maxHeartbeats 1000000 in
theorem deedOf5 (w : World) :
    Calls Try.prog 79 #[.int .i64 5] w fun e w' => e = .returned (.agg #[.int .i64 9999, .int .i64 9999, .func (.func 95) #[] #[], .func (.func 91) #[] #[]]) ∧ Below w.heap.size w w' := by
  go_enter Try.func79, Try.ntmps79
  go_upto_region 1 with fail
  iterate 23 go_step
  refine wp_store_row 112 _ _ rfl (w.heap.size + 1) _ (by rfl) (by rfl) 112 _ (heap_last _ _ _) (by kernel_rfl) (by rfl) (by kernel_rfl) ?_
  rw [setRow_last]
  go_wp2
  refine bodyPost_ret (v := .agg #[.int .i64 9999, .int .i64 9999, .func (.func 95) #[] #[], .func (.func 91) #[] #[]]) (by simp [results, Try.results79, go_sem]) rfl ⟨rfl, ?_⟩
  repeat first
    | exact Below.refl _ _
    | refine Below.setCell ?_ (by simp <;> omega) _
    | refine Below.alloc ?_ (by simp <;> omega) _
    | refine Below.drew ?_

set_option maxHeartbeats 400000 in
theorem stays_any (k a x y z : Int) (w : World) :
    Calls Try.prog 90 #[.agg #[.int .i64 k, .int .i64 a, .int .i64 x, .int .i64 y], .int .i64 z] w fun e w' => e = .returned (.int .i64 z) ∧ Below w.heap.size w w' := by
  have B := (Below.refl w.heap.size w).alloc (Nat.le_refl _)
  go_enter Try.func90, Try.ntmps90
  go_wp2
  go_ret
  exact ⟨rfl, B _⟩

set_option maxHeartbeats 400000 in
theorem becomesA_any (k a x y z : Int) (w : World) :
    Calls Try.prog 92 #[.agg #[.int .i64 k, .int .i64 a, .int .i64 x, .int .i64 y], .int .i64 z] w fun e w' => e = .returned (.int .i64 x) ∧ Below w.heap.size w w' := by
  have B := (Below.refl w.heap.size w).alloc (Nat.le_refl _)
  go_enter Try.func92, Try.ntmps92
  go_wp2
  go_ret
  exact ⟨rfl, B _⟩

set_option maxHeartbeats 400000 in
theorem addsA_any (k a x y z : Int) (w : World) (hx : 0 ≤ x) (hx1 : x ≤ 9999) (hz : 0 ≤ z) (hz1 : z ≤ 9999) :
    Calls Try.prog 94 #[.agg #[.int .i64 k, .int .i64 a, .int .i64 x, .int .i64 y], .int .i64 z] w fun e w' => e = .returned (.int .i64 ((z + x) % 10000)) ∧ Below w.heap.size w w' := by
  have B := (Below.refl w.heap.size w).alloc (Nat.le_refl _)
  go_enter Try.func94, Try.ntmps94
  go_wp2
  go_ret
  exact ⟨ret_int (by first | rfl | (rw [Int.tmod_eq_emod_of_nonneg (by omega)]) | (congr 1; omega)), B _⟩

set_option maxHeartbeats 400000 in
theorem becomesBFromA_any (k a x y z : Int) (w : World) :
    Calls Try.prog 95 #[.agg #[.int .i64 k, .int .i64 a, .int .i64 x, .int .i64 y], .int .i64 z] w fun e w' => e = .returned (.int .i64 (if z = x then y else z)) ∧ Below w.heap.size w w' := by
  have B := (Below.refl w.heap.size w).alloc (Nat.le_refl _)
  by_cases h : z = x
  · have H : Hid ((if z = x then y else z) = y) := by unfold Hid; simp [h]
    subst h
    generalize (if z = z then y else z) = q at H ⊢
    go_enter Try.func95, Try.ntmps95
    go_wp2
    go_ret
    exact ⟨ret_int H.out.symm, B _⟩
  · have H : Hid ((if z = x then y else z) = z) := by unfold Hid; simp [h]
    generalize (if z = x then y else z) = q at H ⊢
    go_enter Try.func95, Try.ntmps95
    go_wp2
    go_ret
    exact ⟨ret_int H.out.symm, B _⟩

set_option maxHeartbeats 400000 in
theorem whatItWas_any (z : Int) (w : World) :
    Calls Try.prog 91 #[.int .i64 z] w fun e w' => e = .returned (.int .i64 z) ∧ w' = w := by
  go_enter Try.func91, Try.ntmps91
  go_wp2
  go_ret
  exact ⟨rfl, rfl⟩

set_option maxHeartbeats 400000 in
theorem nothing_any (z : Int) (w : World) :
    Calls Try.prog 93 #[.int .i64 z] w fun e w' => e = .returned (.int .i64 0) ∧ w' = w := by
  go_enter Try.func93, Try.ntmps93
  go_wp2
  go_ret
  exact ⟨rfl, rfl⟩

set_option maxHeartbeats 400000 in
theorem fits_any (p q : Int) (f g : Value) (k a x y : Int) (w : World) :
    Calls Try.prog 80 #[.agg #[.int .i64 p, .int .i64 q, f, g], .agg #[.int .i64 k, .int .i64 a, .int .i64 x, .int .i64 y]] w fun e w' => e = .returned (.bool (betw x 0 p && betw y 0 q)) ∧ Below w.heap.size w w' := by
  cases h : betw x 0 p
  all_goals
    go_enter Try.func80, Try.ntmps80
    go_wp2_with (go_at_call 62; refine (between_any _ _ _ _).mono ?_; rintro e w' ⟨rfl, rfl⟩)
    go_ret
    refine ⟨rfl, ?_⟩
    exact (Below.alloc (Below.alloc (Below.refl _ _) (Nat.le_refl _) _) (by simp) _)

set_option maxHeartbeats 1000000 in
theorem implOpOk_any (k a x y : Int) (w : World) :
    Calls Try.prog 61 #[.agg #[.int .i64 k, .int .i64 a, .int .i64 x, .int .i64 y]] w fun e w' => e = .returned (.bool (opB k a x y)) ∧ Below w.heap.size w w' := by
  have B := (Below.refl w.heap.size w).alloc (Nat.le_refl _)
  cases h1 : betw k 1 5
  · have H : Hid (opB k a x y = false) := by unfold Hid opB; simp [h1]
    go_enter Try.func61, Try.ntmps61
    go_wp2
    go_quiet (first | (go_at_call 62; exact Calls.quiet_of_same (between_any _ _ _ _)))
    go_wp2
    go_ret
    exact ⟨ret_bool H.out.symm, bl_drew (B _)⟩
  · cases h2 : betw a 0 31
    · have H : Hid (opB k a x y = false) := by unfold Hid opB; simp [h2]
      go_enter Try.func61, Try.ntmps61
      go_wp2
      go_quiet (first | (go_at_call 62; exact Calls.quiet_of_same (between_any _ _ _ _)))
      go_wp2
      go_ret
      exact ⟨ret_bool H.out.symm, bl_drew (B _)⟩
    · rcases opKind h1 with rfl | rfl | rfl | rfl | rfl
      · have H : Hid (opB 1 a x y = (betw x 0 0 && betw y 0 0)) := by unfold Hid opB; rw [h1, h2]; rfl
        have R := heap_alloc_new w (.cells #[.int .i64 1, .int .i64 a, .int .i64 x, .int .i64 y] 58)
        replace B := B (.cells #[.int .i64 1, .int .i64 a, .int .i64 x, .int .i64 y] 58)
        go_enter Try.func61, Try.ntmps61
        go_wp2
        generalize w.alloc (.cells #[.int .i64 1, .int .i64 a, .int .i64 x, .int .i64 y] 58) = W at R B ⊢
        obtain ⟨n0, n1, n2, n3⟩ := op_cls R
        clear R
        refine region_class (fun wx => Below W.heap.size W wx) (by kernel_rfl) (by kernel_rfl) ((Below.refl _ W).drew) ?_
        intro hne
        repeat (quiet_step (first
          | (go_at_call 62; exact calls_class_same (between_any _ _ _ _))
          | (go_at_call 79; exact calls_class (deedOf1 _) (fun w' hc bb => below_step hc bb))
          | (go_at_call 80; exact calls_class (fits_any _ _ _ _ _ _ _ _ _) (fun w' hc bb => below_step hc bb))))
        refine wpQuiet_nil ?_
        intro wx b2
        clear n0 n1 n2 n3 hne
        go_wp2
        go_ret
        exact ⟨ret_bool H.out.symm, below_step B b2⟩
      · have H : Hid (opB 2 a x y = (betw x 0 9999 && betw y 0 0)) := by unfold Hid opB; rw [h1, h2]; rfl
        have R := heap_alloc_new w (.cells #[.int .i64 2, .int .i64 a, .int .i64 x, .int .i64 y] 58)
        replace B := B (.cells #[.int .i64 2, .int .i64 a, .int .i64 x, .int .i64 y] 58)
        go_enter Try.func61, Try.ntmps61
        go_wp2
        generalize w.alloc (.cells #[.int .i64 2, .int .i64 a, .int .i64 x, .int .i64 y] 58) = W at R B ⊢
        obtain ⟨n0, n1, n2, n3⟩ := op_cls R
        clear R
        refine region_class (fun wx => Below W.heap.size W wx) (by kernel_rfl) (by kernel_rfl) ((Below.refl _ W).drew) ?_
        intro hne
        repeat (quiet_step (first
          | (go_at_call 62; exact calls_class_same (between_any _ _ _ _))
          | (go_at_call 79; exact calls_class (deedOf2 _) (fun w' hc bb => below_step hc bb))
          | (go_at_call 80; exact calls_class (fits_any _ _ _ _ _ _ _ _ _) (fun w' hc bb => below_step hc bb))))
        refine wpQuiet_nil ?_
        intro wx b2
        clear n0 n1 n2 n3 hne
        go_wp2
        go_ret
        exact ⟨ret_bool H.out.symm, below_step B b2⟩
      · have H : Hid (opB 3 a x y = (betw x 0 9999 && betw y 0 0)) := by unfold Hid opB; rw [h1, h2]; rfl
        have R := heap_alloc_new w (.cells #[.int .i64 3, .int .i64 a, .int .i64 x, .int .i64 y] 58)
        replace B := B (.cells #[.int .i64 3, .int .i64 a, .int .i64 x, .int .i64 y] 58)
        go_enter Try.func61, Try.ntmps61
        go_wp2
        generalize w.alloc (.cells #[.int .i64 3, .int .i64 a, .int .i64 x, .int .i64 y] 58) = W at R B ⊢
        obtain ⟨n0, n1, n2, n3⟩ := op_cls R
        clear R
        refine region_class (fun wx => Below W.heap.size W wx) (by kernel_rfl) (by kernel_rfl) ((Below.refl _ W).drew) ?_
        intro hne
        repeat (quiet_step (first
          | (go_at_call 62; exact calls_class_same (between_any _ _ _ _))
          | (go_at_call 79; exact calls_class (deedOf3 _) (fun w' hc bb => below_step hc bb))
          | (go_at_call 80; exact calls_class (fits_any _ _ _ _ _ _ _ _ _) (fun w' hc bb => below_step hc bb))))
        refine wpQuiet_nil ?_
        intro wx b2
        clear n0 n1 n2 n3 hne
        go_wp2
        go_ret
        exact ⟨ret_bool H.out.symm, below_step B b2⟩
      · have H : Hid (opB 4 a x y = (betw x 0 9999 && betw y 0 0)) := by unfold Hid opB; rw [h1, h2]; rfl
        have R := heap_alloc_new w (.cells #[.int .i64 4, .int .i64 a, .int .i64 x, .int .i64 y] 58)
        replace B := B (.cells #[.int .i64 4, .int .i64 a, .int .i64 x, .int .i64 y] 58)
        go_enter Try.func61, Try.ntmps61
        go_wp2
        generalize w.alloc (.cells #[.int .i64 4, .int .i64 a, .int .i64 x, .int .i64 y] 58) = W at R B ⊢
        obtain ⟨n0, n1, n2, n3⟩ := op_cls R
        clear R
        refine region_class (fun wx => Below W.heap.size W wx) (by kernel_rfl) (by kernel_rfl) ((Below.refl _ W).drew) ?_
        intro hne
        repeat (quiet_step (first
          | (go_at_call 62; exact calls_class_same (between_any _ _ _ _))
          | (go_at_call 79; exact calls_class (deedOf4 _) (fun w' hc bb => below_step hc bb))
          | (go_at_call 80; exact calls_class (fits_any _ _ _ _ _ _ _ _ _) (fun w' hc bb => below_step hc bb))))
        refine wpQuiet_nil ?_
        intro wx b2
        clear n0 n1 n2 n3 hne
        go_wp2
        go_ret
        exact ⟨ret_bool H.out.symm, below_step B b2⟩
      · have H : Hid (opB 5 a x y = (betw x 0 9999 && betw y 0 9999)) := by unfold Hid opB; rw [h1, h2]; rfl
        have R := heap_alloc_new w (.cells #[.int .i64 5, .int .i64 a, .int .i64 x, .int .i64 y] 58)
        replace B := B (.cells #[.int .i64 5, .int .i64 a, .int .i64 x, .int .i64 y] 58)
        go_enter Try.func61, Try.ntmps61
        go_wp2
        generalize w.alloc (.cells #[.int .i64 5, .int .i64 a, .int .i64 x, .int .i64 y] 58) = W at R B ⊢
        obtain ⟨n0, n1, n2, n3⟩ := op_cls R
        clear R
        refine region_class (fun wx => Below W.heap.size W wx) (by kernel_rfl) (by kernel_rfl) ((Below.refl _ W).drew) ?_
        intro hne
        repeat (quiet_step (first
          | (go_at_call 62; exact calls_class_same (between_any _ _ _ _))
          | (go_at_call 79; exact calls_class (deedOf5 _) (fun w' hc bb => below_step hc bb))
          | (go_at_call 80; exact calls_class (fits_any _ _ _ _ _ _ _ _ _) (fun w' hc bb => below_step hc bb))))
        refine wpQuiet_nil ?_
        intro wx b2
        clear n0 n1 n2 n3 hne
        go_wp2
        go_ret
        exact ⟨ret_bool H.out.symm, below_step B b2⟩

set_option maxHeartbeats 1000000 in
theorem specOpOk_any (k a x y : Int) (w : World) :
    Calls Try.prog 23 #[.agg #[.int .i64 k, .int .i64 a, .int .i64 x, .int .i64 y]] w fun e w' => e = .returned (.bool (opB k a x y)) ∧ Below w.heap.size w w' := by
  have B := (Below.refl w.heap.size w).alloc (Nat.le_refl _)
  cases h1 : betw k 1 5 <;> cases h2 : betw a 0 31 <;> cases h3 : okW x <;> cases h4 : okW y
  case true.true.true.true =>
    rcases opKind h1 with rfl | rfl | rfl | rfl | rfl
    · have H : Hid (opB 1 a x y = (x == 0 && y == 0)) := by
        unfold Hid opB opMostA opMostB
        unfold okW betw at h3 h4
        rw [h1, h2]
        unfold betw
        rw [Bool.eq_iff_iff]
        simp at h3 h4 ⊢
        omega
      by_cases hx : x = 0 <;> by_cases hy : y = 0
      all_goals
        go_enter Try.func23, Try.ntmps23
        go_wp2_with (first
          | (go_at_call 22; refine (l1In_any _ _ _ _).mono ?_; rintro e w' ⟨rfl, rfl⟩)
          | (go_at_call 54; refine (l3Word_any _ _).mono ?_; rintro e w' ⟨rfl, rfl⟩))
        go_ret
        exact ⟨ret_bool (H.out.trans (by simp [hx, hy])).symm, B _⟩
    · have H : Hid (opB 2 a x y = (y == 0)) := by
        unfold Hid opB opMostA opMostB
        unfold okW betw at h3 h4
        rw [h1, h2]
        unfold betw
        rw [Bool.eq_iff_iff]
        simp at h3 h4 ⊢
        omega
      by_cases hy : y = 0
      all_goals
        go_enter Try.func23, Try.ntmps23
        go_wp2_with (first
          | (go_at_call 22; refine (l1In_any _ _ _ _).mono ?_; rintro e w' ⟨rfl, rfl⟩)
          | (go_at_call 54; refine (l3Word_any _ _).mono ?_; rintro e w' ⟨rfl, rfl⟩))
        go_ret
        exact ⟨ret_bool (H.out.trans (by simp [hy])).symm, B _⟩
    · have H : Hid (opB 3 a x y = (y == 0)) := by
        unfold Hid opB opMostA opMostB
        unfold okW betw at h3 h4
        rw [h1, h2]
        unfold betw
        rw [Bool.eq_iff_iff]
        simp at h3 h4 ⊢
        omega
      by_cases hy : y = 0
      all_goals
        go_enter Try.func23, Try.ntmps23
        go_wp2_with (first
          | (go_at_call 22; refine (l1In_any _ _ _ _).mono ?_; rintro e w' ⟨rfl, rfl⟩)
          | (go_at_call 54; refine (l3Word_any _ _).mono ?_; rintro e w' ⟨rfl, rfl⟩))
        go_ret
        exact ⟨ret_bool (H.out.trans (by simp [hy])).symm, B _⟩
    · have H : Hid (opB 4 a x y = (y == 0)) := by
        unfold Hid opB opMostA opMostB
        unfold okW betw at h3 h4
        rw [h1, h2]
        unfold betw
        rw [Bool.eq_iff_iff]
        simp at h3 h4 ⊢
        omega
      by_cases hy : y = 0
      all_goals
        go_enter Try.func23, Try.ntmps23
        go_wp2_with (first
          | (go_at_call 22; refine (l1In_any _ _ _ _).mono ?_; rintro e w' ⟨rfl, rfl⟩)
          | (go_at_call 54; refine (l3Word_any _ _).mono ?_; rintro e w' ⟨rfl, rfl⟩))
        go_ret
        exact ⟨ret_bool (H.out.trans (by simp [hy])).symm, B _⟩
    · have H : Hid (opB 5 a x y = true) := by
        unfold Hid opB opMostA opMostB
        unfold okW betw at h3 h4
        rw [h1, h2]
        unfold betw
        rw [Bool.eq_iff_iff]
        simp at h3 h4 ⊢
        omega
      skip
      all_goals
        go_enter Try.func23, Try.ntmps23
        go_wp2_with (first
          | (go_at_call 22; refine (l1In_any _ _ _ _).mono ?_; rintro e w' ⟨rfl, rfl⟩)
          | (go_at_call 54; refine (l3Word_any _ _).mono ?_; rintro e w' ⟨rfl, rfl⟩))
        go_ret
        exact ⟨ret_bool (H.out.trans (by simp [])).symm, B _⟩
  all_goals
    have H : Hid (opB k a x y = false) := by
      unfold Hid opB opMostA opMostB
      unfold okW betw at h3 h4
      unfold betw at h1 h2 ⊢
      rw [Bool.eq_iff_iff]
      simp at h1 h2 h3 h4 ⊢
      intros
      try split
      all_goals omega
    go_enter Try.func23, Try.ntmps23
    go_wp2_with (first
          | (go_at_call 22; refine (l1In_any _ _ _ _).mono ?_; rintro e w' ⟨rfl, rfl⟩)
          | (go_at_call 54; refine (l3Word_any _ _).mono ?_; rintro e w' ⟨rfl, rfl⟩))
    go_ret
    exact ⟨ret_bool H.out.symm, B _⟩

end Go.Proofs.Ytbcggkfbahmpoaa


/- Ops and lists of ops as they lie in memory; the contracts of the laws' own helpers over them: how great, a copy, alike, marks. Conditions: lengths that a machine can hold. -/
namespace Go.Proofs.Ytbcggkfbahmpoaa
open Go.ChangeShapes Go.WideShapes Go.ChangeAt Go.RowKit
set_option linter.unusedVariables false

abbrev OpD := Int × Int × Int × Int
abbrev opR : Rep OpD := prodR intR (prodR intR (prodR intR intR))
abbrev opM : Mk OpD := prodM intM (prodM intM (prodM intM intM))
abbrev opsR : Rep (List OpD) := slR 58 opR
abbrev opsM : Mk (List OpD) := slM opM
def In4 (u : OpD) : Prop := In64 u.1 ∧ In64 u.2.1 ∧ In64 u.2.2.1 ∧ In64 u.2.2.2
theorem opens_op : Opens Try.prog 73 opR :=
  opens_struct Try.underlying73 (by kernel_rfl) (opensF_cons rfl (by kernel_rfl) opens_i64 (opensF_cons rfl (by kernel_rfl) opens_i64 (opensF_cons rfl (by kernel_rfl) opens_i64 (opensF_one rfl (by kernel_rfl) opens_i64))))
theorem opens_ops : Opens Try.prog 26 opsR := opens_slice Try.underlying26 (by kernel_rfl) (by decide) opens_op
theorem op_rd {w : World} {cs : List Value} {u : OpD} (h : opR.rd w cs u) : cs = [.int .i64 u.1, .int .i64 u.2.1, .int .i64 u.2.2.1, .int .i64 u.2.2.2] ∧ In4 u := by
  obtain ⟨c0, e0, rfl, ⟨rfl, i0⟩, c1, e1, rfl, ⟨rfl, i1⟩, c2, e2, rfl, ⟨rfl, i2⟩, ⟨rfl, i3⟩⟩ := h
  exact ⟨rfl, i0, i1, i2, i3⟩
theorem rd_op {w : World} {u : OpD} (h : In4 u) : opR.rd w [.int .i64 u.1, .int .i64 u.2.1, .int .i64 u.2.2.1, .int .i64 u.2.2.2] u := ⟨[_], [_, _, _], rfl, ⟨rfl, h.1⟩, [_], [_, _], rfl, ⟨rfl, h.2.1⟩, [_], [_], rfl, ⟨rfl, h.2.2.1⟩, ⟨rfl, h.2.2.2⟩⟩
theorem own_op {w : World} {S : Foot} {u : OpD} (h : In4 u) : opR.own w S [.int .i64 u.1, .int .i64 u.2.1, .int .i64 u.2.2.1, .int .i64 u.2.2.2] u :=
  ⟨[_], [_, _, _], fun _ => False, S, rfl, ⟨rfl, h.1⟩, ⟨[_], [_, _], fun _ => False, S, rfl, ⟨rfl, h.2.1⟩, ⟨[_], [_], fun _ => False, S, rfl, ⟨rfl, h.2.2.1⟩, ⟨rfl, h.2.2.2⟩, fun _ h => h.elim, Sub.refl _, fun _ h _ => h⟩, fun _ h => h.elim, Sub.refl _, fun _ h _ => h⟩, fun _ h => h.elim, Sub.refl _, fun _ h _ => h⟩
theorem made_op {w w' : World} {u : OpD} (h : In4 u) (hb : Below w.heap.size w w') : MadeR opR w w' [.int .i64 u.1, .int .i64 u.2.1, .int .i64 u.2.2.1, .int .i64 u.2.2.2] u := ⟨own_op h, hb⟩
theorem bk_op (u : OpD) : opM.bk u = 0 := rfl
theorem sumbk_ops (xs : List OpD) : sumbk opM xs = 0 := by
  induction xs with
  | nil => rfl
  | cons x xs ih => simp only [sumbk, List.map_cons, List.sum_cons] at ih ⊢; rw [ih]; rfl
theorem bk_ops (xs : List OpD) : opsM.bk xs = xs.length := by
  have h1 : opsM.bk xs = xs.length + sumbk opM xs := rfl
  rw [h1, sumbk_ops]; rfl
theorem cnt_ops (xs : List OpD) : slcnt opM xs = 4 * xs.length := by
  induction xs with
  | nil => rfl
  | cons x xs ih =>
    simp only [slcnt, List.map_cons, List.sum_cons, List.length_cons] at ih ⊢
    rw [ih]
    show 1 + (1 + (1 + 1)) + _ = _
    omega
/-- The cells of op number k of a list. -/
theorem op_at {w : World} {a : Option Addr} {xs : List OpD} (h : SlRd opR w a xs) {k : Nat} {x : OpD} (hx : xs[k]? = some x) : ∃ b off, a = some ⟨b, off, none⟩ ∧ w.cell? ⟨b, off + k * 4, none⟩ = some (.int .i64 x.1) ∧ w.cell? ⟨b, off + k * 4 + 1, none⟩ = some (.int .i64 x.2.1) ∧ w.cell? ⟨b, off + k * 4 + 2, none⟩ = some (.int .i64 x.2.2.1) ∧ w.cell? ⟨b, off + k * 4 + 3, none⟩ = some (.int .i64 x.2.2.2) ∧ In4 x := by
  obtain ⟨b, off, cs, rfl, hrd, hc⟩ := slrd_at h hx
  obtain ⟨rfl, h4⟩ := op_rd hrd
  exact ⟨b, off, rfl, hc 0 _ rfl, hc 1 _ rfl, hc 2 _ rfl, hc 3 _ rfl, h4⟩

theorem szOpS_rep (a : Option Addr) (xs : List OpD) (cap : Nat) (left : Int) (w : World) (h0 : 0 ≤ left) (h1 : left ≤ 1048576) (hm : xs.length ≤ maxLen) :
    Calls Try.prog 10 #[.slice a xs.length cap, .int .i64 left] w fun e w' => e = .returned (.int .i64 (szI (opsM.bk xs) left)) ∧ w' = w := by
  have hm' : xs.length ≤ 9223372036854775807 := hm
  rw [bk_ops]
  by_cases hl : (xs.length : Int) ≤ left
  · have HS : Hid (szI xs.length left = _) := szI_yes hl
    have hl' : ¬ (left - (xs.length : Int) < 0) := by omega
    go_enter Try.func10, Try.ntmps10
    go_wp2
    go_ret
    exact ⟨ret_int HS.out.symm, rfl⟩
  · have HS : Hid (szI xs.length left = _) := szI_no hl
    have hl' : left - (xs.length : Int) < 0 := by omega
    go_enter Try.func10, Try.ntmps10
    go_wp2
    go_ret
    exact ⟨ret_int HS.out.symm, rfl⟩
theorem toOp_rep (k a x y : Int) (w : World) :
    Calls Try.prog 39 #[.agg #[.int .i64 k, .int .i64 a, .int .i64 x, .int .i64 y]] w fun e w' => e = .returned (.agg #[.int .i64 k, .int .i64 a, .int .i64 x, .int .i64 y]) ∧ Below w.heap.size w w' := by
  have HB : Hid (∀ o o' o'', Below w.heap.size w (((w.alloc o).alloc o').alloc o'')) := fun o o' o'' => below_step (below_step (box_below w o) (box_below _ o')) (box_below _ o'')
  go_enter Try.func39, Try.ntmps39
  go_wp2
  refine bodyPost_ret (v := .agg #[.int .i64 k, .int .i64 a, .int .i64 x, .int .i64 y]) (by simp [results, Try.results39, go_sem]) rfl ⟨rfl, ?_⟩
  exact HB.out _ _ _

theorem Try.infoOp : (Try.prog.info? 58).map (fun i => (i.zero, i.size, i.bytes)) = some (some (.agg #[.int .i64 0, .int .i64 0, .int .i64 0, .int .i64 0]), 4, 32) := by kernel_rfl
set_option maxHeartbeats 2000000 in
theorem toOpS_rep (a : Option Addr) (xs : List OpD) (cap : Nat) (w : World) (h : SlRd opR w a xs) (hm : opsM.bk xs ≤ 1048576) :
    Calls Try.prog 12 #[.slice a xs.length cap] w fun e w' => ∃ v, e = .returned v ∧ MadeR opsR w w' [v] xs := by
  rw [bk_ops] at hm
  have H0 : Hid (SlRd opR w a xs) := h
  clear h
  have hmk := run_make_wide (P := Try.prog) 36 58 (.agg #[.int .i64 0, .int .i64 0, .int .i64 0, .int .i64 0]) 4 32 Try.underlying36 Try.infoOp xs.length (by omega) (by omega)
  go_enter Try.func12, Try.ntmps12
  go_wp2
  go_loopw [4] (fun i wr => ∃ k : Nat, k ≤ xs.length ∧ i = .int .i64 k ∧ Fill 58 opR w wr xs.length (xs.take k)) (fun i _ => xs.length - (intOf i).toNat)
  case atStart => exact ⟨0, Nat.zero_le _, rfl, by simpa using fillR_start (e := 58) (R := opR) (w0 := w) (n := xs.length) (cs := madeCells #[.int .i64 0, .int .i64 0, .int .i64 0, .int .i64 0] (xs.length * 4)) (by unfold maxLen; omega) (by rw [size_madeCells]; rfl)⟩
  case round =>
    obtain ⟨k, hk, rfl, hF⟩ := hrel
    by_cases hlt : k < xs.length
    · have hlt' : (k : Int) < (xs.length : Int) := by omega
      obtain ⟨x, hx⟩ : ∃ x, xs[k]? = some x := ⟨_, List.getElem?_eq_getElem hlt⟩
      obtain ⟨b, off, rfl, x0, x1, x2, x3, h4⟩ := op_at (slrd_next H0.out (fill_below hF)) hx
      have FS : Hid (∀ w1 c, MadeR opR wr w1 c x → _) := fun w1 c hm => fillR_step (w1 := w1) (c := c) hF (by simp; omega) hlt hm
      have HP : Hid (xs.take k ++ [x] = xs.take (k + 1)) := by unfold Hid; rw [List.take_add_one, hx]; rfl
      have H4 : Hid (In4 x) := h4
      clear hx hmk hF h4
      go_wp2_with fail
      refine (toOp_rep x.1 x.2.1 x.2.2.1 x.2.2.2 _).mono ?_
      rintro e w1 ⟨rfl, bb⟩
      obtain ⟨q1, q2, F1⟩ := FS.out _ _ (made_op H4.out bb)
      obtain ⟨v0, hv0⟩ := q1 0 (by decide)
      obtain ⟨v1, hv1⟩ := q1 1 (by decide)
      obtain ⟨v2, hv2⟩ := q1 2 (by decide)
      obtain ⟨v3, hv3⟩ := q1 3 (by decide)
      have z0 := q2 (k * 4)
      have z1 := q2 (k * 4 + 1)
      have z2 := q2 (k * 4 + 2)
      have z3 := q2 (k * 4 + 3)
      rw [show k * opR.size + 0 = k * 4 from rfl] at hv0
      rw [show k * opR.size + 1 = k * 4 + 1 from rfl] at hv1
      rw [show k * opR.size + 2 = k * 4 + 2 from rfl] at hv2
      rw [show k * opR.size + 3 = k * 4 + 3 from rfl] at hv3
      rw [HP.out] at F1
      have HF : Hid _ := F1
      clear F1 bb q1 q2 FS x0 x1 x2 x3
      go_wp2
      go_roundw
      case rel => exact ⟨k + 1, by omega, by go_num, HF.out⟩
      case measure => simp [intOf]; omega
    · have hkl : k = xs.length := by omega
      subst hkl
      rw [List.take_length] at hF
      have FE := fillR_end hF rfl
      clear hF
      go_wp2
      go_ret
      exact ⟨_, rfl, FE⟩
theorem eqOp_rep (k a x y : Int) (w : World) :
    Calls Try.prog 43 #[.agg #[.int .i64 k, .int .i64 a, .int .i64 x, .int .i64 y], .agg #[.int .i64 k, .int .i64 a, .int .i64 x, .int .i64 y]] w fun e w' => e = .returned (.bool true) ∧ Below w.heap.size w w' := by
  have HB : Hid (∀ o o', Below w.heap.size w ((w.alloc o).alloc o')) := fun o o' => below_step (box_below w o) (box_below _ o')
  go_enter Try.func43, Try.ntmps43
  go_wp2
  go_ret
  exact ⟨rfl, HB.out _ _⟩

set_option maxHeartbeats 2000000 in
theorem eqOpS_rep (a1 a2 : Option Addr) (xs : List OpD) (c1 c2 : Nat) (w : World) (h1 : SlRd opR w a1 xs) (h2 : SlRd opR w a2 xs) (hm : opsM.bk xs ≤ 1152921504606846976) :
    Calls Try.prog 14 #[.slice a1 xs.length c1, .slice a2 xs.length c2] w fun e w' => e = .returned (.bool true) ∧ Below w.heap.size w w' := by
  rw [bk_ops] at hm
  have H1 : Hid (∀ W, Below w.heap.size w W → SlRd opR W a1 xs) := fun W hb => slrd_keep h1 fun k hk => hb.block k hk
  have H2 : Hid (∀ W, Below w.heap.size w W → SlRd opR W a2 xs) := fun W hb => slrd_keep h2 fun k hk => hb.block k hk
  clear h1 h2
  go_enter Try.func14, Try.ntmps14
  go_wp2
  go_loopw [5] (fun i wr => ∃ k : Nat, k ≤ xs.length ∧ i = .int .i64 k ∧ Below w.heap.size w wr) (fun i _ => xs.length - (intOf i).toNat)
  case atStart => exact ⟨0, Nat.zero_le _, rfl, Below.refl _ _⟩
  case round =>
    obtain ⟨k, hk, rfl, BB⟩ := hrel
    by_cases hlt : k < xs.length
    · have hlt' : (k : Int) < (xs.length : Int) := by omega
      obtain ⟨x, hx⟩ : ∃ x, xs[k]? = some x := ⟨_, List.getElem?_eq_getElem hlt⟩
      obtain ⟨b1, off1, rfl, x10, x11, x12, x13, -⟩ := op_at (H1.out _ BB) hx
      obtain ⟨b2, off2, rfl, x20, x21, x22, x23, -⟩ := op_at (H2.out _ BB) hx
      have x10c : ∀ n : Cls (fun wx => Below wr.heap.size wr wx), n.w.cell? ⟨b1, off1 + k * 4, none⟩ = some (.int .i64 x.1) := fun n => cell_keep n.h x10 (cell_lt x10)
      have x11c : ∀ n : Cls (fun wx => Below wr.heap.size wr wx), n.w.cell? ⟨b1, off1 + k * 4 + 1, none⟩ = some (.int .i64 x.2.1) := fun n => cell_keep n.h x11 (cell_lt x11)
      have x12c : ∀ n : Cls (fun wx => Below wr.heap.size wr wx), n.w.cell? ⟨b1, off1 + k * 4 + 2, none⟩ = some (.int .i64 x.2.2.1) := fun n => cell_keep n.h x12 (cell_lt x12)
      have x13c : ∀ n : Cls (fun wx => Below wr.heap.size wr wx), n.w.cell? ⟨b1, off1 + k * 4 + 3, none⟩ = some (.int .i64 x.2.2.2) := fun n => cell_keep n.h x13 (cell_lt x13)
      have x20c : ∀ n : Cls (fun wx => Below wr.heap.size wr wx), n.w.cell? ⟨b2, off2 + k * 4, none⟩ = some (.int .i64 x.1) := fun n => cell_keep n.h x20 (cell_lt x20)
      have x21c : ∀ n : Cls (fun wx => Below wr.heap.size wr wx), n.w.cell? ⟨b2, off2 + k * 4 + 1, none⟩ = some (.int .i64 x.2.1) := fun n => cell_keep n.h x21 (cell_lt x21)
      have x22c : ∀ n : Cls (fun wx => Below wr.heap.size wr wx), n.w.cell? ⟨b2, off2 + k * 4 + 2, none⟩ = some (.int .i64 x.2.2.1) := fun n => cell_keep n.h x22 (cell_lt x22)
      have x23c : ∀ n : Cls (fun wx => Below wr.heap.size wr wx), n.w.cell? ⟨b2, off2 + k * 4 + 3, none⟩ = some (.int .i64 x.2.2.2) := fun n => cell_keep n.h x23 (cell_lt x23)
      clear hx x10 x11 x12 x13 x20 x21 x22 x23
      go_wp2_with fail
      refine region_class (fun wx => Below wr.heap.size wr wx) (by kernel_rfl) (by kernel_rfl) ((Below.refl _ wr).drew) ?_
      intro hne
      repeat (quiet_step ((go_at_call 43; exact calls_class (eqOp_rep x.1 x.2.1 x.2.2.1 x.2.2.2 _) (fun w' hc bb => below_step hc bb))))
      refine wpQuiet_nil ?_
      intro wx b2
      replace BB := below_step BB b2
      clear b2 hne x10c x20c x11c x21c x12c x22c x13c x23c
      go_wp2
      go_roundw
      case rel => exact ⟨k + 1, by omega, by go_num, BB⟩
      case measure => simp [intOf]; omega
    · go_wp2
      go_ret
      exact ⟨rfl, BB⟩
theorem ops_rd {w : World} {S : Foot} {a : Option Addr} {cap : Nat} {xs : List OpD} (h : opsR.own w S [.slice a xs.length cap] xs) : SlRd opR w a xs := by
  obtain ⟨a', cap', e, h1, h2, h3⟩ := opsR.own_rd h
  simp only [List.cons.injEq, Value.slice.injEq, and_true, true_and] at e
  rw [e.1]
  exact h3
end Go.Proofs.Ytbcggkfbahmpoaa


/- The contract of the test whether there may be so many lines. No condition. -/
namespace Go.Proofs.Ytbcggkfbahmpoaa
open Go.ChangeShapes Go.WideShapes Go.ChangeAt Go.RowKit

end Go.Proofs.Ytbcggkfbahmpoaa
