/- The program's entry as a page, one core forgotten, laid back into the entry; a new entry. Conditions: told at each. -/
import Derived.Test.YtlbolnbchijknaaPages
namespace Go.Proofs.Ytlbolnbchijknaa
open Go.ChangeShapes Go.WideShapes Go.ChangeAt Go.RowKit
set_option linter.unusedVariables false

theorem in_item {s c : Int} (h : inB s c = true) : 0 ≤ c ∧ c ≤ 7 := by
  unfold inB at h
  simp only [Bool.and_eq_true] at h
  first | exact itemB_bd h.1.2 | exact itemB_bd h.2.1

set_option maxHeartbeats 1000000 in
theorem page_any (o s k f l m : Int) (b : Bool) (v : Value) (w : World) :
    Calls Try.prog 36 #[.agg #[.int .i64 o, .int .i64 s, .bool b, .int .i64 k, .int .i64 f, .int .i64 l, .int .i64 m, v]] w fun e w' => e = .returned (.agg #[.int .i64 s, .int .i64 o]) ∧ Below w.heap.size w w' := by
  have HB : Hid (∀ x y, Below w.heap.size w ((w.alloc x).alloc y)) := fun x y => below_step (box_below w x) (box_below _ y)
  go_enter Try.func36, Try.ntmps36
  go_wp2
  refine bodyPost_ret (v := .agg #[.int .i64 s, .int .i64 o]) (by simp [results, Try.results36, go_sem]) rfl ⟨rfl, HB.out _ _⟩

theorem froz_2p {w : World} {g : Nat} {cs : Array Value} {t : TypeId} (h : w.heap[g]? = some (.cells cs t (0, 0))) : w.frozen? ⟨g, 0, none⟩ = false ∧ w.frozen? ⟨g, 1, none⟩ = false :=
  ⟨frozen_of_row w g 0 _ t h, frozen_of_row w g 1 _ t h⟩
theorem put_2p {w : World} {g : Nat} {x0 y0 x1 y1 : Value} {t : TypeId} (h : w.heap[g]? = some (.cells #[x0, x1] t (0, 0))) :
    ((w.setCell ⟨g, 0, none⟩ y0).setCell ⟨g, 1, none⟩ y1).heap[g]? = some (.cells #[y0, y1] t (0, 0)) := by
  have h0 : (w.setCell ⟨g, 0, none⟩ y0).heap[g]? = some (.cells #[y0, x1] t (0, 0)) := heap_setCell_same _ g 0 _ t y0 h
  exact heap_setCell_same _ g 1 _ t y1 h0

set_option maxHeartbeats 4000000 in
theorem forget_any (o s c : Int) (w : World) :
    Calls Try.prog 37 #[.agg #[.int .i64 s, .int .i64 o], .int .i64 c] w fun e w' => e = .returned (.agg #[.int .i64 (fgS s c), .int .i64 (fgO o c)]) ∧ Below w.heap.size w w' := by
  have X := heap_on (.cells #[.int .i64 0, .int .i64 0] 53) (heap_at w (.cells #[.int .i64 s, .int .i64 o] 53))
  have Y := heap_at (w.alloc (.cells #[.int .i64 s, .int .i64 o] 53)) (.cells #[.int .i64 0, .int .i64 0] 53)
  have B := below_step (box_below w (.cells #[.int .i64 s, .int .i64 o] 53)) (box_below _ (.cells #[.int .i64 0, .int .i64 0] 53))
  rw [alloc_len] at Y
  have HO : Hid (∀ W, Calls Try.prog 56 #[.agg #[.int .i64 s, .int .i64 o], .int .i64 c] W fun e w' => e = .returned (.bool (ownB o c)) ∧ Below W.heap.size W w') := fun W => owns_any o s c W
  cases ho : ownB o c
  · rw [ho] at HO
    cases hh : inB s c
    · skip
      have E2 : Hid (fgS s c = s) := by unfold Hid fgS; rw [hh]; rfl
      have E1 : Hid (fgO o c = o) := by unfold Hid fgO; rw [ho]; rfl
      rw [E1.out, E2.out]
      go_enter Try.func37, Try.ntmps37
      go_wp2_with fail
      generalize (w.alloc (.cells #[.int .i64 s, .int .i64 o] 53)).alloc (.cells #[.int .i64 0, .int .i64 0] 53) = W0 at X Y B ⊢
      refine (HO.out _).mono ?_
      rintro e w1 ⟨rfl, b1⟩
      replace X := row_keep b1 X
      replace Y := row_keep b1 Y
      replace B := below_step B b1
      obtain ⟨x0, x1⟩ := cells_2p X
      obtain ⟨f0, f1⟩ := froz_2p X
      obtain ⟨y0, y1⟩ := cells_2p Y
      obtain ⟨g0, g1⟩ := froz_2p Y
      have HX : Hid _ := And.intro X Y
      clear X Y b1 HO
      go_wp2_with ((go_at_call 57; refine (has_any _ _ _).mono ?_; rintro e w' ⟨rfl, rfl⟩; rw [hh]))
      obtain ⟨X, Y⟩ := HX.out
      obtain ⟨r0, r1⟩ := cells_2p (put_2p (y0 := .int .i64 s) (y1 := .int .i64 o) Y)
      refine bodyPost_ret (v := .agg #[.int .i64 s, .int .i64 o]) (by simp [results, Try.results37, go_sem, r0, r1]) rfl ⟨rfl, (below_setC (below_setC B (by omega)) (by omega))⟩
    · have hi : 0 ≤ c ∧ c ≤ 7 := in_item hh
      have E2 : Hid (fgS s c = andNotI s c) := by unfold Hid fgS; rw [hh]; rfl
      have E1 : Hid (fgO o c = o) := by unfold Hid fgO; rw [ho]; rfl
      rw [E1.out, E2.out]
      go_enter Try.func37, Try.ntmps37
      go_wp2_with fail
      generalize (w.alloc (.cells #[.int .i64 s, .int .i64 o] 53)).alloc (.cells #[.int .i64 0, .int .i64 0] 53) = W0 at X Y B ⊢
      refine (HO.out _).mono ?_
      rintro e w1 ⟨rfl, b1⟩
      replace X := row_keep b1 X
      replace Y := row_keep b1 Y
      replace B := below_step B b1
      obtain ⟨x0, x1⟩ := cells_2p X
      obtain ⟨f0, f1⟩ := froz_2p X
      obtain ⟨y0, y1⟩ := cells_2p Y
      obtain ⟨g0, g1⟩ := froz_2p Y
      have HX : Hid _ := And.intro X Y
      clear X Y b1 HO
      go_wp2_with (first | (go_at_call 57; refine (has_any _ _ _).mono ?_; rintro e w' ⟨rfl, rfl⟩; rw [hh]) | (go_at_call 58; refine (without_in _ _ _ hi.1 hi.2).mono ?_; rintro e w' ⟨rfl, rfl⟩))
      obtain ⟨X, Y⟩ := HX.out
      obtain ⟨r0, r1⟩ := cells_2p (put_2p (y0 := .int .i64 (andNotI s c)) (y1 := .int .i64 o) (heap_setC (g := w.heap.size) (o := 0) (v := .int .i64 (andNotI s c)) Y (by omega)))
      refine bodyPost_ret (v := .agg #[.int .i64 (andNotI s c), .int .i64 o]) (by simp [results, Try.results37, go_sem, r0, r1]) rfl ⟨rfl, (below_setC (below_setC (below_setC B (by omega)) (by omega)) (by omega))⟩
  · rw [ho] at HO
    cases hh : inB s c
    · skip
      have E2 : Hid (fgS s c = s) := by unfold Hid fgS; rw [hh]; rfl
      have E1 : Hid (fgO o c = -1) := by unfold Hid fgO; rw [ho]; rfl
      rw [E1.out, E2.out]
      go_enter Try.func37, Try.ntmps37
      go_wp2_with fail
      generalize (w.alloc (.cells #[.int .i64 s, .int .i64 o] 53)).alloc (.cells #[.int .i64 0, .int .i64 0] 53) = W0 at X Y B ⊢
      refine (HO.out _).mono ?_
      rintro e w1 ⟨rfl, b1⟩
      replace X := row_keep b1 X
      replace Y := row_keep b1 Y
      replace B := below_step B b1
      obtain ⟨x0, x1⟩ := cells_2p X
      obtain ⟨f0, f1⟩ := froz_2p X
      obtain ⟨y0, y1⟩ := cells_2p Y
      obtain ⟨g0, g1⟩ := froz_2p Y
      have HX : Hid _ := And.intro X Y
      clear X Y b1 HO
      go_wp2_with ((go_at_call 57; refine (has_any _ _ _).mono ?_; rintro e w' ⟨rfl, rfl⟩; rw [hh]))
      obtain ⟨X, Y⟩ := HX.out
      obtain ⟨r0, r1⟩ := cells_2p (put_2p (y0 := .int .i64 s) (y1 := .int .i64 (-1)) (heap_setC (g := w.heap.size) (o := 1) (v := .int .i64 (-1)) Y (by omega)))
      refine bodyPost_ret (v := .agg #[.int .i64 s, .int .i64 (-1)]) (by simp [results, Try.results37, go_sem, r0, r1]) rfl ⟨rfl, (below_setC (below_setC (below_setC B (by omega)) (by omega)) (by omega))⟩
    · have hi : 0 ≤ c ∧ c ≤ 7 := in_item hh
      have E2 : Hid (fgS s c = andNotI s c) := by unfold Hid fgS; rw [hh]; rfl
      have E1 : Hid (fgO o c = -1) := by unfold Hid fgO; rw [ho]; rfl
      rw [E1.out, E2.out]
      go_enter Try.func37, Try.ntmps37
      go_wp2_with fail
      generalize (w.alloc (.cells #[.int .i64 s, .int .i64 o] 53)).alloc (.cells #[.int .i64 0, .int .i64 0] 53) = W0 at X Y B ⊢
      refine (HO.out _).mono ?_
      rintro e w1 ⟨rfl, b1⟩
      replace X := row_keep b1 X
      replace Y := row_keep b1 Y
      replace B := below_step B b1
      obtain ⟨x0, x1⟩ := cells_2p X
      obtain ⟨f0, f1⟩ := froz_2p X
      obtain ⟨y0, y1⟩ := cells_2p Y
      obtain ⟨g0, g1⟩ := froz_2p Y
      have HX : Hid _ := And.intro X Y
      clear X Y b1 HO
      go_wp2_with (first | (go_at_call 57; refine (has_any _ _ _).mono ?_; rintro e w' ⟨rfl, rfl⟩; rw [hh]) | (go_at_call 58; refine (without_in _ _ _ hi.1 hi.2).mono ?_; rintro e w' ⟨rfl, rfl⟩))
      obtain ⟨X, Y⟩ := HX.out
      obtain ⟨r0, r1⟩ := cells_2p (put_2p (y0 := .int .i64 (andNotI s c)) (y1 := .int .i64 (-1)) (heap_setC (g := w.heap.size) (o := 0) (v := .int .i64 (andNotI s c)) (heap_setC (g := w.heap.size) (o := 1) (v := .int .i64 (-1)) Y (by omega)) (by omega)))
      refine bodyPost_ret (v := .agg #[.int .i64 (andNotI s c), .int .i64 (-1)]) (by simp [results, Try.results37, go_sem, r0, r1]) rfl ⟨rfl, (below_setC (below_setC (below_setC (below_setC B (by omega)) (by omega)) (by omega)) (by omega))⟩
end Go.Proofs.Ytlbolnbchijknaa
