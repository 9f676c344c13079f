
/- The program's entry as a page, one core forgotten, laid back into the entry; a new entry. Conditions: told at each. -/
import Derived.Test.YtcnnojfkpkmdmaaPages
namespace Go.Proofs.Ytcnnojfkpkmdmaa
open Go.ChangeShapes Go.WideShapes Go.ChangeAt Go.RowKit
set_option linter.unusedVariables false

theorem in_item {s c : Int} (h : inB s c = true) : 0 ≤ c ∧ c ≤ 7 := by
  unfold inB at h
  simp only [Bool.and_eq_true] at h
  first | exact itemB_bd h.1.2 | exact itemB_bd h.2.1

set_option maxHeartbeats 1000000 in
theorem page_any (o s k f l m : Int) (b : Bool) (v : Value) (w : World) :
    Calls Try.prog 59 #[.agg #[.int .i64 o, .int .i64 s, .bool b, .int .i64 k, .int .i64 f, .int .i64 l, .int .i64 m, v]] w fun e w' => e = .returned (.agg #[.int .i64 s, .int .i64 o]) ∧ Below w.heap.size w w' := by
  have HB : Hid (∀ x y, Below w.heap.size w ((w.alloc x).alloc y)) := fun x y => below_step (box_below w x) (box_below _ y)
  go_enter Try.func59, Try.ntmps59
  go_wp2
  refine bodyPost_ret (v := .agg #[.int .i64 s, .int .i64 o]) (by simp [results, Try.results59, go_sem]) rfl ⟨rfl, HB.out _ _⟩

theorem froz_2p {w : World} {g : Nat} {cs : Array Value} {t : TypeId} (h : w.heap[g]? = some (.cells cs t (0, 0))) : w.frozen? ⟨g, 0, none⟩ = false ∧ w.frozen? ⟨g, 1, none⟩ = false :=
  ⟨frozen_of_row w g 0 _ t h, frozen_of_row w g 1 _ t h⟩
theorem put_2p {w : World} {g : Nat} {x0 y0 x1 y1 : Value} {t : TypeId} (h : w.heap[g]? = some (.cells #[x0, x1] t (0, 0))) :
    ((w.setCell ⟨g, 0, none⟩ y0).setCell ⟨g, 1, none⟩ y1).heap[g]? = some (.cells #[y0, y1] t (0, 0)) := by
  have h0 : (w.setCell ⟨g, 0, none⟩ y0).heap[g]? = some (.cells #[y0, x1] t (0, 0)) := heap_setCell_same _ g 0 _ t y0 h
  exact heap_setCell_same _ g 1 _ t y1 h0

end Go.Proofs.Ytcnnojfkpkmdmaa
