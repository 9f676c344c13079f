
import Derived.Test.YtbcggkfbahmpoaaAppAny
import Derived.Test.YtbcggkfbahmpoaaWayCopy
import Derived.Test.YtbcggkfbahmpoaaFindW
import Derived.Test.YtbcggkfbahmpoaaPuts
import Derived.Deep.DeepCutAuto
/- A copy of a store, of the specification. Conditions: lists that read as told, of lengths that a machine can hold. -/
namespace Go.Proofs.Ytbcggkfbahmpoaa
open Go.ChangeShapes Go.WideShapes Go.ChangeAt Go.RowKit
set_option linter.unusedVariables false


end Go.Proofs.Ytbcggkfbahmpoaa

/- A way dropped out of a store, by the specification: through a pointer to a store that is owned, and as a whole. No condition but a right store. -/
namespace Go.Proofs.Ytbcggkfbahmpoaa
open Go.ChangeShapes Go.WideShapes Go.ChangeAt Go.RowKit
set_option linter.unusedVariables false

noncomputable def dropI (c : CacheD) (line : Int) : CacheD × Bool := dropC isL treeB c line
theorem drop_none {c : CacheD} {line : Int} (hok : OkC isL treeB c) (h : atC c line = none) : dropI c line = (c, false) := by
  unfold dropI dropC
  rw [okB_iff.2 hok, h]
  rfl
theorem drop_some {c : CacheD} {line : Int} {i : Nat} (hok : OkC isL treeB c) (h : atC c line = some i) : dropI c line = ((c.1.set (setNo c line) ((rowFor c line).set i emptyW), c.2), true) := by
  unfold dropI dropC
  rw [okB_iff.2 hok, h]
  rfl
theorem sets_rd {w : World} {S : Foot} {u : Value} {cs : List (List WayD)} (h : setsR.own w S [u] cs) : ∃ a cap, u = .slice a cs.length cap ∧ SlRd waysR w a cs := by
  obtain ⟨a, cap, e, h1, h2, h3⟩ := setsR.own_rd h
  simp only [List.cons.injEq, and_true] at e
  exact ⟨a, cap, e, h3⟩

theorem cells_at2 {w : World} {g : Nat} {bc : Array Value} {bt : TypeId} {u v : Value} (h0 : bc[0]? = some u) (h1 : bc[1]? = some v) (h : w.heap[g]? = some (.cells bc bt (0, 0))) : w.cell? ⟨g, 0, none⟩ = some u ∧ w.cell? ⟨g, 1, none⟩ = some v :=
  ⟨by rw [cell_of_row w g 0 _ bt (0, 0) h]; exact h0, by rw [cell_of_row w g 1 _ bt (0, 0) h]; exact h1⟩

theorem drop_bad {c : CacheD} {line : Int} (h : okB isL treeB c = false) : dropI c line = (([], []), false) := by
  unfold dropI dropC
  rw [h]
  rfl
theorem drop_len {c : CacheD} (line : Int) (hok : OkC isL treeB c) : (dropI c line).1.1.length = c.1.length ∧ (dropI c line).1.2 = c.2 := by
  cases h : atC c line with
  | none => rw [drop_none hok h]; exact ⟨rfl, rfl⟩
  | some i => rw [drop_some hok h]; exact ⟨by simp, rfl⟩
theorem ok_small {c : CacheD} (h : OkC isL treeB c) : c.1.length ≤ 4 ∧ c.2.length ≤ 4 ∧ ∀ row ∈ c.1, row.length ≤ 1048576 ∧ ∀ u ∈ row, u.2.2.length ≤ 1048576 := by
  have h' := h
  obtain ⟨h1, h2, m, hm, h3⟩ := h
  unfold pow3 at h1 hm
  refine ⟨by omega, by omega, fun row hr => ?_⟩
  obtain ⟨s, hs⟩ := List.getElem?_of_mem hr
  refine ⟨by have := (h3 s row hs).1; omega, fun u hu => ?_⟩
  obtain ⟨j, hj⟩ := List.getElem?_of_mem hu
  have := ok_len h' hs hj
  omega


end Go.Proofs.Ytbcggkfbahmpoaa
