
/- A way filled into a store, by the specification: through a pointer to a store that is owned. No condition but a right store. -/
import Derived.Test.YtbcggkfbahmpoaaTouch
import Derived.Test.YtbcggkfbahmpoaaOkSmall
namespace Go.Proofs.Ytbcggkfbahmpoaa
open Go.ChangeShapes Go.WideShapes Go.ChangeAt Go.RowKit Go.Shelf
set_option linter.unusedVariables false

noncomputable def fillI (c : CacheD) (u : WayD) : CacheD × Bool := fillC isL treeB touI c u
theorem fill_bad {c : CacheD} {u : WayD} (h : okB isL treeB c = false) : fillI c u = (([], []), false) := by
  unfold fillI fillC
  rw [h]
  rfl
theorem fill_not {c : CacheD} {u : WayD} (hok : OkC isL treeB c) (h : fullB isL u = false) : fillI c u = (c, false) := by
  unfold fillI fillC
  rw [okB_iff.2 hok, h]
  rfl
theorem fill_none {c : CacheD} {u : WayD} (hok : OkC isL treeB c) (h : putNo c u.1 = none) : fillI c u = (c, false) := by
  unfold fillI fillC
  rw [okB_iff.2 hok, h]
  cases fullB isL u <;> rfl
theorem fill_at {c : CacheD} {u : WayD} {i : Nat} (hok : OkC isL treeB c) (hf : fullB isL u = true) (h : putNo c u.1 = some i) : fillI c u = (fillX touI c u i, true) := by
  unfold fillI fillC
  rw [okB_iff.2 hok, h, hf]
  rfl
theorem put_lt {c : CacheD} {line : Int} {i : Nat} (h : putNo c line = some i) : ∃ u, (rowFor c line)[i]? = some u := by
  unfold putNo at h
  split at h
  · rename_i j hj
    cases h
    obtain ⟨-, u, hu, -⟩ := at_some hj
    exact ⟨u, hu⟩
  · obtain ⟨u, hu, -⟩ := idx_some h
    exact ⟨u, hu⟩
end Go.Proofs.Ytbcggkfbahmpoaa
