
/- A way filled into a store, by the program. No condition but lengths that a machine can hold. -/
import Derived.Test.YtbcggkfbahmpoaaFillSpec
namespace Go.Proofs.Ytbcggkfbahmpoaa
open Go.ChangeShapes Go.WideShapes Go.ChangeAt Go.RowKit
set_option linter.unusedVariables false

/- A store that was made is laid as the answer, whose cells lie in the block r. -/
theorem ret_cache2 {w w4 : World} {S1 S2 : Foot} {u v : Value} {c : CacheD} (r : Nat) (hr : w.heap.size ≤ r) (N1 : setsR.own w4 S1 [u] c.1) (N2 : intsR.own w4 S2 [v] c.2) (a1 : ∀ k, S1 k → r + 1 ≤ k ∧ k < w4.heap.size) (a2 : ∀ k, S2 k → r + 1 ≤ k ∧ k < w4.heap.size) (dd : Dis S1 S2) (B : Below w.heap.size w w4) :
    MadeR cacheR w ((w4.setCell ⟨r, 0, none⟩ u).setCell ⟨r, 1, none⟩ v) [u, v] c := by
  refine ⟨own_cache (S1 := S1) (S2 := S2) (own_setC (own_setC N1 ?_) ?_) (own_setC (own_setC N2 ?_) ?_) ?_ ?_ dd, below_setC (below_setC B hr) hr⟩
  · exact fun h => by have := (a1 _ h).1; omega
  · exact fun h => by have := (a1 _ h).1; omega
  · exact fun h => by have := (a2 _ h).1; omega
  · exact fun h => by have := (a2 _ h).1; omega
  · intro x h
    exact ⟨by have := (a1 _ h).1; omega, by have := (a1 _ h).2; simp; omega⟩
  · intro x h
    exact ⟨by have := (a2 _ h).1; omega, by have := (a2 _ h).2; simp; omega⟩
theorem three_at {w : World} {o1 o2 o3 : Obj} : (((w.alloc o1).alloc o2).alloc o3).heap[w.heap.size]? = some o1 ∧ (((w.alloc o1).alloc o2).alloc o3).heap[w.heap.size + 1]? = some o2 ∧ (((w.alloc o1).alloc o2).alloc o3).heap[w.heap.size + 1 + 1]? = some o3 ∧ Below w.heap.size w (((w.alloc o1).alloc o2).alloc o3) ∧ (((w.alloc o1).alloc o2).alloc o3).heap.size = w.heap.size + 3 := by
  have h2 := heap_on o3 (heap_at (w.alloc o1) o2)
  have h3 := heap_at ((w.alloc o1).alloc o2) o3
  rw [alloc_len] at h2
  rw [alloc_len, alloc_len] at h3
  exact ⟨heap_on o3 (heap_on o2 (heap_at w o1)), h2, h3, below_step (below_step (box_below w o1) (box_below _ o2)) (box_below _ o3), by simp⟩

theorem fill_len {c : CacheD} {u : WayD} (hok : OkC isL treeB c) : (fillI c u).1.1.length = c.1.length ∧ (fillI c u).1.2.length = c.2.length := by
  cases hf : fullB isL u
  · rw [fill_not hok hf]
    exact ⟨rfl, rfl⟩
  · cases hp : putNo c u.1 with
    | none =>
      rw [fill_none hok hp]
      exact ⟨rfl, rfl⟩
    | some i =>
      rw [fill_at hok hf hp]
      exact ⟨by simp [fillX], by simp [fillX]⟩
theorem fill_small (c : CacheD) (u : WayD) : cacheM.bk (fillI c u).1 ≤ 1000 := by
  cases hok : okB isL treeB c
  · rw [fill_bad hok]
    decide
  · have hokc := okB_iff.1 hok
    cases hf : fullB isL u
    · rw [fill_not hokc hf]
      exact ok_bk hokc
    · cases hp : putNo c u.1 with
      | none =>
        rw [fill_none hokc hp]
        exact ok_bk hokc
      | some i =>
        rw [fill_at hokc hf hp]
        exact ok_bk (fill_ok (fun t n y h1 h2 h3 => tou_ok h1 h2 h3) hokc hf hp).1



end Go.Proofs.Ytbcggkfbahmpoaa
