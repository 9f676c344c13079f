
/- A line dropped out of a store, by the program. No condition but lengths that a machine can hold. -/
import Derived.Test.YtbcggkfbahmpoaaCopyImpl
import Derived.Test.YtbcggkfbahmpoaaSpecCopy
namespace Go.Proofs.Ytbcggkfbahmpoaa
open Go.ChangeShapes Go.WideShapes Go.ChangeAt Go.RowKit
set_option linter.unusedVariables false

theorem ok_rows {c : CacheD} (h : OkC isL treeB c) : (c.1.length = 1 ∨ c.1.length = 2 ∨ c.1.length = 4) ∧ ∃ m, (m = 1 ∨ m = 2 ∨ m = 4) ∧ ∀ row ∈ c.1, row.length = m := by
  obtain ⟨h1, h2, m, hm, h3⟩ := h
  refine ⟨h1, m, hm, fun row hr => ?_⟩
  obtain ⟨s, hs⟩ := List.getElem?_of_mem hr
  exact (h3 s row hs).1
/- A store that was made is laid as the answer: the two cells of the result are set. -/
theorem ret_cache {w w4 : World} {S1 S2 : Foot} {u v : Value} {c : CacheD} (N1 : setsR.own w4 S1 [u] c.1) (N2 : intsR.own w4 S2 [v] c.2) (a1 : ∀ k, S1 k → w.heap.size + 2 ≤ k ∧ k < w4.heap.size) (a2 : ∀ k, S2 k → w.heap.size + 2 ≤ k ∧ k < w4.heap.size) (dd : Dis S1 S2) (B : Below w.heap.size w w4) :
    MadeR cacheR w ((w4.setCell ⟨w.heap.size + 1, 0, none⟩ u).setCell ⟨w.heap.size + 1, 1, none⟩ v) [u, v] c := by
  refine ⟨own_cache (S1 := S1) (S2 := S2) (own_setC (own_setC N1 ?_) ?_) (own_setC (own_setC N2 ?_) ?_) ?_ ?_ dd, below_setC (below_setC B (by omega)) (by omega)⟩
  · exact fun h => by have := (a1 _ h).1; omega
  · exact fun h => by have := (a1 _ h).1; omega
  · exact fun h => by have := (a2 _ h).1; omega
  · exact fun h => by have := (a2 _ h).1; omega
  · intro x h
    exact ⟨by have := (a1 _ h).1; omega, by have := (a1 _ h).2; simp; omega⟩
  · intro x h
    exact ⟨by have := (a2 _ h).1; omega, by have := (a2 _ h).2; simp; omega⟩

theorem madeR_on {α : Type} {R : Rep α} {w w1 w2 : World} {cs : List Value} {u : α} (h : MadeR R w w1 cs u) (hb : Below w1.heap.size w1 w2) : MadeR R w w2 cs u :=
  ⟨R.own_mono (own_next h.1 hb) (rng_sub (Nat.le_refl _) hb.size), below_step h.2 hb⟩


end Go.Proofs.Ytbcggkfbahmpoaa
