
/- What the walks of the laws over stores share. No program here. -/
import Derived.Test.YtbcggkfbahmpoaaWays2
import Derived.Test.YtbcggkfbahmpoaaOkLink
import Derived.Deep.DeepCutAuto
import Derived.BigRegion
namespace Go.Proofs.Ytbcggkfbahmpoaa
open Go.ChangeShapes Go.WideShapes Go.ChangeAt Go.RowKit Go.Shelf
set_option linter.unusedVariables false

theorem small_of {c : CacheD} {N : Nat} (h : cacheM.bk c ≤ N) : c.1.length ≤ N ∧ c.2.length ≤ N ∧ ∀ row ∈ c.1, row.length ≤ N := by
  have hbk : cacheM.bk c = setsM.bk c.1 + intsM.bk c.2 := rfl
  have h1 : setsM.bk c.1 = c.1.length + sumbk waysM c.1 := rfl
  have h2 : intsM.bk c.2 = c.2.length + sumbk intM c.2 := rfl
  refine ⟨by omega, by omega, fun row hr => ?_⟩
  obtain ⟨i, hi⟩ := List.mem_iff_getElem?.1 hr
  have h3 := sumbk_ge waysM c.1 hi
  have h4 : waysM.bk row = row.length + sumbk wayM row := rfl
  omega
theorem rd_slices {w : World} {c : CacheD} {a b : Option Addr} {cap cp : Nat} (h : cacheR.rd w [.slice a c.1.length cap, .slice b c.2.length cp] c) : SlRd waysR w a c.1 ∧ SlRd intR w b c.2 := by
  obtain ⟨a', cap', b', cp', e, _, _, _, _, h1, h2⟩ := cache_rd h
  simp only [List.cons.injEq, Value.slice.injEq, and_true, true_and] at e
  obtain ⟨⟨rfl, rfl⟩, rfl, rfl⟩ := e
  exact ⟨h1, h2⟩
/-- A store that was copied reads as it was copied, for as long as nothing of it turns. -/
theorem made_slices {w w1 : World} {c : CacheD} {a b : Option Addr} {cap cp : Nat} (h : MadeR cacheR w w1 [.slice a c.1.length cap, .slice b c.2.length cp] c) : SlRd waysR w1 a c.1 ∧ SlRd intR w1 b c.2 := rd_slices (cacheR.own_rd h.1)
theorem two_next {w w1 : World} {c : CacheD} {a b : Option Addr} (h : SlRd waysR w a c.1 ∧ SlRd intR w b c.2) (hb : Below w.heap.size w w1) : SlRd waysR w1 a c.1 ∧ SlRd intR w1 b c.2 := ⟨slrd_next h.1 hb, slrd_next h.2 hb⟩
theorem two_next0 {w w1 : World} {c : CacheD} {a b : Option Addr} (h : SlRd waysR w a c.1 ∧ SlRd intR w b c.2) (hb : Below w.heap.size w w1) : SlRd waysR w1 a c.1 ∧ SlRd intR w1 b c.2 := two_next h hb
theorem two_drew {w : World} {c : CacheD} {a b : Option Addr} (h : SlRd waysR w a c.1 ∧ SlRd intR w b c.2) : SlRd waysR w.drew a c.1 ∧ SlRd intR w.drew b c.2 := ⟨slrd_keep h.1 fun _ _ => rfl, slrd_keep h.2 fun _ _ => rfl⟩
end Go.Proofs.Ytbcggkfbahmpoaa
