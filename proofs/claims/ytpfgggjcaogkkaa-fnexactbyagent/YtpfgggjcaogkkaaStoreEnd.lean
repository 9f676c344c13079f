
/- What the walks of the laws over stores share. No program here. -/
import Derived.Test.YtpfgggjcaogkkaaWays2
import Derived.Test.YtpfgggjcaogkkaaOkLink
import Derived.Deep.DeepCutAuto
import Derived.BigRegion
namespace Go.Proofs.Ytpfgggjcaogkkaa
open Go.ChangeShapes Go.WideShapes Go.ChangeAt Go.RowKit Go.Shelf
set_option linter.unusedVariables false

theorem small_of {c : CacheD} {N : Nat} (h : cacheM.bk c ≤ N) : c.1.length ≤ N ∧ c.2.length ≤ N ∧ ∀ row ∈ c.1, row.length ≤ N := by
  have hbk : cacheM.bk c = setsM.bk c.1 + intsM.bk c.2 := rfl
  have h1 : setsM.bk c.1 = c.1.length + sumbk waysM c.1 := rfl
  have h2 : intsM.bk c.2 = c.2.length + sumbk intM c.2 := rfl
  refine ⟨by omega, by omega, fun row hr => ?_⟩
  obtain ⟨i, hi⟩ := List.mem_iff_getElem?.1 hr
  have h3 := sumbk_ge waysM c.1 hi
  have h4 : waysM.bk row = row.length + sumbk wayM row := rfl
  omega
end Go.Proofs.Ytpfgggjcaogkkaa
