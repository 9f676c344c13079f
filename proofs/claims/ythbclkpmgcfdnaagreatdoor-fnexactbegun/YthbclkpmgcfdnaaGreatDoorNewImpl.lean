
/- NewImpl. -/
import Derived.Test.YthbclkpmgcfdnaaGreatDoorJStoreEnd4UForm
import Derived.BigRegion
import Derived.Deep.RegionLaw
import Derived.Deep.DeepCutAuto
import Derived.Deep.CutBlock
/- A new store, of the program. No condition. -/
namespace Go.Proofs.YthbclkpmgcfdnaaGreatDoor
open Go.ChangeShapes Go.WideShapes Go.ChangeAt Go.RowKit
set_option linter.unusedVariables false
theorem nils_at {W : World} {S : Foot} {g n : Nat} (hh : W.heap[g]? = some (.cells (madeCells #[.slice none 0 0] n) 107 (0, 0))) (hS : S g) (hm : n ≤ maxLen) : setsR.own W S [.slice (some ⟨g, 0, none⟩) n n] (List.replicate n ([] : List WayD)) := by
  have e1 : n * waysR.size = n := Nat.mul_one n
  refine ⟨_, List.replicate n (.slice none 0 0), fun _ => False, rfl, ⟨by simp [e1], .inr ⟨g, n, _, by simp, Nat.zero_le _, hh, by simp, hm, by rw [size_madeCells, e1], ?_⟩⟩, fun x hx => ?_, fun _ h => h.elim, lown_nils n⟩
  · rw [made_one]; simp [e1]
  · simp [Value.ownBlock] at hx
    subst hx
    exact ⟨hS, fun h => h⟩
/- An append whose run is known, at a step of a region that draws. -/
end Go.Proofs.YthbclkpmgcfdnaaGreatDoor
