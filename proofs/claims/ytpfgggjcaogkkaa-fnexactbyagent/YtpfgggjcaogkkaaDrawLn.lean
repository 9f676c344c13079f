
/- The contracts of the draws of a line, as data that is owned: some list of at most three numbers is drawn, in new memory, and nothing that was there turns but the cursor. Conditions: the bytes are at most 2^61. -/
import Derived.Test.YtpfgggjcaogkkaaDrawLine
import Derived.Test.YtpfgggjcaogkkaaBoxes
namespace Go.Proofs.Ytpfgggjcaogkkaa
open Go.ChangeShapes Go.WideShapes Go.ChangeAt Go.RowKit
set_option linter.unusedVariables false

theorem small64 {x : Int} (h0 : -1000000 ≤ x) (h1 : x ≤ 1000000) : In64 x := by constructor <;> omega
theorem lit_cellP {w w2 : World} {g n : Nat} {cs : Array Value} {t : TypeId} (hg : (w.alloc (.cells cs t)).grownBy w2 (some g)) (hgs : g < w.heap.size) (x : Int) (h0 : 0 ≤ x) (h1 : x < n)
    (hcs : ∀ j, j < n → ∃ v, cs[j]? = some (.int .i64 v) ∧ -1000000 ≤ v ∧ v ≤ 1000000) : ∃ v, w2.cell? ⟨w.heap.size, x.toNat, none⟩ = some (.int .i64 v) ∧ In64 v := by
  obtain ⟨v, hv, b1, b2⟩ := hcs x.toNat (by omega)
  refine ⟨v, ?_, small64 b1 b2⟩
  refine hg.cell ?_ (by simp; omega)
  rw [cell_of_row _ _ _ _ _ (0, 0) (heap_alloc_new w _)]
  exact hv


end Go.Proofs.Ytpfgggjcaogkkaa
