
/- The contract of a store's shape, of the program: how many sets, ways and trees. Conditions: lists that read as told, of lengths that a machine can hold. -/
import Derived.Test.YtpfgggjcaogkkaaStore
import Derived.Test.YtpfgggjcaogkkaaClasses
import Derived.Deep.DeepCutAuto
import Derived.BigRegion
namespace Go.Proofs.Ytpfgggjcaogkkaa
open Go.ChangeShapes Go.WideShapes Go.ChangeAt Go.RowKit Go.Shelf
set_option linter.unusedVariables false

def waysN (c : CacheD) : Nat := (c.1.getD 0 []).length
def RowFit (c : CacheD) (i : Nat) : Prop := ∀ row t, c.1[i]? = some row → c.2[i]? = some t → row.length = waysN c ∧ treeB t (waysN c) = true
def Shape (c : CacheD) : Prop := powB c.1.length = true ∧ c.2.length = c.1.length ∧ ∀ i, i < c.1.length → RowFit c i
open Classical in
noncomputable def shapeB (c : CacheD) : Bool := decide (Shape c)
theorem shape_yes {c : CacheD} (h : Shape c) : shapeB c = true := by simp [shapeB, h]
theorem shape_no {c : CacheD} (h : ¬ Shape c) : shapeB c = false := by simp [shapeB, h]

theorem cells_two {w : World} {g : Nat} {x y : Value} {t : TypeId} (h : w.heap[g]? = some (.cells #[x, y] t (0, 0))) :
    w.cell? ⟨g, 0, none⟩ = some x ∧ w.cell? ⟨g, 1, none⟩ = some y := cell_two h
theorem cells_three {w : World} {g : Nat} {x y z : Value} {t : TypeId} (h : w.heap[g]? = some (.cells #[x, y, z] t (0, 0))) :
    w.cell? ⟨g, 0, none⟩ = some x ∧ w.cell? ⟨g, 1, none⟩ = some y ∧ w.cell? ⟨g, 2, none⟩ = some z :=
  ⟨by rw [cell_of_row w g 0 _ t (0, 0) h]; rfl, by rw [cell_of_row w g 1 _ t (0, 0) h]; rfl, by rw [cell_of_row w g 2 _ t (0, 0) h]; rfl⟩

theorem int_at {w : World} {a : Option Addr} {xs : List Int} {j : Nat} {x : Int} (h : SlRd intR w a xs) (hx : xs[j]? = some x) :
    ∃ b off, a = some ⟨b, off, none⟩ ∧ w.cell? ⟨b, off + j, none⟩ = some (.int .i64 x) := by
  obtain ⟨b, off, c, rfl, ⟨rfl, _⟩, hcell⟩ := slrd_at h hx
  have g1 := hcell 0 _ rfl
  rw [show j * intR.size + 0 = j from Nat.mul_one j] at g1
  exact ⟨b, off, rfl, g1⟩


end Go.Proofs.Ytpfgggjcaogkkaa
