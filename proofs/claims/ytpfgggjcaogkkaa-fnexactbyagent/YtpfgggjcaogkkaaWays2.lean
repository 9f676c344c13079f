
import Derived.Test.YtpfgggjcaogkkaaWays
import Derived.Test.YtpfgggjcaogkkaaLines
import Derived.Deep.QuietTactic
import Derived.Test.YtpfgggjcaogkkaaClasses
import Derived.Test.YtpfgggjcaogkkaaIters
/- The contracts of the laws' own helpers over ways, sets and stores: how great, a copy, alike. Conditions: lengths that a machine can hold. -/
namespace Go.Proofs.Ytpfgggjcaogkkaa
open Go.ChangeShapes Go.WideShapes Go.ChangeAt Go.RowKit
set_option linter.unusedVariables false

theorem bk_way (u : Int × Int × List Int) : wayM.bk u = intsM.bk u.2.2 := by
  show 0 + (0 + intsM.bk u.2.2) = _
  omega
theorem lens_of {xs : List Int} {cap : Nat} (h1 : xs.length ≤ cap) (h2 : cap ≤ maxLen) : xs.length ≤ maxLen := Nat.le_trans h1 h2




end Go.Proofs.Ytpfgggjcaogkkaa

/- The contracts of the laws' own helpers over ways, sets and stores: a copy. Conditions: lengths that a machine can hold. -/
namespace Go.Proofs.Ytpfgggjcaogkkaa
open Go.ChangeShapes Go.WideShapes Go.ChangeAt Go.RowKit
set_option linter.unusedVariables false

theorem cells_3 {w : World} {g : Nat} {x y z : Value} {t : TypeId} (h : w.heap[g]? = some (.cells #[x, y, z] t (0, 0))) :
    w.cell? ⟨g, 0, none⟩ = some x ∧ w.cell? ⟨g, 1, none⟩ = some y ∧ w.cell? ⟨g, 2, none⟩ = some z :=
  ⟨by rw [cell_of_row w g 0 _ t (0, 0) h]; rfl, by rw [cell_of_row w g 1 _ t (0, 0) h]; rfl, by rw [cell_of_row w g 2 _ t (0, 0) h]; rfl⟩
theorem cells_froz {w : World} {g : Nat} {cs : Array Value} {t : TypeId} (h : w.heap[g]? = some (.cells cs t (0, 0))) : w.frozen? ⟨g, 0, none⟩ = false ∧ w.frozen? ⟨g, 1, none⟩ = false ∧ w.frozen? ⟨g, 2, none⟩ = false :=
  ⟨frozen_of_row w g 0 _ t h, frozen_of_row w g 1 _ t h, frozen_of_row w g 2 _ t h⟩

theorem put3 {w : World} {g : Nat} {x y z a b c : Value} {t : TypeId} (h : w.heap[g]? = some (.cells #[x, y, z] t (0, 0))) :
    (((w.setCell ⟨g, 0, none⟩ a).setCell ⟨g, 1, none⟩ b).setCell ⟨g, 2, none⟩ c).heap[g]? = some (.cells #[a, b, c] t (0, 0)) := by
  have h1 := heap_setCell_same w g 0 _ t a h
  have h2 := heap_setCell_same _ g 1 _ t b h1
  exact heap_setCell_same _ g 2 _ t c h2
theorem put2 {w : World} {g : Nat} {x y a b : Value} {t : TypeId} (h : w.heap[g]? = some (.cells #[x, y] t (0, 0))) :
    ((w.setCell ⟨g, 0, none⟩ a).setCell ⟨g, 1, none⟩ b).heap[g]? = some (.cells #[a, b] t (0, 0)) := by
  have h1 := heap_setCell_same w g 0 _ t a h
  exact heap_setCell_same _ g 1 _ t b h1


end Go.Proofs.Ytpfgggjcaogkkaa

/- The contracts of the laws' own helpers over ways, sets and stores: copies of stores, and whether two are alike. Conditions: lengths that a machine can hold. -/
namespace Go.Proofs.Ytpfgggjcaogkkaa
open Go.ChangeShapes Go.WideShapes Go.ChangeAt Go.RowKit
set_option linter.unusedVariables false

theorem cell_kp {w w' : World} {D b o : Nat} {u : Value} (hb : Below D w w') (h : w.cell? ⟨b, o, none⟩ = some u) (hl : b < D) : w'.cell? ⟨b, o, none⟩ = some u :=
  (World.cell?_of_block (w := w) (a := ⟨b, o, none⟩) (hb.block b hl)).trans h
theorem cell_l {w : World} {b o : Nat} {u : Value} (h : w.cell? ⟨b, o, none⟩ = some u) : b < w.heap.size := World.block_lt_of_cell? w _ h
theorem rd_set {w w' : World} {a : Option Addr} {xs : List Int} (h : SlRd intR w a xs) (hb : Below w.heap.size w w') : SlRd intR w' a xs := slrd_next h hb


theorem cells_froz2 {w : World} {g : Nat} {cs : Array Value} {t : TypeId} (h : w.heap[g]? = some (.cells cs t (0, 0))) : w.frozen? ⟨g, 0, none⟩ = false ∧ w.frozen? ⟨g, 1, none⟩ = false :=
  ⟨frozen_of_row w g 0 _ t h, frozen_of_row w g 1 _ t h⟩






end Go.Proofs.Ytpfgggjcaogkkaa
