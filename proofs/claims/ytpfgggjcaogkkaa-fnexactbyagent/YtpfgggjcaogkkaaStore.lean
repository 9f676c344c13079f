
/- The contracts of one way: empty, full; of the program and of the specification. Conditions: lists that read as told. -/
import Derived.Test.YtpfgggjcaogkkaaIters
import Derived.Test.YtpfgggjcaogkkaaLines6
import Derived.Test.YtpfgggjcaogkkaaTree
namespace Go.Proofs.Ytpfgggjcaogkkaa
open Go.ChangeShapes Go.WideShapes Go.ChangeAt Go.RowKit Go.Shelf
set_option linter.unusedVariables false

def clrB (l s : Int) (n : Nat) : Bool := decide (l = -1 ∧ s = 0 ∧ n = 0)
theorem clr_eq (u : WayD) : clrB u.1 u.2.1 u.2.2.length = clearB u := by
  simp [clrB, clearB]

theorem full_eq (ln : List Int → Bool) (u : WayD) : fullB ln u = (betw u.1 0 15 && (betw u.2.1 1 3 && ln u.2.2)) := by
  simp [fullB, betw, Bool.decide_and]

end Go.Proofs.Ytpfgggjcaogkkaa
