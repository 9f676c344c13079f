
/- The laws' helpers in the one form: ops, ways, stores. -/
import Derived.Test.YtpfgggjcaogkkaaUBase
import Derived.Test.YtpfgggjcaogkkaaOwned
import Derived.Test.YtpfgggjcaogkkaaWays2
import Derived.Test.YtpfgggjcaogkkaaMarks
import Derived.Test.YtpfgggjcaogkkaaMarkOp
import Derived.Test.YtpfgggjcaogkkaaHeldOp
namespace Go.Proofs.Ytpfgggjcaogkkaa
open Go.ChangeShapes Go.WideShapes Go.ChangeAt Go.RowKit
set_option linter.unusedVariables false
theorem way_cV (x : WayD) : wayM.cV x = slcnt intM x.2.2 := by show 0 + (0 + slcnt intM x.2.2) = _; omega
theorem way_mV (k : Int) (x : WayD) : wayM.mV k x = (x.1, x.2.1, slmark intM k x.2.2) := by
  show (x.1, x.2.1, slmark intM (k + 0 + 0) x.2.2) = _
  rw [Int.add_zero, Int.add_zero]
end Go.Proofs.Ytpfgggjcaogkkaa
