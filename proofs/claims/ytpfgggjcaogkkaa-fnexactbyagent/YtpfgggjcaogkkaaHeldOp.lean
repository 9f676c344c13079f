
/- A list of ops is held as it was marked. -/
import Derived.Test.YtpfgggjcaogkkaaMarkOp
namespace Go.Proofs.Ytpfgggjcaogkkaa
open Go.ChangeShapes Go.WideShapes Go.ChangeAt Go.RowKit
set_option linter.unusedVariables false
end Go.Proofs.Ytpfgggjcaogkkaa
