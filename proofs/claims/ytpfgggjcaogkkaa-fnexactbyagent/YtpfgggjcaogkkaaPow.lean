
/- The contracts of the functions that ask for 1, 2 or 4. No condition. -/
import Derived.Test.YtpfgggjcaogkkaaNums
namespace Go.Proofs.Ytpfgggjcaogkkaa
open Go.ChangeShapes Go.WideShapes Go.ChangeAt Go.RowKit

def powB (n : Int) : Bool := decide (n = 1 ∨ n = 2 ∨ n = 4)



end Go.Proofs.Ytpfgggjcaogkkaa
