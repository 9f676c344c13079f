
/- The contract of the test whether there may be so many lines. No condition. -/
import Derived.Test.YteblffhbennpnaaNums
namespace Go.Proofs.Yteblffhbennpnaa
open Go.ChangeShapes Go.WideShapes Go.ChangeAt Go.RowKit

end Go.Proofs.Yteblffhbennpnaa
