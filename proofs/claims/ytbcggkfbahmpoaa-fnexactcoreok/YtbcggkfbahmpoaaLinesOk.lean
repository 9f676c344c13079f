
/- The contract of the test whether there may be so many lines. No condition. -/
import Derived.Test.YtbcggkfbahmpoaaJListsOwnNumsCopies
namespace Go.Proofs.Ytbcggkfbahmpoaa
open Go.ChangeShapes Go.WideShapes Go.ChangeAt Go.RowKit

end Go.Proofs.Ytbcggkfbahmpoaa
