
/- One entry of the book, copied, by the program. Conditions: lists of at most 2^20 numbers. -/
import Derived.Test.YtcnnojfkpkmdmaaEntries
import Derived.Test.YtcnnojfkpkmdmaaCopyInts
namespace Go.Proofs.Ytcnnojfkpkmdmaa
open Go.ChangeShapes Go.WideShapes Go.ChangeAt Go.RowKit
set_option linter.unusedVariables false

end Go.Proofs.Ytcnnojfkpkmdmaa
