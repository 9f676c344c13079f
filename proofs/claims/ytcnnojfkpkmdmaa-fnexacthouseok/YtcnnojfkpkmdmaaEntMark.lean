
/- Marks of one entry of the book, and whether they are held: the laws' own helpers. Conditions: lengths that a machine can hold. -/
import Derived.Test.YtcnnojfkpkmdmaaAppGen
import Derived.Test.YtcnnojfkpkmdmaaEntries
namespace Go.Proofs.Ytcnnojfkpkmdmaa
open Go.ChangeShapes Go.WideShapes Go.ChangeAt Go.RowKit
set_option linter.unusedVariables false


end Go.Proofs.Ytcnnojfkpkmdmaa
