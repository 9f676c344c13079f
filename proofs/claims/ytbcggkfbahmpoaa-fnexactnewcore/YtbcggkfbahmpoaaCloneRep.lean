
/- slices.Clone of numbers. Conditions: a list that reads as told, of a length that a machine can hold. -/
import Derived.Test.YtbcggkfbahmpoaaWayCopy
import Derived.Lib.SliceRun
namespace Go.Proofs.Ytbcggkfbahmpoaa
open Go.ChangeShapes Go.WideShapes Go.ChangeAt Go.RowKit
set_option linter.unusedVariables false


end Go.Proofs.Ytbcggkfbahmpoaa
