
/- The contracts of the layout: codes, lines, words, sets, addresses, of the program and of its specification. No condition. -/
import Derived.Test.YtbcggkfbahmpoaaLinesOk
import Derived.Test.YtbcggkfbahmpoaaPow
import Derived.Below
namespace Go.Proofs.Ytbcggkfbahmpoaa
open Go.ChangeShapes Go.WideShapes Go.ChangeAt Go.RowKit

def codeI (c s y l : Int) : Int := if betw c 1 4 then (if powB s then (if powB y then (if betw l 1 16 then 0 else 4) else 3) else 2) else 1

end Go.Proofs.Ytbcggkfbahmpoaa
