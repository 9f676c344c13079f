
/- The contract of Masked, of the program: what it answers, in new memory. No condition. -/
import Derived.Test.YtcnnojfkpkmdmaaLines4
namespace Go.Proofs.Ytcnnojfkpkmdmaa
open Go.ChangeShapes Go.WideShapes Go.ChangeAt Go.RowKit

theorem reads_step {w w1 : World} {a : Option Addr} {xs : List Int} (h : Reads w a xs) (hb : Below w.heap.size w w1) (o : Obj) : Reads (w1.alloc o) a xs :=
  reads_below h (hb.alloc hb.size o)

end Go.Proofs.Ytcnnojfkpkmdmaa
