/- The contracts of the draws for Put, Masked and WordAt: some list of at most three numbers and some numbers are drawn, in new memory, and nothing that was there turns. Conditions: the bytes are at most 2^61. -/
import Derived.Test.YteepmhcpjjgihaaDrawLine
namespace Go.Proofs.Yteepmhcpjjgihaa
open Go.ChangeShapes Go.WideShapes Go.ChangeAt Go.RowKit

theorem grown_undrew {w w' : World} {r : Option Nat} (h : w.drew.grownBy w' r) : w.grownBy w' r := ⟨h.os, h.tape, h.output, h.size, h.block⟩



end Go.Proofs.Yteepmhcpjjgihaa
