
/- The types of this program as they read: numbers, lists, lists of lists; and how the older words for lists of lists go with the one form. No condition. -/
import Derived.Test.YteblffhbennpnaaOwn5
import Derived.Test.YteblffhbennpnaaOwn
namespace Go.Proofs.Yteblffhbennpnaa
open Go.ChangeShapes Go.WideShapes Go.ChangeAt Go.RowKit
set_option linter.unusedVariables false

theorem opens_i64 : Opens Try.prog 2 intR := opens_int Try.underlying2
theorem opens_ints : Opens Try.prog 36 intsR := opens_slice Try.underlying36 (by kernel_rfl) Nat.zero_lt_one opens_i64


end Go.Proofs.Yteblffhbennpnaa
