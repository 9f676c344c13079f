
/- The types of this program as they read: numbers, lists, lists of lists; and how the older words for lists of lists go with the one form. No condition. -/
import Derived.Test.YteblffhbennpnaaDoorOwn5
import Derived.Test.YteblffhbennpnaaDoorOwn
namespace Go.Proofs.YteblffhbennpnaaDoor
open Go.ChangeShapes Go.WideShapes Go.ChangeAt Go.RowKit
set_option linter.unusedVariables false

theorem opens_i64 : Opens Tryd.prog 2 intR := opens_int Tryd.underlying2
theorem opens_ints : Opens Tryd.prog 36 intsR := opens_slice Tryd.underlying36 (by kernel_rfl) Nat.zero_lt_one opens_i64


end Go.Proofs.YteblffhbennpnaaDoor
