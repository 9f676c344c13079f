
/- The types of this program as they read: numbers, lists, lists of lists; and how the older words for lists of lists go with the one form. No condition. -/
import Derived.Test.YteblffhbennpnaaGreatDoorOwn5
import Derived.Test.YteblffhbennpnaaGreatDoorOwn
namespace Go.Proofs.YteblffhbennpnaaGreatDoor
open Go.ChangeShapes Go.WideShapes Go.ChangeAt Go.RowKit
set_option linter.unusedVariables false

theorem opens_i64 : Opens Tryz.prog 2 intR := opens_int Tryz.underlying2
theorem opens_ints : Opens Tryz.prog 31 intsR := opens_slice Tryz.underlying31 (by kernel_rfl) Nat.zero_lt_one opens_i64


end Go.Proofs.YteblffhbennpnaaGreatDoor
