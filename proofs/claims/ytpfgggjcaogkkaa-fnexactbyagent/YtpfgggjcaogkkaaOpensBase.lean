
/- The types of this program as they read: numbers, lists, lists of lists; and how the older words for lists of lists go with the one form. No condition. -/
import Derived.Test.YtpfgggjcaogkkaaOwn5
import Derived.Test.YtpfgggjcaogkkaaOwn
namespace Go.Proofs.Ytpfgggjcaogkkaa
open Go.ChangeShapes Go.WideShapes Go.ChangeAt Go.RowKit
set_option linter.unusedVariables false

theorem opens_i64 : Opens Try.prog 2 intR := opens_int Try.underlying2
theorem opens_ints : Opens Try.prog 33 intsR := opens_slice Try.underlying33 (by kernel_rfl) Nat.zero_lt_one opens_i64


end Go.Proofs.Ytpfgggjcaogkkaa
