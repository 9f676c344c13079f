
/- The contract of the laws' own copy of a layout. No condition. -/
import Derived.Test.YteblffhbennpnaaDoorLayout4
namespace Go.Proofs.YteblffhbennpnaaDoor
open Go.ChangeShapes Go.WideShapes Go.ChangeAt Go.RowKit

set_option maxHeartbeats 400000 in
theorem toConfig_any (c s y l : Int) (w : World) :
    Calls Tryd.prog 17 #[.agg #[.int .i64 c, .int .i64 s, .int .i64 y, .int .i64 l]] w fun e w' => e = .returned (.agg #[.int .i64 c, .int .i64 s, .int .i64 y, .int .i64 l]) ∧ Below w.heap.size w w' := by
  go_enter Tryd.func17, Tryd.ntmps17
  go_wp2
  refine bodyPost_ret (v := .agg #[.int .i64 c, .int .i64 s, .int .i64 y, .int .i64 l]) (by simp [results, Tryd.results17, go_sem]) rfl ⟨rfl, ?_⟩
  repeat first
    | exact Below.refl _ _
    | refine Below.setCell ?_ (by simp <;> omega) _
    | refine Below.alloc ?_ (by simp <;> omega) _
    | refine Below.drew ?_

end Go.Proofs.YteblffhbennpnaaDoor
