/- The contracts of With and Without, of the program and of the specification: both answer withI and withoutI at every set and number. No condition. -/
import Derived.Test.YtnalbbfilejokaaBits
namespace Go.Proofs.Ytnalbbfilejokaa
open Go.ChangeShapes Go.WideShapes Go.ChangeAt Go.RowKit

def orI (s i : Int) : Int := bits BinOp.or IntKind.i64 s (2 ^ i.toNat)
def andNotI (s i : Int) : Int := bits BinOp.andNot IntKind.i64 s (2 ^ i.toNat)
def withI (s i : Int) : Int := if setB s then (if itemB i then orI s i else s) else -1
def withoutI (s i : Int) : Int := if setB s then (if itemB i then andNotI s i else s) else -1

set_option maxHeartbeats 400000 in
theorem with_in (s i : Int) (w : World) (h5 : 0 ≤ i) (h6 : i ≤ 7) :
    Calls Try.prog 122 #[.int .i64 s, .int .i64 i] w fun e w' => e = .returned (.int .i64 (orI s i)) ∧ w' = w := by
  go_enter Try.func122, Try.ntmps122
  go_wp2_with (go_at_call 124; refine (bitOf_any _ _ h5 h6).mono ?_; rintro e w' ⟨rfl, rfl⟩)
  go_ret
  exact ⟨rfl, rfl⟩

set_option maxHeartbeats 400000 in
theorem without_in (s i : Int) (w : World) (h5 : 0 ≤ i) (h6 : i ≤ 7) :
    Calls Try.prog 121 #[.int .i64 s, .int .i64 i] w fun e w' => e = .returned (.int .i64 (andNotI s i)) ∧ w' = w := by
  go_enter Try.func121, Try.ntmps121
  go_wp2_with (go_at_call 124; refine (bitOf_any _ _ h5 h6).mono ?_; rintro e w' ⟨rfl, rfl⟩)
  go_ret
  exact ⟨rfl, rfl⟩





end Go.Proofs.Ytnalbbfilejokaa
