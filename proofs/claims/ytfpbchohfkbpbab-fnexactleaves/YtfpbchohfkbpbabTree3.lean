/- The contracts of the specification's Touched and Victim. No condition. -/
import Derived.Test.YtfpbchohfkbpbabTree2
namespace Go.Proofs.Ytfpbchohfkbpbab
open Go.ChangeShapes Go.WideShapes Go.ChangeAt Go.RowKit



theorem eight {t : Int} (h : 0 ≤ t ∧ t ≤ 7) : t = 0 ∨ t = 1 ∨ t = 2 ∨ t = 3 ∨ t = 4 ∨ t = 5 ∨ t = 6 ∨ t = 7 := by omega



def goI (t n : Int) : Int := if n = 1 then 0 else if n = 2 then t else 2 * (t % 2) + t / 2 ^ (1 + t % 2).toNat % 2
def viI (t n : Int) : Int := if treeB t n then goI t n else -1

set_option maxHeartbeats 1000000 in
theorem l5Victim_in (t n : Int) (w : World) (h : treeB t n = true) :
    Calls Try.prog 58 #[.int .i64 t, .int .i64 n] w fun e w' => e = .returned (.int .i64 (goI t n)) ∧ w' = w := by
  have h5 := h
  simp [treeB] at h5
  rcases tree_pow h with rfl | rfl | rfl
  · clear h h5
    go_enter Try.func58, Try.ntmps58
    go_wp2
    go_ret
    exact ⟨rfl, rfl⟩
  · clear h h5
    go_enter Try.func58, Try.ntmps58
    go_wp2
    go_ret
    exact ⟨rfl, rfl⟩
  · clear h
    rcases eight (t := t) (by omega) with rfl | rfl | rfl | rfl | rfl | rfl | rfl | rfl
    all_goals
      clear h5
      go_enter Try.func58, Try.ntmps58
      go_wp2
      go_ret
      exact ⟨ret_int (by decide +kernel), rfl⟩


end Go.Proofs.Ytfpbchohfkbpbab
