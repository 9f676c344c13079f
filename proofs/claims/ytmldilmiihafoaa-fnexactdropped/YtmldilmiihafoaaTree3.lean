/- The contracts of the specification's Touched and Victim. No condition. -/
import Derived.Test.YtmldilmiihafoaaTree2
namespace Go.Proofs.Ytmldilmiihafoaa
open Go.ChangeShapes Go.WideShapes Go.ChangeAt Go.RowKit

set_option maxHeartbeats 400000 in
theorem l5Touched_1 (t y : Int) (w : World) :
    Calls Try.prog 93 #[.int .i64 t, .int .i64 1, .int .i64 y] w fun e w' => e = .returned (.int .i64 t) ∧ w' = w := by
  go_enter Try.func93, Try.ntmps93
  go_wp2
  go_ret
  exact ⟨rfl, rfl⟩

set_option maxHeartbeats 400000 in
theorem l5Touched_2 (t y : Int) (w : World) (ht : t = 0 ∨ t = 1) (hy : y = 0 ∨ y = 1) :
    Calls Try.prog 93 #[.int .i64 t, .int .i64 2, .int .i64 y] w fun e w' => e = .returned (.int .i64 (telI t 0 (1 - y))) ∧ w' = w := by
  have H : Hid (1 - y = telI t 0 (1 - y)) := by
    unfold Hid
    rcases ht with rfl | rfl <;> rcases hy with rfl | rfl <;> decide
  go_enter Try.func93, Try.ntmps93
  go_wp2
  go_ret
  exact ⟨ret_int H.out, rfl⟩

theorem eight {t : Int} (h : 0 ≤ t ∧ t ≤ 7) : t = 0 ∨ t = 1 ∨ t = 2 ∨ t = 3 ∨ t = 4 ∨ t = 5 ∨ t = 6 ∨ t = 7 := by omega

set_option maxHeartbeats 1000000 in
theorem l5Touched_4 (t y : Int) (w : World) (ht : 0 ≤ t ∧ t ≤ 7) (hy : y = 0 ∨ y = 1 ∨ y = 2 ∨ y = 3) :
    Calls Try.prog 93 #[.int .i64 t, .int .i64 4, .int .i64 y] w fun e w' => e = .returned (.int .i64 (telI (telI t 0 (1 - y / 2)) (1 + y / 2) (1 - y % 2))) ∧ w' = w := by
  have ht' : Hid _ := ht
  clear ht
  rcases hy with rfl | rfl | rfl | rfl
  all_goals
    go_enter Try.func93, Try.ntmps93
    go_wp2
    go_ret
    refine ⟨ret_int ?_, rfl⟩
    rcases eight ht'.out with rfl | rfl | rfl | rfl | rfl | rfl | rfl | rfl <;> decide +kernel


def goI (t n : Int) : Int := if n = 1 then 0 else if n = 2 then t else 2 * (t % 2) + t / 2 ^ (1 + t % 2).toNat % 2
def viI (t n : Int) : Int := if treeB t n then goI t n else -1

set_option maxHeartbeats 1000000 in
theorem l5Victim_in (t n : Int) (w : World) (h : treeB t n = true) :
    Calls Try.prog 98 #[.int .i64 t, .int .i64 n] w fun e w' => e = .returned (.int .i64 (goI t n)) ∧ w' = w := by
  have h5 := h
  simp [treeB] at h5
  rcases tree_pow h with rfl | rfl | rfl
  · clear h h5
    go_enter Try.func98, Try.ntmps98
    go_wp2
    go_ret
    exact ⟨rfl, rfl⟩
  · clear h h5
    go_enter Try.func98, Try.ntmps98
    go_wp2
    go_ret
    exact ⟨rfl, rfl⟩
  · clear h
    rcases eight (t := t) (by omega) with rfl | rfl | rfl | rfl | rfl | rfl | rfl | rfl
    all_goals
      clear h5
      go_enter Try.func98, Try.ntmps98
      go_wp2
      go_ret
      exact ⟨ret_int (by decide +kernel), rfl⟩


end Go.Proofs.Ytmldilmiihafoaa
