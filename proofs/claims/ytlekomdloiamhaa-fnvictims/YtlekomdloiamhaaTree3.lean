/- The contracts of the specification's Touched and Victim. No condition. -/
import Derived.Test.YtlekomdloiamhaaTree2
namespace Go.Proofs.Ytlekomdloiamhaa
open Go.ChangeShapes Go.WideShapes Go.ChangeAt Go.RowKit

set_option maxHeartbeats 400000 in
theorem l5Touched_1 (t y : Int) (w : World) :
    Calls Try.prog 32 #[.int .i64 t, .int .i64 1, .int .i64 y] w fun e w' => e = .returned (.int .i64 t) ∧ w' = w := by
  go_enter Try.func32, Try.ntmps32
  go_wp2
  go_ret
  exact ⟨rfl, rfl⟩

set_option maxHeartbeats 400000 in
theorem l5Touched_2 (t y : Int) (w : World) (ht : t = 0 ∨ t = 1) (hy : y = 0 ∨ y = 1) :
    Calls Try.prog 32 #[.int .i64 t, .int .i64 2, .int .i64 y] w fun e w' => e = .returned (.int .i64 (telI t 0 (1 - y))) ∧ w' = w := by
  have H : Hid (1 - y = telI t 0 (1 - y)) := by
    unfold Hid
    rcases ht with rfl | rfl <;> rcases hy with rfl | rfl <;> decide
  go_enter Try.func32, Try.ntmps32
  go_wp2
  go_ret
  exact ⟨ret_int H.out, rfl⟩

theorem eight {t : Int} (h : 0 ≤ t ∧ t ≤ 7) : t = 0 ∨ t = 1 ∨ t = 2 ∨ t = 3 ∨ t = 4 ∨ t = 5 ∨ t = 6 ∨ t = 7 := by omega

set_option maxHeartbeats 1000000 in
theorem l5Touched_4 (t y : Int) (w : World) (ht : 0 ≤ t ∧ t ≤ 7) (hy : y = 0 ∨ y = 1 ∨ y = 2 ∨ y = 3) :
    Calls Try.prog 32 #[.int .i64 t, .int .i64 4, .int .i64 y] w fun e w' => e = .returned (.int .i64 (telI (telI t 0 (1 - y / 2)) (1 + y / 2) (1 - y % 2))) ∧ w' = w := by
  have ht' : Hid _ := ht
  clear ht
  rcases hy with rfl | rfl | rfl | rfl
  all_goals
    go_enter Try.func32, Try.ntmps32
    go_wp2
    go_ret
    refine ⟨ret_int ?_, rfl⟩
    rcases eight ht'.out with rfl | rfl | rfl | rfl | rfl | rfl | rfl | rfl <;> decide +kernel

set_option maxHeartbeats 1000000 in
theorem specTouched_any (t n y : Int) (w : World) :
    Calls Try.prog 12 #[.int .i64 t, .int .i64 n, .int .i64 y] w fun e w' => e = .returned (.int .i64 (tuI t n y)) ∧ w' = w := by
  cases h1 : treeB t n
  · have H : Hid (tuI t n y = -1) := by unfold Hid; simp [tuI, h1]
    go_enter Try.func12, Try.ntmps12
    go_wp2_with (go_at_call 14; refine (specTreeOk_any _ _ _).mono ?_; rintro e w' ⟨rfl, rfl⟩)
    go_ret
    exact ⟨ret_int H.out.symm, rfl⟩
  by_cases h2 : y < 0
  · have H : Hid (tuI t n y = -1) := by unfold Hid; simp [tuI, betw]; omega
    go_enter Try.func12, Try.ntmps12
    go_wp2_with (go_at_call 14; refine (specTreeOk_any _ _ _).mono ?_; rintro e w' ⟨rfl, rfl⟩)
    go_ret
    exact ⟨ret_int H.out.symm, rfl⟩
  by_cases h3 : n ≤ y
  · have H : Hid (tuI t n y = -1) := by unfold Hid; simp [tuI, betw]; omega
    go_enter Try.func12, Try.ntmps12
    go_wp2_with (go_at_call 14; refine (specTreeOk_any _ _ _).mono ?_; rintro e w' ⟨rfl, rfl⟩)
    go_ret
    exact ⟨ret_int H.out.symm, rfl⟩
  have hp := tree_pow h1
  have H : Hid (tuI t n y = touI t n y) := by
    unfold Hid
    have h4 : betw y 0 (n - 1) = true := by simp [betw]; omega
    simp [tuI, h1, h4]
  have C : ∀ w, Calls Try.prog 32 #[.int .i64 t, .int .i64 n, .int .i64 y] w fun e w' => e = .returned (.int .i64 (touI t n y)) ∧ w' = w := by
    intro w
    have h5 := h1
    simp [treeB] at h5
    rcases hp with rfl | rfl | rfl
    · exact l5Touched_1 t y w
    · exact l5Touched_2 t y w (by omega) (by omega)
    · exact l5Touched_4 t y w (by omega) (by omega)
  have C' : Hid _ := C
  clear C hp
  go_enter Try.func12, Try.ntmps12
  go_wp2_with (first
    | (go_at_call 14; refine (specTreeOk_any _ _ _).mono ?_; rintro e w' ⟨rfl, rfl⟩)
    | (go_at_call 32; refine (C'.out _).mono ?_; rintro e w' ⟨rfl, rfl⟩))
  go_ret
  exact ⟨ret_int H.out.symm, rfl⟩

def goI (t n : Int) : Int := if n = 1 then 0 else if n = 2 then t else 2 * (t % 2) + t / 2 ^ (1 + t % 2).toNat % 2
def viI (t n : Int) : Int := if treeB t n then goI t n else -1

set_option maxHeartbeats 1000000 in
theorem l5Victim_in (t n : Int) (w : World) (h : treeB t n = true) :
    Calls Try.prog 40 #[.int .i64 t, .int .i64 n] w fun e w' => e = .returned (.int .i64 (goI t n)) ∧ w' = w := by
  have h5 := h
  simp [treeB] at h5
  rcases tree_pow h with rfl | rfl | rfl
  · clear h h5
    go_enter Try.func40, Try.ntmps40
    go_wp2
    go_ret
    exact ⟨rfl, rfl⟩
  · clear h h5
    go_enter Try.func40, Try.ntmps40
    go_wp2
    go_ret
    exact ⟨rfl, rfl⟩
  · clear h
    rcases eight (t := t) (by omega) with rfl | rfl | rfl | rfl | rfl | rfl | rfl | rfl
    all_goals
      clear h5
      go_enter Try.func40, Try.ntmps40
      go_wp2
      go_ret
      exact ⟨ret_int (by decide +kernel), rfl⟩

set_option maxHeartbeats 1000000 in
theorem specVictim_any (t n : Int) (w : World) :
    Calls Try.prog 19 #[.int .i64 t, .int .i64 n] w fun e w' => e = .returned (.int .i64 (viI t n)) ∧ w' = w := by
  cases h1 : treeB t n
  · have H : Hid (viI t n = -1) := by unfold Hid; simp [viI, h1]
    go_enter Try.func19, Try.ntmps19
    go_wp2_with (go_at_call 14; refine (specTreeOk_any _ _ _).mono ?_; rintro e w' ⟨rfl, rfl⟩)
    go_ret
    exact ⟨ret_int H.out.symm, rfl⟩
  · have H : Hid (viI t n = goI t n) := by unfold Hid; simp [viI, h1]
    go_enter Try.func19, Try.ntmps19
    go_wp2_with (first
      | (go_at_call 14; refine (specTreeOk_any _ _ _).mono ?_; rintro e w' ⟨rfl, rfl⟩)
      | (go_at_call 40; refine (l5Victim_in _ _ _ h1).mono ?_; rintro e w' ⟨rfl, rfl⟩))
    go_ret
    exact ⟨ret_int H.out.symm, rfl⟩

end Go.Proofs.Ytlekomdloiamhaa
