/- The contracts of the program's Victim and VictimBut: the first of a list that is not kept. No condition. -/
import Derived.Test.YtmldilmiihafoaaTree4
namespace Go.Proofs.Ytmldilmiihafoaa
open Go.ChangeShapes Go.WideShapes Go.ChangeAt Go.RowKit

def backI (t : Int) : Int := 2 * (1 - t % 2) + t / 2 ^ (1 + (1 - t % 2)).toNat % 2
def ordI (t n : Int) : List Int := if n = 1 then [0] else if n = 2 then [t, bits BinOp.xor IntKind.i64 t 1] else [goI t 4, bits BinOp.xor IntKind.i64 (goI t 4) 1, backI t, bits BinOp.xor IntKind.i64 (backI t) 1]
def vbI (t n k : Int) : Int := if treeB t n && setB k then butL (ordI t n) k else -1

theorem goes_in (t n k : Int) (w : World) (h : treeB t n = true) :
    Calls Try.prog 112 #[.int .i64 t, .int .i64 n, .int .i64 k] w fun e w' => e = .returned (.int .i64 (butL (ordI t n) k)) ∧ w' = w := by
  have h5 := h
  simp [treeB] at h5
  rcases tree_pow h with rfl | rfl | rfl
  · exact goes_1 t k w
  · obtain rfl | rfl : t = 0 ∨ t = 1 := by omega
    · exact goes_2 0 k 0 1 w (by decide) (by decide) (by decide) (by decide)
    · exact goes_2 1 k 1 0 w (by decide) (by decide) (by decide) (by decide)
  · clear h
    rcases eight (t := t) (by omega) with rfl | rfl | rfl | rfl | rfl | rfl | rfl | rfl
    · have e : ordI 0 4 = [0 * 2 + 0, 1, 1 * 2 + 0, 3] := by decide +kernel
      rw [e]
      exact goes_4 0 k 0 0 1 0 1 3 w (by decide) (by decide) (by decide) (by decide) (by decide) (by decide) (by decide) (by decide) (by decide) (by decide) (by decide) (by decide) (by decide) (by decide)
    · have e : ordI 1 4 = [1 * 2 + 0, 3, 0 * 2 + 0, 1] := by decide +kernel
      rw [e]
      exact goes_4 1 k 1 0 0 0 3 1 w (by decide) (by decide) (by decide) (by decide) (by decide) (by decide) (by decide) (by decide) (by decide) (by decide) (by decide) (by decide) (by decide) (by decide)
    · have e : ordI 2 4 = [0 * 2 + 1, 0, 1 * 2 + 0, 3] := by decide +kernel
      rw [e]
      exact goes_4 2 k 0 1 1 0 0 3 w (by decide) (by decide) (by decide) (by decide) (by decide) (by decide) (by decide) (by decide) (by decide) (by decide) (by decide) (by decide) (by decide) (by decide)
    · have e : ordI 3 4 = [1 * 2 + 0, 3, 0 * 2 + 1, 0] := by decide +kernel
      rw [e]
      exact goes_4 3 k 1 0 0 1 3 0 w (by decide) (by decide) (by decide) (by decide) (by decide) (by decide) (by decide) (by decide) (by decide) (by decide) (by decide) (by decide) (by decide) (by decide)
    · have e : ordI 4 4 = [0 * 2 + 0, 1, 1 * 2 + 1, 2] := by decide +kernel
      rw [e]
      exact goes_4 4 k 0 0 1 1 1 2 w (by decide) (by decide) (by decide) (by decide) (by decide) (by decide) (by decide) (by decide) (by decide) (by decide) (by decide) (by decide) (by decide) (by decide)
    · have e : ordI 5 4 = [1 * 2 + 1, 2, 0 * 2 + 0, 1] := by decide +kernel
      rw [e]
      exact goes_4 5 k 1 1 0 0 2 1 w (by decide) (by decide) (by decide) (by decide) (by decide) (by decide) (by decide) (by decide) (by decide) (by decide) (by decide) (by decide) (by decide) (by decide)
    · have e : ordI 6 4 = [0 * 2 + 1, 0, 1 * 2 + 1, 2] := by decide +kernel
      rw [e]
      exact goes_4 6 k 0 1 1 1 0 2 w (by decide) (by decide) (by decide) (by decide) (by decide) (by decide) (by decide) (by decide) (by decide) (by decide) (by decide) (by decide) (by decide) (by decide)
    · have e : ordI 7 4 = [1 * 2 + 1, 2, 0 * 2 + 1, 0] := by decide +kernel
      rw [e]
      exact goes_4 7 k 1 1 0 1 2 0 w (by decide) (by decide) (by decide) (by decide) (by decide) (by decide) (by decide) (by decide) (by decide) (by decide) (by decide) (by decide) (by decide) (by decide)

set_option maxHeartbeats 1000000 in
theorem implBut_any (t n k : Int) (w : World) :
    Calls Try.prog 97 #[.int .i64 t, .int .i64 n, .int .i64 k] w fun e w' => e = .returned (.int .i64 (vbI t n k)) ∧ w' = w := by
  cases h1 : treeB t n
  · have H : Hid (vbI t n k = -1) := by unfold Hid; simp [vbI, h1]
    go_enter Try.func97, Try.ntmps97
    go_wp2_with (go_at_call 94; refine (implTreeOk_any _ _ _).mono ?_; rintro e w' ⟨rfl, rfl⟩)
    go_ret
    exact ⟨ret_int H.out.symm, rfl⟩
  cases h2 : setB k
  · have H : Hid (vbI t n k = -1) := by unfold Hid; simp [vbI, h2]
    go_enter Try.func97, Try.ntmps97
    go_wp2_with (first
      | (go_at_call 94; refine (implTreeOk_any _ _ _).mono ?_; rintro e w' ⟨rfl, rfl⟩)
      | (go_at_call 111; refine (ok_any _ _).mono ?_; rintro e w' ⟨rfl, rfl⟩))
    go_ret
    exact ⟨ret_int H.out.symm, rfl⟩
  · have H : Hid (vbI t n k = butL (ordI t n) k) := by unfold Hid; simp [vbI, h1, h2]
    go_enter Try.func97, Try.ntmps97
    go_wp2_with (first
      | (go_at_call 94; refine (implTreeOk_any _ _ _).mono ?_; rintro e w' ⟨rfl, rfl⟩)
      | (go_at_call 111; refine (ok_any _ _).mono ?_; rintro e w' ⟨rfl, rfl⟩)
      | (go_at_call 112; refine (goes_in _ _ _ _ h1).mono ?_; rintro e w' ⟨rfl, rfl⟩))
    go_ret
    exact ⟨ret_int H.out.symm, rfl⟩

theorem vb_zero (t n : Int) : vbI t n 0 = viI t n := by
  cases h : treeB t n
  · simp [vbI, viI, h]
  · have h5 := h
    simp [treeB] at h5
    rcases tree_pow h with rfl | rfl | rfl
    · have : t = 0 := by omega
      subst this
      decide +kernel
    · obtain rfl | rfl : t = 0 ∨ t = 1 := by omega
      · decide +kernel
      · decide +kernel
    · clear h
      rcases eight (t := t) (by omega) with rfl | rfl | rfl | rfl | rfl | rfl | rfl | rfl <;> decide +kernel

set_option maxHeartbeats 400000 in
theorem implVictim_any (t n : Int) (w : World) :
    Calls Try.prog 66 #[.int .i64 t, .int .i64 n] w fun e w' => e = .returned (.int .i64 (viI t n)) ∧ w' = w := by
  rw [← vb_zero]
  go_enter Try.func66, Try.ntmps66
  go_wp2_with (go_at_call 97; refine (implBut_any _ _ _ _).mono ?_; rintro e w' ⟨rfl, rfl⟩)
  go_ret
  exact ⟨rfl, rfl⟩

end Go.Proofs.Ytmldilmiihafoaa
