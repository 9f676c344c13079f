
/- The contracts of the leaf functions of the sets of numbers. No condition. -/
import Derived.Test.YtcnnojfkpkmdmaaNums
import Derived.WalkKit
import Derived.ProofKit
import Derived.OpenShut
namespace Go.Proofs.Ytcnnojfkpkmdmaa
open Go.ChangeShapes Go.WideShapes Go.ChangeAt Go.RowKit

def setB (s : Int) : Bool := decide (0 ≤ s ∧ s ≤ 255)
def itemB (i : Int) : Bool := decide (0 ≤ i ∧ i ≤ 7)

set_option maxHeartbeats 400000 in
theorem ok_any (s : Int) (w : World) :
    Calls Try.prog 80 #[.int .i64 s] w fun e w' => e = .returned (.bool (setB s)) ∧ w' = w := by
  by_cases h1 : 0 ≤ s
  · by_cases h2 : s ≤ 255
    all_goals
      go_enter Try.func80, Try.ntmps80
      go_wp2
      go_ret
      exact ⟨by simp [setB, h1, h2], rfl⟩
  · go_enter Try.func80, Try.ntmps80
    go_wp2
    go_ret
    exact ⟨by simp only [setB]; congr 2; simp; omega, rfl⟩

set_option maxHeartbeats 400000 in
theorem number_any (s : Int) (w : World) :
    Calls Try.prog 81 #[.int .i64 s] w fun e w' => e = .returned (.bool (itemB s)) ∧ w' = w := by
  by_cases h1 : 0 ≤ s
  · by_cases h2 : s ≤ 7
    all_goals
      go_enter Try.func81, Try.ntmps81
      go_wp2
      go_ret
      exact ⟨by simp [itemB, h1, h2], rfl⟩
  · go_enter Try.func81, Try.ntmps81
    go_wp2
    go_ret
    exact ⟨by simp only [itemB]; congr 2; simp; omega, rfl⟩

set_option maxHeartbeats 400000 in
theorem l1Set_any (s : Int) (w : World) :
    Calls Try.prog 78 #[.int .i64 s] w fun e w' => e = .returned (.bool (setB s)) ∧ w' = w := by
  go_enter Try.func78, Try.ntmps78
  go_wp2_with (go_at_call 30; refine (l1In_any _ _ _ _).mono ?_; rintro e w' ⟨rfl, rfl⟩)
  go_ret
  exact ⟨rfl, rfl⟩

set_option maxHeartbeats 400000 in
theorem l1Item_any (s : Int) (w : World) :
    Calls Try.prog 79 #[.int .i64 s] w fun e w' => e = .returned (.bool (itemB s)) ∧ w' = w := by
  go_enter Try.func79, Try.ntmps79
  go_wp2_with (go_at_call 30; refine (l1In_any _ _ _ _).mono ?_; rintro e w' ⟨rfl, rfl⟩)
  go_ret
  exact ⟨rfl, rfl⟩

theorem pow_small (i : Int) (h1 : 0 ≤ i) (h2 : i ≤ 7) : wrap64 (2 ^ i.toNat) = 2 ^ i.toNat := by
  have h : i = 0 ∨ i = 1 ∨ i = 2 ∨ i = 3 ∨ i = 4 ∨ i = 5 ∨ i = 6 ∨ i = 7 := by omega
  rcases h with rfl | rfl | rfl | rfl | rfl | rfl | rfl | rfl <;> decide +kernel

set_option maxHeartbeats 400000 in
theorem bitOf_any (i : Int) (w : World) (h1 : 0 ≤ i) (h2 : i ≤ 7) :
    Calls Try.prog 82 #[.int .i64 i] w fun e w' => e = .returned (.int .i64 (2 ^ i.toNat)) ∧ w' = w := by
  go_enter Try.func82, Try.ntmps82
  go_wp2
  go_ret
  exact ⟨ret_int (pow_small i h1 h2), rfl⟩

def memB (s i : Int) : Bool := (s / 2 ^ i.toNat) % 2 == 1
def inB (s i : Int) : Bool := setB s && itemB i && memB s i

theorem and_fin : ∀ s : Fin 256, ∀ i : Fin 8, (bits BinOp.and IntKind.i64 (s.val : Int) (2 ^ (i.val : Int).toNat) != 0) = memB (s.val : Int) (i.val : Int) := by
  decide +kernel
theorem and_mem (s i : Int) (h7 : 0 ≤ s) (h8 : s ≤ 255) (h5 : 0 ≤ i) (h6 : i ≤ 7) :
    (bits BinOp.and IntKind.i64 s (2 ^ i.toNat) != 0) = memB s i := by
  have := and_fin ⟨s.toNat, by omega⟩ ⟨i.toNat, by omega⟩
  simpa [Int.toNat_of_nonneg h7, Int.toNat_of_nonneg h5] using this
theorem tmod_mem (s i : Int) (h7 : 0 ≤ s) : ((s / 2 ^ i.toNat).tmod 2 == 1) = memB s i := by
  unfold memB
  rw [Int.tmod_eq_emod_of_nonneg (Int.ediv_nonneg h7 (Int.pow_nonneg (by decide)))]

theorem setB_bd {s : Int} (h : setB s = true) : 0 ≤ s ∧ s ≤ 255 := by simpa [setB] using h
theorem itemB_bd {i : Int} (h : itemB i = true) : 0 ≤ i ∧ i ≤ 7 := by simpa [itemB] using h

set_option maxHeartbeats 400000 in
theorem has_any (s i : Int) (w : World) :
    Calls Try.prog 72 #[.int .i64 s, .int .i64 i] w fun e w' => e = .returned (.bool (inB s i)) ∧ w' = w := by
  cases h1 : setB s
  · have H : Hid (inB s i = false) := by unfold Hid; simp [inB, h1]
    go_enter Try.func72, Try.ntmps72
    go_wp2_with (go_at_call 80; refine (ok_any _ _).mono ?_; rintro e w' ⟨rfl, rfl⟩)
    go_ret
    exact ⟨ret_bool H.out.symm, rfl⟩
  · cases h2 : itemB i
    · have H : Hid (inB s i = false) := by unfold Hid; simp [inB, h2]
      go_enter Try.func72, Try.ntmps72
      go_wp2_with (first
        | (go_at_call 80; refine (ok_any _ _).mono ?_; rintro e w' ⟨rfl, rfl⟩)
        | (go_at_call 81; refine (number_any _ _).mono ?_; rintro e w' ⟨rfl, rfl⟩))
      go_ret
      exact ⟨ret_bool H.out.symm, rfl⟩
    · obtain ⟨h5, h6⟩ := itemB_bd h2
      obtain ⟨h7, h8⟩ := setB_bd h1
      have H : Hid (inB s i = (bits BinOp.and IntKind.i64 s (2 ^ i.toNat) != 0)) := by unfold Hid; rw [and_mem s i h7 h8 h5 h6]; simp [inB, h1, h2]
      go_enter Try.func72, Try.ntmps72
      go_wp2_with (first
        | (go_at_call 80; refine (ok_any _ _).mono ?_; rintro e w' ⟨rfl, rfl⟩)
        | (go_at_call 81; refine (number_any _ _).mono ?_; rintro e w' ⟨rfl, rfl⟩)
        | (go_at_call 82; refine (bitOf_any _ _ h5 h6).mono ?_; rintro e w' ⟨rfl, rfl⟩))
      go_ret
      exact ⟨ret_bool H.out.symm, rfl⟩

set_option maxHeartbeats 400000 in
theorem specIn_any (s i : Int) (w : World) :
    Calls Try.prog 70 #[.int .i64 s, .int .i64 i] w fun e w' => e = .returned (.bool (inB s i)) ∧ w' = w := by
  cases h1 : setB s
  · have H : Hid (inB s i = false) := by unfold Hid; simp [inB, h1]
    go_enter Try.func70, Try.ntmps70
    go_wp2_with (go_at_call 78; refine (l1Set_any _ _).mono ?_; rintro e w' ⟨rfl, rfl⟩)
    go_ret
    exact ⟨ret_bool H.out.symm, rfl⟩
  · cases h2 : itemB i
    · have H : Hid (inB s i = false) := by unfold Hid; simp [inB, h2]
      go_enter Try.func70, Try.ntmps70
      go_wp2_with (first
        | (go_at_call 78; refine (l1Set_any _ _).mono ?_; rintro e w' ⟨rfl, rfl⟩)
        | (go_at_call 79; refine (l1Item_any _ _).mono ?_; rintro e w' ⟨rfl, rfl⟩))
      go_ret
      exact ⟨ret_bool H.out.symm, rfl⟩
    · obtain ⟨h5, h6⟩ := itemB_bd h2
      obtain ⟨h7, h8⟩ := setB_bd h1
      have H : Hid (inB s i = ((s / 2 ^ i.toNat).tmod 2 == 1)) := by unfold Hid; rw [tmod_mem s i h7]; simp [inB, h1, h2]
      go_enter Try.func70, Try.ntmps70
      go_wp2_with (first
        | (go_at_call 78; refine (l1Set_any _ _).mono ?_; rintro e w' ⟨rfl, rfl⟩)
        | (go_at_call 79; refine (l1Item_any _ _).mono ?_; rintro e w' ⟨rfl, rfl⟩))
      go_ret
      exact ⟨ret_bool H.out.symm, rfl⟩


end Go.Proofs.Ytcnnojfkpkmdmaa
