/- The contracts of the trees' smallest functions: whether it is a tree, of the program and of its specification; the bit of a pair, the other one, what a bit tells. No condition but that a bit's number is from 0 to 7. -/
import Derived.Test.YtfpbchohfkbpbabChange
import Derived.Test.YtfpbchohfkbpbabPow
namespace Go.Proofs.Ytfpbchohfkbpbab
open Go.ChangeShapes Go.WideShapes Go.ChangeAt Go.RowKit

def treeB (t n : Int) : Bool := decide ((n = 1 ∧ t = 0) ∨ (n = 2 ∧ 0 ≤ t ∧ t ≤ 1) ∨ (n = 4 ∧ 0 ≤ t ∧ t ≤ 7))

set_option maxHeartbeats 400000 in
theorem lastTree_1 (w : World) : Calls Try.prog 74 #[.int .i64 1] w fun e w' => e = .returned (.int .i64 0) ∧ w' = w := by
  go_enter Try.func74, Try.ntmps74
  go_wp2
  go_ret
  exact ⟨rfl, rfl⟩
set_option maxHeartbeats 400000 in
theorem lastTree_2 (w : World) : Calls Try.prog 74 #[.int .i64 2] w fun e w' => e = .returned (.int .i64 1) ∧ w' = w := by
  go_enter Try.func74, Try.ntmps74
  go_wp2
  go_ret
  exact ⟨rfl, rfl⟩
set_option maxHeartbeats 400000 in
theorem lastTree_4 (w : World) : Calls Try.prog 74 #[.int .i64 4] w fun e w' => e = .returned (.int .i64 7) ∧ w' = w := by
  go_enter Try.func74, Try.ntmps74
  go_wp2
  go_ret
  exact ⟨rfl, rfl⟩

set_option maxHeartbeats 400000 in
theorem implTreeOk_any (t n : Int) (w : World) :
    Calls Try.prog 65 #[.int .i64 t, .int .i64 n] w fun e w' => e = .returned (.bool (treeB t n)) ∧ w' = w := by
  cases h : powB n
  · have H : Hid (treeB t n = false) := by
      unfold Hid
      simp [powB] at h
      simp [treeB]
      omega
    go_enter Try.func65, Try.ntmps65
    go_wp2_with (go_at_call 64; refine (sizeOk_any _ _).mono ?_; rintro e w' ⟨rfl, rfl⟩)
    go_ret
    exact ⟨ret_bool H.out.symm, rfl⟩
  · have h3 : n = 1 ∨ n = 2 ∨ n = 4 := by simpa [powB] using h
    rcases h3 with rfl | rfl | rfl
    · have H : Hid (treeB t 1 = betw t 0 0) := by
        unfold Hid
        rw [Bool.eq_iff_iff]
        simp [treeB, betw]
        omega
      go_enter Try.func65, Try.ntmps65
      go_wp2_with (first
        | (go_at_call 64; refine (sizeOk_any _ _).mono ?_; rintro e w' ⟨rfl, rfl⟩)
        | (go_at_call 74; refine (lastTree_1 _).mono ?_; rintro e w' ⟨rfl, rfl⟩)
        | (go_at_call 59; refine (between_any _ _ _ _).mono ?_; rintro e w' ⟨rfl, rfl⟩))
      go_ret
      exact ⟨ret_bool H.out.symm, rfl⟩
    · have H : Hid (treeB t 2 = betw t 0 1) := by
        unfold Hid
        rw [Bool.eq_iff_iff]
        simp [treeB, betw]
      go_enter Try.func65, Try.ntmps65
      go_wp2_with (first
        | (go_at_call 64; refine (sizeOk_any _ _).mono ?_; rintro e w' ⟨rfl, rfl⟩)
        | (go_at_call 74; refine (lastTree_2 _).mono ?_; rintro e w' ⟨rfl, rfl⟩)
        | (go_at_call 59; refine (between_any _ _ _ _).mono ?_; rintro e w' ⟨rfl, rfl⟩))
      go_ret
      exact ⟨ret_bool H.out.symm, rfl⟩
    · have H : Hid (treeB t 4 = betw t 0 7) := by
        unfold Hid
        rw [Bool.eq_iff_iff]
        simp [treeB, betw]
      go_enter Try.func65, Try.ntmps65
      go_wp2_with (first
        | (go_at_call 64; refine (sizeOk_any _ _).mono ?_; rintro e w' ⟨rfl, rfl⟩)
        | (go_at_call 74; refine (lastTree_4 _).mono ?_; rintro e w' ⟨rfl, rfl⟩)
        | (go_at_call 59; refine (between_any _ _ _ _).mono ?_; rintro e w' ⟨rfl, rfl⟩))
      go_ret
      exact ⟨ret_bool H.out.symm, rfl⟩

set_option maxHeartbeats 400000 in
theorem specTreeOk_any (t n : Int) (w : World) :
    Calls Try.prog 40 #[.int .i64 t, .int .i64 n] w fun e w' => e = .returned (.bool (treeB t n)) ∧ w' = w := by
  by_cases h1 : n = 1
  · subst h1
    have H : Hid (treeB t 1 = (t == 0)) := by
      unfold Hid
      rw [Bool.eq_iff_iff]
      simp [treeB]
    go_enter Try.func40, Try.ntmps40
    go_wp2_with fail
    go_ret
    exact ⟨ret_bool H.out.symm, rfl⟩
  by_cases h2 : n = 2
  · subst h2
    have H : Hid (treeB t 2 = betw t 0 1) := by
      unfold Hid
      rw [Bool.eq_iff_iff]
      simp [treeB, betw]
    go_enter Try.func40, Try.ntmps40
    go_wp2_with (go_at_call 32; refine (l1In_any _ _ _ _).mono ?_; rintro e w' ⟨rfl, rfl⟩)
    go_ret
    exact ⟨ret_bool H.out.symm, rfl⟩
  by_cases h4 : n = 4
  · subst h4
    have H : Hid (treeB t 4 = betw t 0 7) := by
      unfold Hid
      rw [Bool.eq_iff_iff]
      simp [treeB, betw]
    go_enter Try.func40, Try.ntmps40
    go_wp2_with (go_at_call 32; refine (l1In_any _ _ _ _).mono ?_; rintro e w' ⟨rfl, rfl⟩)
    go_ret
    exact ⟨ret_bool H.out.symm, rfl⟩
  have H : Hid (treeB t n = false) := by
    unfold Hid
    simp [treeB]
    omega
  go_enter Try.func40, Try.ntmps40
  go_wp2_with fail
  go_ret
  exact ⟨ret_bool H.out.symm, rfl⟩

def otherI (x : Int) : Int := bits BinOp.xor IntKind.i64 x 1
set_option maxHeartbeats 400000 in
theorem otherOf_at (x y : Int) (h : otherI x = y) (w : World) :
    Calls Try.prog 80 #[.int .i64 x] w fun e w' => e = .returned (.int .i64 y) ∧ w' = w := by
  have H : Hid _ := h
  clear h
  go_enter Try.func80, Try.ntmps80
  go_wp2
  go_ret
  exact ⟨ret_int H.out, rfl⟩

set_option maxHeartbeats 400000 in
theorem bitOfPair_at (n p y : Int) (h : (n = 2 ∧ p = 0 ∧ y = 0) ∨ (n = 4 ∧ p = 0 ∧ y = 1) ∨ (n = 4 ∧ p = 1 ∧ y = 2)) (w : World) :
    Calls Try.prog 78 #[.int .i64 n, .int .i64 p] w fun e w' => e = .returned (.int .i64 y) ∧ w' = w := by
  rcases h with ⟨rfl, rfl, rfl⟩ | ⟨rfl, rfl, rfl⟩ | ⟨rfl, rfl, rfl⟩
  all_goals
    go_enter Try.func78, Try.ntmps78
    go_wp2
    go_ret
    exact ⟨rfl, rfl⟩

def toldI (t b : Int) : Int := if inB t b then 1 else 0
set_option maxHeartbeats 400000 in
theorem toldBy_at (t b y : Int) (h : toldI t b = y) (w : World) :
    Calls Try.prog 77 #[.int .i64 t, .int .i64 b] w fun e w' => e = .returned (.int .i64 y) ∧ w' = w := by
  unfold toldI at h
  cases h1 : inB t b
  all_goals
    rw [h1] at h
    subst h
    go_enter Try.func77, Try.ntmps77
    go_wp2_with (go_at_call 79; refine (has_any _ _ _).mono ?_; rintro e w' ⟨rfl, rfl⟩)
    go_ret
    exact ⟨rfl, rfl⟩

def telI (t b o : Int) : Int := if o = 0 then andNotI t b else orI t b


end Go.Proofs.Ytfpbchohfkbpbab
