/- The contracts of the trees' smallest functions: whether it is a tree, of the program and of its specification; the bit of a pair, the other one, what a bit tells. No condition but that a bit's number is from 0 to 7. -/
import Derived.Test.YtmldilmiihafoaaChange
import Derived.Test.YtmldilmiihafoaaPow
namespace Go.Proofs.Ytmldilmiihafoaa
open Go.ChangeShapes Go.WideShapes Go.ChangeAt Go.RowKit

def treeB (t n : Int) : Bool := decide ((n = 1 ∧ t = 0) ∨ (n = 2 ∧ 0 ≤ t ∧ t ≤ 1) ∨ (n = 4 ∧ 0 ≤ t ∧ t ≤ 7))

set_option maxHeartbeats 400000 in
theorem lastTree_1 (w : World) : Calls Try.prog 109 #[.int .i64 1] w fun e w' => e = .returned (.int .i64 0) ∧ w' = w := by
  go_enter Try.func109, Try.ntmps109
  go_wp2
  go_ret
  exact ⟨rfl, rfl⟩
set_option maxHeartbeats 400000 in
theorem lastTree_2 (w : World) : Calls Try.prog 109 #[.int .i64 2] w fun e w' => e = .returned (.int .i64 1) ∧ w' = w := by
  go_enter Try.func109, Try.ntmps109
  go_wp2
  go_ret
  exact ⟨rfl, rfl⟩
set_option maxHeartbeats 400000 in
theorem lastTree_4 (w : World) : Calls Try.prog 109 #[.int .i64 4] w fun e w' => e = .returned (.int .i64 7) ∧ w' = w := by
  go_enter Try.func109, Try.ntmps109
  go_wp2
  go_ret
  exact ⟨rfl, rfl⟩

set_option maxHeartbeats 400000 in
theorem implTreeOk_any (t n : Int) (w : World) :
    Calls Try.prog 94 #[.int .i64 t, .int .i64 n] w fun e w' => e = .returned (.bool (treeB t n)) ∧ w' = w := by
  cases h : powB n
  · have H : Hid (treeB t n = false) := by
      unfold Hid
      simp [powB] at h
      simp [treeB]
      omega
    go_enter Try.func94, Try.ntmps94
    go_wp2_with (go_at_call 50; refine (sizeOk_any _ _).mono ?_; rintro e w' ⟨rfl, rfl⟩)
    go_ret
    exact ⟨ret_bool H.out.symm, rfl⟩
  · have h3 : n = 1 ∨ n = 2 ∨ n = 4 := by simpa [powB] using h
    rcases h3 with rfl | rfl | rfl
    · have H : Hid (treeB t 1 = betw t 0 0) := by
        unfold Hid
        rw [Bool.eq_iff_iff]
        simp [treeB, betw]
        omega
      go_enter Try.func94, Try.ntmps94
      go_wp2_with (first
        | (go_at_call 50; refine (sizeOk_any _ _).mono ?_; rintro e w' ⟨rfl, rfl⟩)
        | (go_at_call 109; refine (lastTree_1 _).mono ?_; rintro e w' ⟨rfl, rfl⟩)
        | (go_at_call 86; refine (between_any _ _ _ _).mono ?_; rintro e w' ⟨rfl, rfl⟩))
      go_ret
      exact ⟨ret_bool H.out.symm, rfl⟩
    · have H : Hid (treeB t 2 = betw t 0 1) := by
        unfold Hid
        rw [Bool.eq_iff_iff]
        simp [treeB, betw]
      go_enter Try.func94, Try.ntmps94
      go_wp2_with (first
        | (go_at_call 50; refine (sizeOk_any _ _).mono ?_; rintro e w' ⟨rfl, rfl⟩)
        | (go_at_call 109; refine (lastTree_2 _).mono ?_; rintro e w' ⟨rfl, rfl⟩)
        | (go_at_call 86; refine (between_any _ _ _ _).mono ?_; rintro e w' ⟨rfl, rfl⟩))
      go_ret
      exact ⟨ret_bool H.out.symm, rfl⟩
    · have H : Hid (treeB t 4 = betw t 0 7) := by
        unfold Hid
        rw [Bool.eq_iff_iff]
        simp [treeB, betw]
      go_enter Try.func94, Try.ntmps94
      go_wp2_with (first
        | (go_at_call 50; refine (sizeOk_any _ _).mono ?_; rintro e w' ⟨rfl, rfl⟩)
        | (go_at_call 109; refine (lastTree_4 _).mono ?_; rintro e w' ⟨rfl, rfl⟩)
        | (go_at_call 86; refine (between_any _ _ _ _).mono ?_; rintro e w' ⟨rfl, rfl⟩))
      go_ret
      exact ⟨ret_bool H.out.symm, rfl⟩

set_option maxHeartbeats 400000 in
theorem specTreeOk_any (t n : Int) (w : World) :
    Calls Try.prog 57 #[.int .i64 t, .int .i64 n] w fun e w' => e = .returned (.bool (treeB t n)) ∧ w' = w := by
  by_cases h1 : n = 1
  · subst h1
    have H : Hid (treeB t 1 = (t == 0)) := by
      unfold Hid
      rw [Bool.eq_iff_iff]
      simp [treeB]
    go_enter Try.func57, Try.ntmps57
    go_wp2_with fail
    go_ret
    exact ⟨ret_bool H.out.symm, rfl⟩
  by_cases h2 : n = 2
  · subst h2
    have H : Hid (treeB t 2 = betw t 0 1) := by
      unfold Hid
      rw [Bool.eq_iff_iff]
      simp [treeB, betw]
    go_enter Try.func57, Try.ntmps57
    go_wp2_with (go_at_call 68; refine (l1In_any _ _ _ _).mono ?_; rintro e w' ⟨rfl, rfl⟩)
    go_ret
    exact ⟨ret_bool H.out.symm, rfl⟩
  by_cases h4 : n = 4
  · subst h4
    have H : Hid (treeB t 4 = betw t 0 7) := by
      unfold Hid
      rw [Bool.eq_iff_iff]
      simp [treeB, betw]
    go_enter Try.func57, Try.ntmps57
    go_wp2_with (go_at_call 68; refine (l1In_any _ _ _ _).mono ?_; rintro e w' ⟨rfl, rfl⟩)
    go_ret
    exact ⟨ret_bool H.out.symm, rfl⟩
  have H : Hid (treeB t n = false) := by
    unfold Hid
    simp [treeB]
    omega
  go_enter Try.func57, Try.ntmps57
  go_wp2_with fail
  go_ret
  exact ⟨ret_bool H.out.symm, rfl⟩

def otherI (x : Int) : Int := bits BinOp.xor IntKind.i64 x 1
set_option maxHeartbeats 400000 in
theorem otherOf_at (x y : Int) (h : otherI x = y) (w : World) :
    Calls Try.prog 116 #[.int .i64 x] w fun e w' => e = .returned (.int .i64 y) ∧ w' = w := by
  have H : Hid _ := h
  clear h
  go_enter Try.func116, Try.ntmps116
  go_wp2
  go_ret
  exact ⟨ret_int H.out, rfl⟩

set_option maxHeartbeats 400000 in
theorem bitOfPair_at (n p y : Int) (h : (n = 2 ∧ p = 0 ∧ y = 0) ∨ (n = 4 ∧ p = 0 ∧ y = 1) ∨ (n = 4 ∧ p = 1 ∧ y = 2)) (w : World) :
    Calls Try.prog 117 #[.int .i64 n, .int .i64 p] w fun e w' => e = .returned (.int .i64 y) ∧ w' = w := by
  rcases h with ⟨rfl, rfl, rfl⟩ | ⟨rfl, rfl, rfl⟩ | ⟨rfl, rfl, rfl⟩
  all_goals
    go_enter Try.func117, Try.ntmps117
    go_wp2
    go_ret
    exact ⟨rfl, rfl⟩

def toldI (t b : Int) : Int := if inB t b then 1 else 0
set_option maxHeartbeats 400000 in
theorem toldBy_at (t b y : Int) (h : toldI t b = y) (w : World) :
    Calls Try.prog 118 #[.int .i64 t, .int .i64 b] w fun e w' => e = .returned (.int .i64 y) ∧ w' = w := by
  unfold toldI at h
  cases h1 : inB t b
  all_goals
    rw [h1] at h
    subst h
    go_enter Try.func118, Try.ntmps118
    go_wp2_with (go_at_call 119; refine (has_any _ _ _).mono ?_; rintro e w' ⟨rfl, rfl⟩)
    go_ret
    exact ⟨rfl, rfl⟩

def telI (t b o : Int) : Int := if o = 0 then andNotI t b else orI t b
set_option maxHeartbeats 400000 in
theorem telling_in (t b o : Int) (h5 : 0 ≤ b) (h6 : b ≤ 7) (w : World) :
    Calls Try.prog 115 #[.int .i64 t, .int .i64 b, .int .i64 o] w fun e w' => e = .returned (.int .i64 (telI t b o)) ∧ w' = w := by
  by_cases h : o = 0
  · have H : Hid (telI t b o = andNotI t b) := by unfold Hid; simp [telI, h]
    go_enter Try.func115, Try.ntmps115
    go_wp2_with (go_at_call 121; refine (without_in _ _ _ h5 h6).mono ?_; rintro e w' ⟨rfl, rfl⟩)
    go_ret
    exact ⟨ret_int H.out.symm, rfl⟩
  · have H : Hid (telI t b o = orI t b) := by unfold Hid; simp [telI, h]
    go_enter Try.func115, Try.ntmps115
    go_wp2_with (go_at_call 122; refine (with_in _ _ _ h5 h6).mono ?_; rintro e w' ⟨rfl, rfl⟩)
    go_ret
    exact ⟨ret_int H.out.symm, rfl⟩

set_option maxHeartbeats 400000 in
theorem wayOk_at (n y : Int) (h : n = 1 ∨ n = 2 ∨ n = 4) (w : World) :
    Calls Try.prog 107 #[.int .i64 n, .int .i64 y] w fun e w' => e = .returned (.bool (betw y 0 (n - 1))) ∧ w' = w := by
  rcases h with rfl | rfl | rfl
  all_goals
    go_enter Try.func107, Try.ntmps107
    go_wp2_with (go_at_call 86; refine (between_any _ _ _ _).mono ?_; rintro e w' ⟨rfl, rfl⟩)
    go_ret
    exact ⟨rfl, rfl⟩

end Go.Proofs.Ytmldilmiihafoaa
