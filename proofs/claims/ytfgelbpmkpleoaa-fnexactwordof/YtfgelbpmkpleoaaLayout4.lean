/- The contracts of sets and addresses of a line, of the program and of its specification. No condition. -/
import Derived.Test.YtfgelbpmkpleoaaLayout3
namespace Go.Proofs.Ytfgelbpmkpleoaa
open Go.ChangeShapes Go.WideShapes Go.ChangeAt Go.RowKit

theorem lineB_true {c s y l k : Int} (h : lineB c s y l k = true) : 0 ≤ k ∧ k < l ∧ l ≤ 16 ∧ (s = 1 ∨ s = 2 ∨ s = 4) := by
  simp [lineB] at h
  have := code_zero h.1
  omega

set_option maxHeartbeats 400000 in
theorem wordOk_any (a : Int) (w : World) :
    Calls Try.prog 30 #[.int .i64 a] w fun e w' => e = .returned (.bool (betw a 0 1)) ∧ w' = w := by
  go_enter Try.func30, Try.ntmps30
  go_wp2_with (go_at_call 38; refine (between_any _ _ _ _).mono ?_; rintro e w' ⟨rfl, rfl⟩)
  go_ret
  exact ⟨rfl, rfl⟩

set_option maxHeartbeats 400000 in
theorem implSet_any (c s y l k : Int) (w : World) :
    Calls Try.prog 16 #[.agg #[.int .i64 c, .int .i64 s, .int .i64 y, .int .i64 l], .int .i64 k] w fun e w' => e = .returned (.int .i64 (setI c s y l k)) ∧ Below w.heap.size w w' := by
  have B := (Below.refl w.heap.size w).alloc (Nat.le_refl _)
  cases hb : lineB c s y l k
  · go_enter Try.func16, Try.ntmps16
    go_wp2_with (go_at_call 29; refine (hasLine_any _ _ _ _ _ _).mono ?_; rintro e w1 ⟨rfl, b1⟩)
    go_ret
    exact ⟨ret_int (by simp [setI, hb]), below_step (B _) b1⟩
  · obtain ⟨h1, h2, h3, h4⟩ := lineB_true hb
    have h5 : (s == 0) = false := by simp; omega
    have h6 : 0 < s := by omega
    have h7 : s ≤ 4 := by omega
    clear h4
    go_enter Try.func16, Try.ntmps16
    go_wp2_with fail
    refine (hasLine_any _ _ _ _ _ _).mono ?_
    rintro e w1 ⟨rfl, b1⟩
    obtain ⟨c0, c1, c2, c3⟩ := box4 b1
    go_wp2
    go_ret
    exact ⟨ret_int (by simp [setI, hb]), below_step (B _) b1⟩

set_option maxHeartbeats 400000 in
theorem specSet_any (c s y l k : Int) (w : World) :
    Calls Try.prog 21 #[.agg #[.int .i64 c, .int .i64 s, .int .i64 y, .int .i64 l], .int .i64 k] w fun e w' => e = .returned (.int .i64 (setI c s y l k)) ∧ Below w.heap.size w w' := by
  have B := (Below.refl w.heap.size w).alloc (Nat.le_refl _)
  by_cases h0 : codeI c s y l = 0
  · obtain ⟨hl, hs⟩ := code_zero h0
    have h0' : (codeI c s y l != 0) = false := by simp [h0]
    have h5 : (s == 0) = false := by simp; omega
    have h6 : 0 < s := by omega
    have h7 : s ≤ 4 := by omega
    have HL : Hid (lineB c s y l k = betw k 0 (l - 1)) := lineB_eq h0
    clear h0 hs
    by_cases h1 : 0 ≤ k
    · by_cases h2 : k < l
      · go_enter Try.func21, Try.ntmps21
        go_wp2_with fail
        refine (specCode_any _ _ _ _ _).mono ?_
        rintro e w1 ⟨rfl, b1⟩
        obtain ⟨c0, c1, c2, c3⟩ := box4 b1
        go_wp2
        go_ret
        exact ⟨ret_int (by rw [setI, HL.out, if_pos (by simp [betw]; omega)]), below_step (B _) b1⟩
      · go_enter Try.func21, Try.ntmps21
        go_wp2_with fail
        refine (specCode_any _ _ _ _ _).mono ?_
        rintro e w1 ⟨rfl, b1⟩
        obtain ⟨c0, c1, c2, c3⟩ := box4 b1
        go_wp2
        go_ret
        exact ⟨ret_int (by rw [setI, HL.out, if_neg (by simp [betw]; omega)]), below_step (B _) b1⟩
    · go_enter Try.func21, Try.ntmps21
      go_wp2_with (go_at_call 23; refine (specCode_any _ _ _ _ _).mono ?_; rintro e w1 ⟨rfl, b1⟩)
      go_ret
      exact ⟨ret_int (by rw [setI, HL.out, if_neg (by simp [betw]; omega)]), below_step (B _) b1⟩
  · have h0' : (codeI c s y l != 0) = true := by simp [h0]
    have HL : Hid (lineB c s y l k = false) := lineB_ne h0
    clear h0
    go_enter Try.func21, Try.ntmps21
    go_wp2_with (go_at_call 23; refine (specCode_any _ _ _ _ _).mono ?_; rintro e w1 ⟨rfl, b1⟩)
    go_ret
    exact ⟨ret_int (by simp [setI, HL.out]), below_step (B _) b1⟩

set_option maxHeartbeats 400000 in
theorem implAddr_any (c s y l k x : Int) (w : World) :
    Calls Try.prog 14 #[.agg #[.int .i64 c, .int .i64 s, .int .i64 y, .int .i64 l], .int .i64 k, .int .i64 x] w fun e w' => e = .returned (.int .i64 (addrI c s y l k x)) ∧ Below w.heap.size w w' := by
  have B := (Below.refl w.heap.size w).alloc (Nat.le_refl _)
  cases hb : lineB c s y l k
  · go_enter Try.func14, Try.ntmps14
    go_wp2_with (go_at_call 29; refine (hasLine_any _ _ _ _ _ _).mono ?_; rintro e w1 ⟨rfl, b1⟩)
    go_ret
    exact ⟨ret_int (by simp [addrI, hb]), below_step (B _) b1⟩
  · obtain ⟨h1, h2, h3, h4⟩ := lineB_true hb
    clear h4
    cases hx : betw x 0 1
    · go_enter Try.func14, Try.ntmps14
      go_wp2_with (first
        | (go_at_call 29; refine (hasLine_any _ _ _ _ _ _).mono ?_; rintro e w1 ⟨rfl, b1⟩)
        | (go_at_call 30; refine (wordOk_any _ _).mono ?_; rintro e w' ⟨rfl, rfl⟩))
      go_ret
      exact ⟨ret_int (by simp [addrI, hb, hx]), below_step (B _) b1⟩
    · have hx' : 0 ≤ x ∧ x ≤ 1 := by simpa [betw] using hx
      go_enter Try.func14, Try.ntmps14
      go_wp2_with (first
        | (go_at_call 29; refine (hasLine_any _ _ _ _ _ _).mono ?_; rintro e w1 ⟨rfl, b1⟩)
        | (go_at_call 30; refine (wordOk_any _ _).mono ?_; rintro e w' ⟨rfl, rfl⟩))
      go_ret
      exact ⟨ret_int (by simp [addrI, hb, hx]; omega), below_step (B _) b1⟩

set_option maxHeartbeats 400000 in
theorem specAddr_any (c s y l k x : Int) (w : World) :
    Calls Try.prog 20 #[.agg #[.int .i64 c, .int .i64 s, .int .i64 y, .int .i64 l], .int .i64 k, .int .i64 x] w fun e w' => e = .returned (.int .i64 (addrI c s y l k x)) ∧ Below w.heap.size w w' := by
  have B := (Below.refl w.heap.size w).alloc (Nat.le_refl _)
  by_cases h0 : codeI c s y l = 0
  · obtain ⟨hl, hs⟩ := code_zero h0
    have h0' : (codeI c s y l != 0) = false := by simp [h0]
    have HL : Hid (lineB c s y l k = betw k 0 (l - 1)) := lineB_eq h0
    clear h0 hs
    by_cases h1 : 0 ≤ k
    · by_cases h2 : k < l
      · have HK : Hid (betw k 0 (l - 1) = true) := by unfold Hid; simp [betw]; omega
        cases hx : betw x 0 1
        · go_enter Try.func20, Try.ntmps20
          go_wp2_with fail
          refine (specCode_any _ _ _ _ _).mono ?_
          rintro e w1 ⟨rfl, b1⟩
          obtain ⟨c0, c1, c2, c3⟩ := box4 b1
          go_wp2_with (go_at_call 32; refine (l1In_any _ _ _ _).mono ?_; rintro e w' ⟨rfl, rfl⟩)
          go_ret
          exact ⟨ret_int (by simp [addrI, hx]), below_step (B _) b1⟩
        · have hx' : 0 ≤ x ∧ x ≤ 1 := by simpa [betw] using hx
          go_enter Try.func20, Try.ntmps20
          go_wp2_with fail
          refine (specCode_any _ _ _ _ _).mono ?_
          rintro e w1 ⟨rfl, b1⟩
          obtain ⟨c0, c1, c2, c3⟩ := box4 b1
          go_wp2_with (go_at_call 32; refine (l1In_any _ _ _ _).mono ?_; rintro e w' ⟨rfl, rfl⟩)
          go_ret
          exact ⟨ret_int (by simp [addrI, hx, HL.out, HK.out]), below_step (B _) b1⟩
      · go_enter Try.func20, Try.ntmps20
        go_wp2_with fail
        refine (specCode_any _ _ _ _ _).mono ?_
        rintro e w1 ⟨rfl, b1⟩
        obtain ⟨c0, c1, c2, c3⟩ := box4 b1
        go_wp2
        go_ret
        exact ⟨ret_int (by rw [addrI, HL.out, if_neg (by simp [betw]; omega)]), below_step (B _) b1⟩
    · go_enter Try.func20, Try.ntmps20
      go_wp2_with (go_at_call 23; refine (specCode_any _ _ _ _ _).mono ?_; rintro e w1 ⟨rfl, b1⟩)
      go_ret
      exact ⟨ret_int (by rw [addrI, HL.out, if_neg (by simp [betw]; omega)]), below_step (B _) b1⟩
  · have h0' : (codeI c s y l != 0) = true := by simp [h0]
    have HL : Hid (lineB c s y l k = false) := lineB_ne h0
    clear h0
    go_enter Try.func20, Try.ntmps20
    go_wp2_with (go_at_call 23; refine (specCode_any _ _ _ _ _).mono ?_; rintro e w1 ⟨rfl, b1⟩)
    go_ret
    exact ⟨ret_int (by simp [addrI, HL.out]), below_step (B _) b1⟩

end Go.Proofs.Ytfgelbpmkpleoaa
