/- The contracts of lines and words of an address, of the program and of its specification. No condition. -/
import Derived.Test.YtfgelbpmkpleoaaLayout2
namespace Go.Proofs.Ytfgelbpmkpleoaa
open Go.ChangeShapes Go.WideShapes Go.ChangeAt Go.RowKit

theorem box4 {w w1 : World} {v0 v1 v2 v3 : Value} {t : TypeId} (h : Below (w.alloc (.cells #[v0, v1, v2, v3] t)).heap.size (w.alloc (.cells #[v0, v1, v2, v3] t)) w1) :
    w1.cell? ⟨w.heap.size, 0, none⟩ = some v0 ∧ w1.cell? ⟨w.heap.size, 1, none⟩ = some v1 ∧ w1.cell? ⟨w.heap.size, 2, none⟩ = some v2 ∧ w1.cell? ⟨w.heap.size, 3, none⟩ = some v3 :=
  ⟨box_cell h 0, box_cell h 1, box_cell h 2, box_cell h 3⟩

theorem addrB_eq {c s y l a : Int} (h : codeI c s y l = 0) : addrB c s y l a = betw a 0 (2 * l - 1) := by
  unfold addrB betw
  simp only [h, true_and]
  rw [Bool.eq_iff_iff]
  simp
  omega
theorem lineB_eq {c s y l a : Int} (h : codeI c s y l = 0) : lineB c s y l a = betw a 0 (l - 1) := by
  unfold lineB betw
  simp only [h, true_and]
  rw [Bool.eq_iff_iff]
  simp
  omega
theorem addrB_ne {c s y l a : Int} (h : ¬ codeI c s y l = 0) : addrB c s y l a = false := by simp [addrB, h]
theorem lineB_ne {c s y l a : Int} (h : ¬ codeI c s y l = 0) : lineB c s y l a = false := by simp [lineB, h]

set_option maxHeartbeats 400000 in
theorem l2Addr_any (c s y l a : Int) (w : World) (hl : 1 ≤ l ∧ l ≤ 16) :
    Calls Try.prog 31 #[.agg #[.int .i64 c, .int .i64 s, .int .i64 y, .int .i64 l], .int .i64 a] w fun e w' => e = .returned (.bool (betw a 0 (2 * l - 1))) ∧ Below w.heap.size w w' := by
  have B := (Below.refl w.heap.size w).alloc (Nat.le_refl _)
  by_cases h1 : 0 ≤ a
  · by_cases h2 : a < 2 * l
    all_goals
      go_enter Try.func31, Try.ntmps31
      go_wp2
      go_ret
      exact ⟨ret_bool (by unfold betw; rw [Bool.eq_iff_iff]; simp; omega), B _⟩
  · go_enter Try.func31, Try.ntmps31
    go_wp2
    go_ret
    exact ⟨ret_bool (by unfold betw; rw [Bool.eq_iff_iff]; simp; omega), B _⟩

set_option maxHeartbeats 400000 in
theorem specLine_any (c s y l a : Int) (w : World) :
    Calls Try.prog 18 #[.agg #[.int .i64 c, .int .i64 s, .int .i64 y, .int .i64 l], .int .i64 a] w fun e w' => e = .returned (.int .i64 (lineI c s y l a)) ∧ Below w.heap.size w w' := by
  have B := (Below.refl w.heap.size w).alloc (Nat.le_refl _)
  by_cases h0 : codeI c s y l = 0
  · obtain ⟨hl, hs⟩ := code_zero h0
    have h0' : (codeI c s y l != 0) = false := by simp [h0]
    have HL : Hid (addrB c s y l a = betw a 0 (2 * l - 1)) := addrB_eq h0
    clear h0 hs
    cases hb : betw a 0 (2 * l - 1)
    · go_enter Try.func18, Try.ntmps18
      go_wp2_with fail
      refine (specCode_any _ _ _ _ _).mono ?_
      rintro e w1 ⟨rfl, b1⟩
      obtain ⟨c0, c1, c2, c3⟩ := box4 b1
      go_wp2_with (go_at_call 31; refine (l2Addr_any _ _ _ _ _ _ hl).mono ?_; rintro e w2 ⟨rfl, b2⟩)
      go_ret
      exact ⟨ret_int (by simp [lineI, HL.out, hb]), below_step (below_step (B _) b1) b2⟩
    · have hb' := hb
      simp [betw] at hb'
      go_enter Try.func18, Try.ntmps18
      go_wp2_with fail
      refine (specCode_any _ _ _ _ _).mono ?_
      rintro e w1 ⟨rfl, b1⟩
      obtain ⟨c0, c1, c2, c3⟩ := box4 b1
      go_wp2_with (go_at_call 31; refine (l2Addr_any _ _ _ _ _ _ hl).mono ?_; rintro e w2 ⟨rfl, b2⟩)
      go_ret
      exact ⟨ret_int (by simp [lineI, HL.out, hb]), below_step (below_step (B _) b1) b2⟩
  · have h0' : (codeI c s y l != 0) = true := by simp [h0]
    have HL : Hid (addrB c s y l a = false) := addrB_ne h0
    clear h0
    go_enter Try.func18, Try.ntmps18
    go_wp2_with (go_at_call 23; refine (specCode_any _ _ _ _ _).mono ?_; rintro e w1 ⟨rfl, b1⟩)
    go_ret
    exact ⟨ret_int (by simp [lineI, HL.out]), below_step (B _) b1⟩

set_option maxHeartbeats 400000 in
theorem specWord_any (c s y l a : Int) (w : World) :
    Calls Try.prog 19 #[.agg #[.int .i64 c, .int .i64 s, .int .i64 y, .int .i64 l], .int .i64 a] w fun e w' => e = .returned (.int .i64 (wordI c s y l a)) ∧ Below w.heap.size w w' := by
  have B := (Below.refl w.heap.size w).alloc (Nat.le_refl _)
  by_cases h0 : codeI c s y l = 0
  · obtain ⟨hl, hs⟩ := code_zero h0
    have h0' : (codeI c s y l != 0) = false := by simp [h0]
    have HL : Hid (addrB c s y l a = betw a 0 (2 * l - 1)) := addrB_eq h0
    clear h0 hs
    cases hb : betw a 0 (2 * l - 1)
    · go_enter Try.func19, Try.ntmps19
      go_wp2_with fail
      refine (specCode_any _ _ _ _ _).mono ?_
      rintro e w1 ⟨rfl, b1⟩
      obtain ⟨c0, c1, c2, c3⟩ := box4 b1
      go_wp2_with (go_at_call 31; refine (l2Addr_any _ _ _ _ _ _ hl).mono ?_; rintro e w2 ⟨rfl, b2⟩)
      go_ret
      exact ⟨ret_int (by simp [wordI, HL.out, hb]), below_step (below_step (B _) b1) b2⟩
    · have hb' := hb
      simp [betw] at hb'
      go_enter Try.func19, Try.ntmps19
      go_wp2_with fail
      refine (specCode_any _ _ _ _ _).mono ?_
      rintro e w1 ⟨rfl, b1⟩
      obtain ⟨c0, c1, c2, c3⟩ := box4 b1
      go_wp2_with (go_at_call 31; refine (l2Addr_any _ _ _ _ _ _ hl).mono ?_; rintro e w2 ⟨rfl, b2⟩)
      go_ret
      exact ⟨ret_int (by simp [wordI, HL.out, hb]), below_step (below_step (B _) b1) b2⟩
  · have h0' : (codeI c s y l != 0) = true := by simp [h0]
    have HL : Hid (addrB c s y l a = false) := addrB_ne h0
    clear h0
    go_enter Try.func19, Try.ntmps19
    go_wp2_with (go_at_call 23; refine (specCode_any _ _ _ _ _).mono ?_; rintro e w1 ⟨rfl, b1⟩)
    go_ret
    exact ⟨ret_int (by simp [wordI, HL.out]), below_step (B _) b1⟩

theorem addrB_half (c s y l a : Int) (h : 0 ≤ a) : lineB c s y l (a / 2) = addrB c s y l a := by
  unfold addrB lineB
  rw [Bool.eq_iff_iff]
  simp
  intro _
  omega
theorem half_of {a : Int} (h : a < 9223372036854775808) (h0 : 0 ≤ a) : wrap64 (a.tdiv 2) = a / 2 := by
  rw [Int.tdiv_eq_ediv_of_nonneg h0]
  unfold wrap64
  omega
theorem addrB_neg (c s y l a : Int) (h : ¬ 0 ≤ a) : addrB c s y l a = false := by
  unfold addrB
  simp
  omega

set_option maxHeartbeats 400000 in
theorem hasAddr_any (c s y l a : Int) (w : World) (hw : 0 ≤ a → wrap64 (a.tdiv 2) = a / 2) :
    Calls Try.prog 28 #[.agg #[.int .i64 c, .int .i64 s, .int .i64 y, .int .i64 l], .int .i64 a] w fun e w' => e = .returned (.bool (addrB c s y l a)) ∧ Below w.heap.size w w' := by
  have B := (Below.refl w.heap.size w).alloc (Nat.le_refl _)
  by_cases h1 : 0 ≤ a
  · have H := addrB_half c s y l a h1
    have H' : Hid _ := H
    have hw' := hw h1
    clear H hw
    go_enter Try.func28, Try.ntmps28
    go_wp2_with (go_at_call 29; refine (hasLine_any _ _ _ _ _ _).mono ?_; rintro e w1 ⟨rfl, b1⟩)
    go_ret
    exact ⟨ret_bool H'.out, below_step (B _) b1⟩
  · have H' : Hid _ := addrB_neg c s y l a h1
    clear hw
    go_enter Try.func28, Try.ntmps28
    go_wp2
    go_ret
    exact ⟨ret_bool H'.out.symm, B _⟩

set_option maxHeartbeats 400000 in
theorem implLine_any (c s y l a : Int) (w : World) (ha : a < 9223372036854775808) :
    Calls Try.prog 11 #[.agg #[.int .i64 c, .int .i64 s, .int .i64 y, .int .i64 l], .int .i64 a] w fun e w' => e = .returned (.int .i64 (lineI c s y l a)) ∧ Below w.heap.size w w' := by
  have B := (Below.refl w.heap.size w).alloc (Nat.le_refl _)
  have hq : Hid (0 ≤ a → wrap64 (a.tdiv 2) = a / 2) := half_of ha
  clear ha
  cases hb : addrB c s y l a
  · go_enter Try.func11, Try.ntmps11
    go_wp2_with (go_at_call 28; refine (hasAddr_any _ _ _ _ _ _ hq.out).mono ?_; rintro e w1 ⟨rfl, b1⟩)
    go_ret
    exact ⟨ret_int (by simp [lineI, hb]), below_step (B _) b1⟩
  · have ha : 0 ≤ a ∧ a < 2 * l ∧ l ≤ 16 := by
      have h := hb
      simp [addrB] at h
      have := (code_zero h.1).1
      omega
    go_enter Try.func11, Try.ntmps11
    go_wp2_with (go_at_call 28; refine (hasAddr_any _ _ _ _ _ _ hq.out).mono ?_; rintro e w1 ⟨rfl, b1⟩)
    go_ret
    exact ⟨ret_int (by simp [lineI, hb]), below_step (B _) b1⟩

set_option maxHeartbeats 400000 in
theorem implWord_any (c s y l a : Int) (w : World) (ha : a < 9223372036854775808) :
    Calls Try.prog 12 #[.agg #[.int .i64 c, .int .i64 s, .int .i64 y, .int .i64 l], .int .i64 a] w fun e w' => e = .returned (.int .i64 (wordI c s y l a)) ∧ Below w.heap.size w w' := by
  have B := (Below.refl w.heap.size w).alloc (Nat.le_refl _)
  have hq : Hid (0 ≤ a → wrap64 (a.tdiv 2) = a / 2) := half_of ha
  clear ha
  cases hb : addrB c s y l a
  · go_enter Try.func12, Try.ntmps12
    go_wp2_with (go_at_call 28; refine (hasAddr_any _ _ _ _ _ _ hq.out).mono ?_; rintro e w1 ⟨rfl, b1⟩)
    go_ret
    exact ⟨ret_int (by simp [wordI, hb]), below_step (B _) b1⟩
  · have ha : 0 ≤ a ∧ a < 2 * l ∧ l ≤ 16 := by
      have h := hb
      simp [addrB] at h
      have := (code_zero h.1).1
      omega
    go_enter Try.func12, Try.ntmps12
    go_wp2_with (go_at_call 28; refine (hasAddr_any _ _ _ _ _ _ hq.out).mono ?_; rintro e w1 ⟨rfl, b1⟩)
    go_ret
    exact ⟨ret_int (by simp [wordI, hb]), below_step (B _) b1⟩

end Go.Proofs.Ytfgelbpmkpleoaa
