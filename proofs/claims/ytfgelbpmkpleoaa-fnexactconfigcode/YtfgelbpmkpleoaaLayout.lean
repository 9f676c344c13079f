/- The contracts of the layout: codes, lines, words, sets, addresses, of the program and of its specification. No condition. -/
import Derived.Test.YtfgelbpmkpleoaaLinesOk
import Derived.Below
namespace Go.Proofs.Ytfgelbpmkpleoaa
open Go.ChangeShapes Go.WideShapes Go.ChangeAt Go.RowKit

def powB (n : Int) : Bool := decide (n = 1 ∨ n = 2 ∨ n = 4)
def codeI (c s y l : Int) : Int := if betw c 1 4 then (if powB s then (if powB y then (if betw l 1 16 then 0 else 4) else 3) else 2) else 1

set_option maxHeartbeats 400000 in
theorem sizeOk_any (n : Int) (w : World) :
    Calls Try.prog 39 #[.int .i64 n] w fun e w' => e = .returned (.bool (powB n)) ∧ w' = w := by
  go_enter Try.func39, Try.ntmps39
  go_wp2
  all_goals go_ret
  all_goals refine ⟨ret_bool ?_, rfl⟩
  all_goals first | (simp_all [powB]; done) | (rw [Bool.eq_iff_iff]; simp [powB]; omega)

set_option maxHeartbeats 400000 in
theorem l2Pow_any (n : Int) (w : World) :
    Calls Try.prog 34 #[.int .i64 n] w fun e w' => e = .returned (.bool (powB n)) ∧ w' = w := by
  go_enter Try.func34, Try.ntmps34
  go_wp2
  all_goals go_ret
  all_goals refine ⟨ret_bool ?_, rfl⟩
  all_goals first | (simp_all [powB]; done) | (rw [Bool.eq_iff_iff]; simp [powB]; omega)

set_option maxHeartbeats 1000000 in
theorem specCode_any (c s y l : Int) (w : World) :
    Calls Try.prog 23 #[.agg #[.int .i64 c, .int .i64 s, .int .i64 y, .int .i64 l]] w fun e w' => e = .returned (.int .i64 (codeI c s y l)) ∧ Below w.heap.size w w' := by
  have B := (Below.refl w.heap.size w).alloc (Nat.le_refl _)
  unfold codeI
  cases h1 : betw c 1 4 <;> cases h2 : powB s <;> cases h3 : powB y <;> cases h4 : betw l 1 16
  all_goals
    go_enter Try.func23, Try.ntmps23
    go_wp2_with (first
      | (go_at_call 32; refine (l1In_any _ _ _ _).mono ?_; rintro e w' ⟨rfl, rfl⟩)
      | (go_at_call 34; refine (l2Pow_any _ _).mono ?_; rintro e w' ⟨rfl, rfl⟩))
    go_ret
    exact ⟨rfl, B _⟩

set_option maxHeartbeats 1000000 in
theorem firstWrong_any (c s y l : Int) (w : World) :
    Calls Try.prog 33 #[.agg #[.int .i64 c, .int .i64 s, .int .i64 y, .int .i64 l], .int .i64 1] w fun e w' => e = .returned (.int .i64 (codeI c s y l)) ∧ Below w.heap.size w w' := by
  have B := (Below.refl w.heap.size w).alloc (Nat.le_refl _)
  unfold codeI
  cases h1 : betw c 1 4 <;> cases h2 : powB s <;> cases h3 : powB y <;> cases h4 : betw l 1 16
  all_goals
    go_enter Try.func33, Try.ntmps33
    go_wp2_with (first
      | (go_at_call 38; refine (between_any _ _ _ _).mono ?_; rintro e w' ⟨rfl, rfl⟩)
      | (go_at_call 40; refine (linesOk_any _ _).mono ?_; rintro e w' ⟨rfl, rfl⟩)
      | (go_at_call 39; refine (sizeOk_any _ _).mono ?_; rintro e w' ⟨rfl, rfl⟩))
    go_ret
    exact ⟨rfl, B _⟩

set_option maxHeartbeats 400000 in
theorem implCode_any (c s y l : Int) (w : World) :
    Calls Try.prog 22 #[.agg #[.int .i64 c, .int .i64 s, .int .i64 y, .int .i64 l]] w fun e w' => e = .returned (.int .i64 (codeI c s y l)) ∧ Below w.heap.size w w' := by
  have B := (Below.refl w.heap.size w).alloc (Nat.le_refl _)
  go_enter Try.func22, Try.ntmps22
  go_wp2_with (go_at_call 33; refine (firstWrong_any _ _ _ _ _).mono ?_; rintro e w' ⟨rfl, b1⟩)
  go_ret
  exact ⟨rfl, below_step (B _) b1⟩

end Go.Proofs.Ytfgelbpmkpleoaa
