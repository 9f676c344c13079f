
/- The contracts of sets and addresses of a line, of the program and of its specification. No condition. -/
import Derived.Test.YteblffhbennpnaaDoorLayout3
namespace Go.Proofs.YteblffhbennpnaaDoor
open Go.ChangeShapes Go.WideShapes Go.ChangeAt Go.RowKit

theorem lineB_true {c s y l k : Int} (h : lineB c s y l k = true) : 0 ≤ k ∧ k < l ∧ l ≤ 16 ∧ (s = 1 ∨ s = 2 ∨ s = 4) := by
  simp [lineB] at h
  have := code_zero h.1
  omega

end Go.Proofs.YteblffhbennpnaaDoor
