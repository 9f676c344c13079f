/- What is more to be said of slices that a call owns. No program here. -/
import Derived.Test.YtfpbchohfkbpbaaOwn6
namespace Go.Proofs.Ytfpbchohfkbpbaa
open Go.ChangeShapes Go.WideShapes Go.ChangeAt Go.RowKit
set_option linter.unusedVariables false

section
variable {α β : Type}
theorem fill_below {e : TypeId} {R : Rep α} {w0 w : World} {n : Nat} {xs : List α} (h : Fill e R w0 w n xs) : Below w0.heap.size w0 w := by
  obtain ⟨_, _, _, _, hb, _⟩ := h
  exact hb
theorem slown_form {e : TypeId} {R : Rep α} {w : World} {S : Foot} {v : Value} {xs : List α} (h : (slR e R).own w S [v] xs) : (v = .slice none 0 0 ∧ xs = []) ∨ ∃ g cap, v = .slice (some ⟨g, 0, none⟩) xs.length cap ∧ S g := by
  obtain ⟨v', rows, S', hv, hr, hg, hs, hl⟩ := h
  simp only [List.cons.injEq, and_true] at hv
  subst hv
  rcases hr.2 with ⟨rfl, h0⟩ | ⟨g, cap, cur, rfl, rest⟩
  · exact .inl ⟨rfl, List.eq_nil_of_length_eq_zero h0⟩
  · exact .inr ⟨g, cap, rfl, (hg g rfl).1⟩
theorem slown_val {e : TypeId} {R : Rep α} {w : World} {S : Foot} {v : Value} {xs : List α} (h : (slR e R).own w S [v] xs) : ∃ a c, v = .slice a xs.length c := by
  rcases slown_form h with ⟨rfl, rfl⟩ | ⟨g, cap, rfl, _⟩
  · exact ⟨none, 0, rfl⟩
  · exact ⟨_, _, rfl⟩
end
end Go.Proofs.Ytfpbchohfkbpbaa
