
/- The types of this program as they read: numbers, lists, lists of lists; and how the older words for lists of lists go with the one form. No condition. -/
import Derived.Test.YtcnnojfkpkmdmaaOwn5
import Derived.Test.YtcnnojfkpkmdmaaOwn
import Derived.Test.YtcnnojfkpkmdmaaMems
namespace Go.Proofs.Ytcnnojfkpkmdmaa
open Go.ChangeShapes Go.WideShapes Go.ChangeAt Go.RowKit
set_option linter.unusedVariables false

theorem opens_i64 : Opens Try.prog 2 intR := opens_int Try.underlying2
theorem opens_ints : Opens Try.prog 38 intsR := opens_slice Try.underlying38 (by kernel_rfl) Nat.zero_lt_one opens_i64

abbrev rowsR : Rep (List (List Int)) := slR 38 intsR
abbrev rowsM : Mk (List (List Int)) := slM intsM
theorem opens_rows : Opens Try.prog 22 rowsR := opens_slice Try.underlying22 (by kernel_rfl) Nat.zero_lt_one opens_ints

theorem readsM_of {w : World} {a : Option Addr} {xss : List (List Int)} (h : SlRd intsR w a xss) : ReadsM w a xss := by
  rcases h with h | ⟨b, off, rows, rfl, h1, h2⟩
  · exact .inl h
  · refine .inr ⟨b, off, rfl, fun j xs hx => ?_⟩
    obtain ⟨b', off', c, hb, ⟨aj, cj, rfl, _, _, hrd⟩, hcell⟩ := slrd_at (.inr ⟨b, off, rows, rfl, h1, h2⟩) hx
    cases hb
    have := hcell 0 _ rfl
    rw [show j * intsR.size + 0 = j from Nat.mul_one j] at this
    exact ⟨aj, cj, this, reads_of hrd⟩

end Go.Proofs.Ytcnnojfkpkmdmaa
