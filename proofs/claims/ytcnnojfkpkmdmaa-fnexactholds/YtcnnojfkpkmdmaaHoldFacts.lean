
/- Plain facts on who holds a line: few, small numbers, rising; who is forgotten is among them no more. No program in it. -/
import Derived.Test.YtcnnojfkpkmdmaaForgot
namespace Go.Proofs.Ytcnnojfkpkmdmaa
open Go.ChangeShapes Go.WideShapes Go.ChangeAt Go.RowKit
set_option linter.unusedVariables false

theorem mems_in {s : Int} : ∀ {k : Nat} {x : Int}, x ∈ mems s k → 0 ≤ x ∧ x < k
  | 0, x, h => by simp [mems] at h
  | k + 1, x, h => by
    unfold mems at h
    split at h
    · rcases List.mem_append.1 h with h | h
      · have := mems_in h; omega
      · simp at h; omega
    · have := mems_in h; omega
theorem ho_small {o s : Int} (h : whoB o s = true) : (hoI o s).length ≤ 8 ∧ ∀ x ∈ hoI o s, 0 ≤ x ∧ x < 8 := by
  have hb := who_bd h
  unfold hoI
  split
  · exact ⟨by simp, fun x hx => by simp at hx; omega⟩
  · exact ⟨mems_le s 8, fun x hx => mems_in hx⟩
theorem hold_small (u : EntryD) : (if entB u then hoI u.1 u.2.1 else []).length ≤ 8 ∧ Hid (∀ x ∈ (if entB u then hoI u.1 u.2.1 else []), In64 x) := by
  cases hu : entB u
  · exact ⟨by simp, fun x hx => by simp at hx⟩
  · have hw : whoB u.1 u.2.1 = true := by unfold entB at hu; exact (Bool.and_eq_true _ _ ▸ hu).1
    obtain ⟨h1, h2⟩ := ho_small hw
    exact ⟨h1, fun x hx => ⟨by have := h2 x hx; omega, by have := h2 x hx; omega⟩⟩
theorem for_small (u : EntryD) (c : Int) : (forD u c).2.2.2.2.2.2.2.length ≤ u.2.2.2.2.2.2.2.length := by
  unfold forD
  split
  · exact Nat.le_refl _
  · exact Nat.zero_le _
end Go.Proofs.Ytcnnojfkpkmdmaa
