/- An argument that is a list of lists of numbers, as it reads. No program here. -/
import Derived.Test.YteepmhcpjjgihaaMems
import Derived.Deep.Matrix
namespace Go.Proofs.Yteepmhcpjjgihaa
open Go.ChangeShapes Go.WideShapes Go.ChangeAt Go.RowKit

def IsRows (w : World) (a : Option Addr) (len : Nat) (xss : List (List Int)) : Prop :=
  ReadsM w a xss ∧ xss.length = len ∧ len ≤ 9223372036854775807 ∧ ∀ xs ∈ xss, xs.length ≤ 9223372036854775807

theorem isRows_nil (w : World) (a : Option Addr) : IsRows w a 0 [] := ⟨.inl rfl, rfl, Nat.zero_le _, by simp⟩

theorem isRows_open {w : World} {a : Addr} {len cap base : Nat} {A : Nat → Option Addr} {L C : Nat → Nat} {Z : Nat → List Int} (hl : len ≤ cap) (hm : cap ≤ maxLen)
    (h : ∀ r, r < cap → w.cell? (a.add r) = some (.slice (A r) (L r) (C r)) ∧ L r ≤ C r ∧ C r ≤ maxLen ∧ (Z r).length = C r ∧ (∀ n ∈ Z r, (Lit.int .i64 n).wf = true) ∧ (A r = none → C r = 0) ∧
        ∀ a', A r = some a' → base ≤ a'.block ∧ ∀ c, c < C r → w.cell? (a'.add c) = some (.int .i64 ((Z r).getD c 0))) :
    ∃ xss, IsRows w (some a) len xss := by
  have hmm : maxLen = 9223372036854775807 := rfl
  have each : ∀ r : Nat, ∃ xs : List Int, r < cap → xs.length = L r ∧ Reads w (A r) xs := by
    intro r
    by_cases hr : r < cap
    · obtain ⟨_, h2, _, h4, _, h6, h7⟩ := h r hr
      cases hA : A r with
      | none => exact ⟨[], fun _ => ⟨by have := h6 hA; simp; omega, .inl rfl⟩⟩
      | some a' =>
        obtain ⟨xs, e1, e2⟩ := reads_row (x := a') (zs := Z r) (len := L r) (by omega) (fun i hi => (h7 a' hA).2 i (by omega))
        exact ⟨xs, fun _ => ⟨e1, e2⟩⟩
    · exact ⟨[], fun h' => absurd h' hr⟩
  obtain ⟨X, hX⟩ := Classical.axiomOfChoice each
  refine ⟨(List.range len).map X, ?_, by simp, by omega, ?_⟩
  · by_cases h0 : len = 0
    · exact .inl (by simp [h0])
    · have hspot : a.spot = none := by
        have := (h 0 (by omega)).1
        simpa [Addr.add] using World.cell?_spot this
      obtain ⟨b, off, spot⟩ := a
      simp at hspot
      subst hspot
      refine .inr ⟨b, off, rfl, fun j xs hx => ?_⟩
      rw [List.getElem?_map] at hx
      obtain ⟨r, hr, rfl⟩ := Option.map_eq_some_iff.1 hx
      have hj : j < len := by
        have := (List.getElem?_eq_some_iff.1 hr).1
        simpa using this
      have hrj : r = j := by
        rw [List.getElem?_range hj] at hr
        simpa using hr.symm
      subst hrj
      have k1 := h r (by omega)
      have k2 := hX r (by omega)
      refine ⟨A r, C r, ?_, k2.2⟩
      rw [← Go.WideShapes.add_plain, k2.1]
      exact k1.1
  · intro xs hx
    obtain ⟨r, hr, rfl⟩ := List.mem_map.1 hx
    have hr' := List.mem_range.1 hr
    have k1 := h r (by omega)
    have k2 := hX r (by omega)
    omega

end Go.Proofs.Yteepmhcpjjgihaa
