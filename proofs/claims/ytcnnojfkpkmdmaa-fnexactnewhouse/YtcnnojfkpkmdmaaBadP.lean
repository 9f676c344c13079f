
/- The first of a list that is not right. No program here. -/
import Derived.Test.YtcnnojfkpkmdmaaNums
namespace Go.Proofs.Ytcnnojfkpkmdmaa
def badP {α : Type} (p : α → Bool) (xs : List α) : Int := match xs.findIdx? (fun u => !p u) with
  | some i => (i : Int)
  | none => -1
theorem badP_at {α : Type} {p : α → Bool} {xs : List α} {k : Nat} {u : α} (hu : xs[k]? = some u) (hp : p u = false) (hno : ∀ j v, j < k → xs[j]? = some v → p v = true) : badP p xs = (k : Int) := by
  have hk := (List.getElem?_eq_some_iff.1 hu).1
  have : xs.findIdx? (fun u => !p u) = some k := by
    rw [List.findIdx?_eq_some_iff_getElem]
    refine ⟨hk, ?_, fun j hj => ?_⟩
    · rw [List.getElem?_eq_getElem hk] at hu
      cases hu
      simp [hp]
    · have := hno j _ hj (List.getElem?_eq_getElem (by omega))
      simp [this]
  unfold badP
  rw [this]
theorem badP_no {α : Type} {p : α → Bool} {xs : List α} (hno : ∀ (j : Nat) (v : α), xs[j]? = some v → p v = true) : badP p xs = -1 := by
  have : xs.findIdx? (fun u => !p u) = none := by
    rw [List.findIdx?_eq_none_iff]
    intro u hu
    obtain ⟨j, hj⟩ := List.getElem?_of_mem hu
    simp [hno j u hj]
  unfold badP
  rw [this]
theorem badP_all {α : Type} (p : α → Bool) (xs : List α) : xs.all p = decide (badP p xs < 0) := by
  cases h : xs.all p
  · have h1 : ¬ ∀ x ∈ xs, p x = true := fun hh => by rw [List.all_eq_true.2 hh] at h; cases h
    cases hf : xs.findIdx? (fun u => !p u) with
    | none =>
      rw [List.findIdx?_eq_none_iff] at hf
      exact (h1 fun x hx => by have := hf x hx; simpa using this).elim
    | some i => simp [badP, hf]
  · rw [badP_no fun j v hv => List.all_eq_true.1 h v (List.mem_of_getElem? hv)]
    rfl
end Go.Proofs.Ytcnnojfkpkmdmaa
