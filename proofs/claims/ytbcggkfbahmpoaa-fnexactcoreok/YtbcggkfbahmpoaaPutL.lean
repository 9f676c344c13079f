
/- A number put into a rising list, by the specification. Conditions: lists of at most 2^20 numbers. -/
import Derived.Test.YtbcggkfbahmpoaaJLinesBoxesAppGenOwned
namespace Go.Proofs.Ytbcggkfbahmpoaa
open Go.ChangeShapes Go.WideShapes Go.ChangeAt Go.RowKit
set_option linter.unusedVariables false

def insL : List Int → Int → List Int
  | [], n => [n]
  | x :: r, n => if x < n then x :: insL r n else if x = n then x :: r else n :: x :: r
theorem ins_here : ∀ {xs : List Int} {n : Int} {k : Nat}, k ≤ xs.length → (∀ j, j < k → xs.getD j 0 < n) → (k < xs.length → n < xs.getD k 0) → insL xs n = xs.take k ++ n :: xs.drop k
  | [], n, k, hk, _, _ => by have : k = 0 := by simpa using hk
                             subst this; rfl
  | x :: r, n, 0, _, _, h => by
    have : n < x := h (by simp)
    unfold insL
    rw [if_neg (by omega), if_neg (by omega)]; rfl
  | x :: r, n, k + 1, hk, h1, h2 => by
    have : x < n := h1 0 (by omega)
    unfold insL
    rw [if_pos this, ins_here (k := k) (by simpa using hk) (fun j hj => h1 (j + 1) (by omega)) (fun hlt => h2 (by simp; omega))]; rfl
theorem ins_there : ∀ {xs : List Int} {n : Int} {k : Nat}, k < xs.length → (∀ j, j < k → xs.getD j 0 < n) → xs.getD k 0 = n → insL xs n = xs
  | [], n, k, hk, _, _ => by simp at hk
  | x :: r, n, 0, _, _, h => by
    have : x = n := h
    unfold insL
    rw [if_neg (by omega), if_pos this]
  | x :: r, n, k + 1, hk, h1, h2 => by
    have : x < n := h1 0 (by omega)
    unfold insL
    rw [if_pos this, ins_there (k := k) (by simpa using hk) (fun j hj => h1 (j + 1) (by omega)) h2]
theorem ins_len (xs : List Int) (n : Int) : (insL xs n).length ≤ xs.length + 1 := by
  induction xs with
  | nil => simp [insL]
  | cons x r ih => unfold insL; split
                   · simp; omega
                   · split <;> simp

theorem reads_at {w : World} {b off : Nat} {xs : List Int} (hc : ∀ j, j < xs.length → w.cell? ⟨b, off + j, none⟩ = some (.int .i64 (xs.getD j 0))) (k : Nat) : ∀ j u, ((xs.drop k).map (Value.int .i64))[j]? = some u → w.cell? ((⟨b, off + k, none⟩ : Addr).add j) = some u := by
  intro j u hj
  rw [List.getElem?_map, List.getElem?_drop] at hj
  cases hx : xs[k + j]? with
  | none => rw [hx] at hj; cases hj
  | some x =>
    rw [hx] at hj
    simp at hj
    subst hj
    have hlt := (List.getElem?_eq_some_iff.1 hx).1
    have := hc (k + j) hlt
    rw [List.getD_eq_getElem?_getD, hx] at this
    rw [show (⟨b, off + k, none⟩ : Addr).add j = ⟨b, off + (k + j), none⟩ from by cases j with
      | zero => simp [Addr.add]
      | succ j => simp [Addr.add, Nat.add_assoc]]
    exact this
theorem reads_to {w : World} {b off : Nat} {xs : List Int} (hc : ∀ j, j < xs.length → w.cell? ⟨b, off + j, none⟩ = some (.int .i64 (xs.getD j 0))) (k : Nat) : ∀ j u, ((xs.take k).map (Value.int .i64))[j]? = some u → w.cell? ((⟨b, off, none⟩ : Addr).add j) = some u := by
  intro j u hj
  rw [List.getElem?_map, List.getElem?_take] at hj
  split at hj
  · cases hx : xs[j]? with
    | none => rw [hx] at hj; cases hj
    | some x =>
      rw [hx] at hj
      simp at hj
      subst hj
      have hlt := (List.getElem?_eq_some_iff.1 hx).1
      have := hc j hlt
      rw [List.getD_eq_getElem?_getD, hx] at this
      rw [show (⟨b, off, none⟩ : Addr).add j = ⟨b, off + j, none⟩ from by simp [Addr.add]]
      exact this
  · cases hj

theorem ones (l : List Int) : ∀ u ∈ l.map (Value.int .i64), u.oneCell' = true := fun u hu => by obtain ⟨x, _, rfl⟩ := List.mem_map.1 hu; rfl

end Go.Proofs.Ytbcggkfbahmpoaa
