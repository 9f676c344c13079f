
/- A list of structs that were just made, all zero. No program here. -/
import Derived.Test.YteblffhbennpnaaDoorBoxes
namespace Go.Proofs.YteblffhbennpnaaDoor
open Go.ChangeShapes Go.WideShapes Go.ChangeAt Go.RowKit
set_option linter.unusedVariables false
variable {α : Type}
theorem lown_same {R : Rep α} {w : World} {S : Foot} {z : List Value} {x : α} (hz : z.length = R.size) (h0 : R.own w (fun _ => False) z x) : ∀ (n : Nat) (cs : List Value), cs.length = n * R.size → (∀ i, i < n * R.size → cs[i]? = z[i % R.size]?) → lown R w S cs (List.replicate n x)
  | 0, cs, hl, _ => List.eq_nil_of_length_eq_zero (by simpa using hl)
  | n + 1, cs, hl, hc => by
    have hs : (n + 1) * R.size = n * R.size + R.size := by rw [Nat.add_mul]; omega
    refine ⟨cs.take R.size, cs.drop R.size, fun _ => False, S, (List.take_append_drop _ _).symm, ?_, lown_same hz h0 n _ ?_ ?_, fun _ h => h.elim, Sub.refl _, fun _ h _ => h⟩
    · have : cs.take R.size = z := by
        apply List.ext_getElem?
        intro i
        rw [List.getElem?_take]
        split
        · rename_i hi
          rw [hc i (by omega), Nat.mod_eq_of_lt hi]
        · rename_i hi
          rw [List.getElem?_eq_none (by omega)]
      rw [this]
      exact h0
    · rw [List.length_drop]; omega
    · intro i hi
      rw [List.getElem?_drop, hc _ (by omega), Nat.add_mod_left]
theorem made_structs {e : TypeId} {R : Rep α} (w : World) (z : List Value) (x : α) (n : Nat) (hz : z.length = R.size) (hp : 0 < R.size) (h0 : ∀ W, R.own W (fun _ => False) z x) (hm : n ≤ maxLen) :
    MadeR (slR e R) w (w.alloc (.cells (madeCells z.toArray (n * R.size)) e)) [.slice (some ⟨w.heap.size, 0, none⟩) n n] (List.replicate n x) := by
  have hr := World.ownsRow_lit (base := 0) (e := e) (size := R.size) w (madeCells z.toArray (n * R.size)) n (Nat.zero_le _) hm (by rw [size_madeCells])
  refine ⟨⟨_, _, fun _ => False, rfl, by rw [List.length_replicate]; exact hr, fun g hg => ?_, fun _ h => h.elim, lown_same hz (h0 _) n _ ?_ ?_⟩, box_below w _⟩
  · simp [Value.ownBlock] at hg
    subst hg
    exact ⟨⟨Nat.le_refl _, by simp⟩, fun h => h⟩
  · rw [Array.length_toList, size_madeCells]
  · intro i hi
    have hlt : i % R.size < z.length := by rw [hz]; exact Nat.mod_lt _ hp
    unfold madeCells
    rw [Array.getElem?_toList]
    simp [hi, hz]
    rw [List.getElem?_eq_getElem hlt]
    rfl
end Go.Proofs.YteblffhbennpnaaDoor
