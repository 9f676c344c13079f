
/- Several cells of one block stored one behind the other. No program here. -/
import Derived.Test.YtpfgggjcaogkkaaUPair
namespace Go.Proofs.Ytpfgggjcaogkkaa
open Go.ChangeShapes Go.WideShapes Go.ChangeAt Go.RowKit
set_option linter.unusedVariables false
variable {α : Type}

def setCs (w : World) (g : Nat) : Nat → List Value → World
  | _, [] => w
  | o, v :: vs => setCs (w.setCell ⟨g, o, none⟩ v) g (o + 1) vs
def putA (cs : Array Value) : Nat → List Value → Array Value
  | _, [] => cs
  | o, v :: vs => putA (cs.setIfInBounds o v) (o + 1) vs
theorem row_setCs {g : Nat} {t : TypeId} : ∀ (vs : List Value) (o : Nat) {w : World} {cs : Array Value}, w.heap[g]? = some (.cells cs t (0, 0)) → (setCs w g o vs).heap[g]? = some (.cells (putA cs o vs) t (0, 0))
  | [], _, _, _, h => h
  | v :: vs, o, w, cs, h => row_setCs vs (o + 1) (heap_setCell_same w g o cs t v h)
theorem chg_setCs {g : Nat} : ∀ (vs : List Value) (o : Nat) (w : World), Chg (fun k => k = g) w (setCs w g o vs)
  | [], _, w => Chg.refl _ w
  | v :: vs, o, w => (show Chg (fun k => k = g) w (w.setCell ⟨g, o, none⟩ v) from ⟨rfl, rfl, rfl, by simp, fun k hk hn => heap_setCell_other w ⟨g, o, none⟩ k v hn⟩).trans (chg_setCs vs (o + 1) _)
theorem setCs_size {g : Nat} : ∀ (vs : List Value) (o : Nat) (w : World), (setCs w g o vs).heap.size = w.heap.size
  | [], _, _ => rfl
  | v :: vs, o, w => (setCs_size vs (o + 1) _).trans (by simp)
theorem below_setCs {a w : World} {B g o : Nat} {vs : List Value} (h : Below B a w) (hB : B ≤ w.heap.size) (hg : B ≤ g) : Below B a (setCs w g o vs) :=
  (chg_setCs vs o w).below h (fun k hk => by have : k = g := hk; omega) hB
theorem below_setCs0 {a w : World} {g o : Nat} {vs : List Value} (h : Below a.heap.size a w) (hg : a.heap.size ≤ g) : Below a.heap.size a (setCs w g o vs) := below_setCs h h.size hg
theorem row_otherCs {w : World} {k g o : Nat} {vs : List Value} {ob : Obj} (h : w.heap[k]? = some ob) (hn : k ≠ g) : (setCs w g o vs).heap[k]? = some ob :=
  ((chg_setCs vs o w).block k (Array.getElem?_eq_some_iff.1 h).1 hn).trans h
theorem own_setCs {R : Rep α} {w : World} {S : Foot} {cs : List Value} {x : α} {g o : Nat} {vs : List Value} (h : R.own w S cs x) (hg : ¬ S g) : R.own (setCs w g o vs) S cs x :=
  own_chg h (chg_setCs vs o w) fun k hk e => by have e' : k = g := e; subst e'; exact hg hk
theorem owned_setCs {R : Rep α} {w : World} {lo hi : Nat} {cs : List Value} {x : α} {g o : Nat} {vs : List Value} (h : Owned R lo hi w cs x) (hg : g < lo ∨ hi ≤ g) : Owned R lo hi (setCs w g o vs) cs x :=
  ⟨own_setCs h.1 fun hk => by have := hk.1; have := hk.2; omega, by rw [setCs_size]; exact h.2⟩
theorem sight_setCs {R : Rep α} {w : World} {n : Nat} {cs : List Value} {x : α} {g o : Nat} {vs : List Value} (h : Sight R n w cs x) (hg : n ≤ g) : Sight R n (setCs w g o vs) cs x := by
  obtain ⟨w0, h1, h2, h3, h4⟩ := h
  exact ⟨w0, h1, h2, by rw [setCs_size]; exact h3, fun k hk => ((chg_setCs vs o w).block k (Nat.lt_of_lt_of_le hk h3) (fun e => by have : k = g := e; omega)).trans (h4 k hk)⟩
/-- A list of one, laid anew. -/
theorem own_one {e : TypeId} {R : Rep α} {w : World} {S : Foot} {cs : List Value} {x : α} (hs : 0 < R.size) (h : R.own w S cs x) (hS : ∀ k, S k → k < w.heap.size) : (slR e R).own (w.alloc (.cells cs.toArray e)) (fun k => S k ∨ k = w.heap.size) [.slice (some ⟨w.heap.size, 0, none⟩) 1 1] [x] := by
  have hl := R.rd_len (R.own_rd h)
  refine ⟨_, cs, S, rfl, World.ownsRow_lit w cs.toArray 1 (Nat.zero_le _) (by decide) (by simp [hl]), fun g hg => ?_, fun k hk => .inl hk, ⟨cs, [], S, fun _ => False, by simp, own_box _ h, rfl, Sub.refl _, fun _ h => h.elim, fun _ _ h => h⟩⟩
  simp [Value.ownBlock] at hg
  subst hg
  exact ⟨.inr rfl, fun hk => Nat.lt_irrefl _ (hS _ hk)⟩
theorem rd_one {e : TypeId} {R : Rep α} {w : World} {cs : List Value} {x : α} (hs : 0 < R.size) (h : R.rd w cs x) : (slR e R).rd (w.alloc (.cells cs.toArray e)) [.slice (some ⟨w.heap.size, 0, none⟩) 1 1] [x] := by
  have h' := R.rd_keep h (fun k hk => Below.heap_alloc w (.cells cs.toArray e) k hk)
  refine ⟨_, 1, rfl, by simp, by decide, .inr ⟨w.heap.size, 0, cs, rfl, ⟨cs, [], by simp, h', rfl⟩, fun j u hj => ?_⟩⟩
  rw [Nat.zero_add, cell_of_row _ _ j _ e (0, 0) (heap_at w (.cells cs.toArray e))]
  simpa using hj
theorem rd_nothing {e : TypeId} {R : Rep α} (w : World) (b : Nat) : (slR e R).rd w [.slice (some ⟨b, 0, none⟩) 0 0] [] := ⟨_, 0, rfl, by simp, by decide, .inl rfl⟩
theorem own_nil {e : TypeId} {R : Rep α} (w : World) : (slR e R).own (w.alloc (.cells #[] e)) (fun k => k = w.heap.size) [.slice (some ⟨w.heap.size, 0, none⟩) 0 0] [] := by
  refine ⟨_, [], fun _ => False, rfl, World.ownsRow_lit w #[] 0 (Nat.zero_le _) (by decide) (by simp), fun g hg => ?_, fun _ h => h.elim, rfl⟩
  simp [Value.ownBlock] at hg
  subst hg
  exact ⟨rfl, fun h => h⟩
end Go.Proofs.Ytpfgggjcaogkkaa
