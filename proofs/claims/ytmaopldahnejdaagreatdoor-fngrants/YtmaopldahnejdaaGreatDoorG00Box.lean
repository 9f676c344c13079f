import Derived.WalkKit
import Derived.ProofKit
import Derived.OpenShut
import Derived.Below
import Derived.ChangeAt
namespace Go.Proofs.YtmaopldahnejdaaGreatDoor
open Go.ChangeShapes Go.WideShapes Go.ChangeAt Go.RowKit
set_option linter.unusedVariables false
abbrev nI (x : Int) : Value := .int .i64 x
abbrev sL (a : Option Addr) (n c : Nat) : Value := .slice a n c
abbrev zC (t : TypeId) : Obj := .cells #[.slice none 0 0, .slice none 0 0, .slice none 0 0, .int .i64 0, .int .i64 0, .int .i64 0, .int .i64 0, .slice none 0 0, .slice none 0 0] t
abbrev Bl (w W : World) : Prop := Below w.heap.size w W
theorem aI {a b : Prop} (x : a) (y : b) : a ∧ b := And.intro x y
theorem lE {n m : Nat} (h : n = m) : n ≤ m := Nat.le_of_eq h
theorem ltH {α : Type} {xs : Array α} {k : Nat} {o : α} (h : xs[k]? = some o) : k < xs.size := (Array.getElem?_eq_some_iff.1 h).1
theorem boxH {w u : World} {o : Obj} (h : w.alloc o = u) : u.heap[w.heap.size]? = some o := h ▸ heap_alloc_new w o
theorem boxB {w u : World} {o : Obj} (h : w.alloc o = u) : Below w.heap.size w u := h ▸ (Below.refl _ w).alloc (Nat.le_refl _) o
theorem boxL {w u : World} {o : Obj} (h : w.alloc o = u) : u.heap.size = w.heap.size + 1 := by rw [← h]; simp
theorem cellsAt3 {w : World} {b o k s : Nat} {v0 v1 v2 : Value} (h : ∀ i u, [v0, v1, v2][i]? = some u → w.cell? ⟨b, o + (k * s + i), none⟩ = some u) (hs : s = 3) : w.cell? ⟨b, o + k * 3, none⟩ = some v0 ∧ w.cell? ⟨b, o + k * 3 + 1, none⟩ = some v1 ∧ w.cell? ⟨b, o + k * 3 + 2, none⟩ = some v2 := by
 subst hs
 exact ⟨h 0 _ rfl, h 1 _ rfl, h 2 _ rfl⟩
theorem cellsAt4 {w : World} {b o k s : Nat} {v0 v1 v2 v3 : Value} (h : ∀ i u, [v0, v1, v2, v3][i]? = some u → w.cell? ⟨b, o + (k * s + i), none⟩ = some u) (hs : s = 4) : w.cell? ⟨b, o + k * 4, none⟩ = some v0 ∧ w.cell? ⟨b, o + k * 4 + 1, none⟩ = some v1 ∧ w.cell? ⟨b, o + k * 4 + 2, none⟩ = some v2 ∧ w.cell? ⟨b, o + k * 4 + 3, none⟩ = some v3 := by
 subst hs
 exact ⟨h 0 _ rfl, h 1 _ rfl, h 2 _ rfl, h 3 _ rfl⟩
theorem cellsAt5 {w : World} {b o k s : Nat} {v0 v1 v2 v3 v4 : Value} (h : ∀ i u, [v0, v1, v2, v3, v4][i]? = some u → w.cell? ⟨b, o + (k * s + i), none⟩ = some u) (hs : s = 5) : w.cell? ⟨b, o + k * 5, none⟩ = some v0 ∧ w.cell? ⟨b, o + k * 5 + 1, none⟩ = some v1 ∧ w.cell? ⟨b, o + k * 5 + 2, none⟩ = some v2 ∧ w.cell? ⟨b, o + k * 5 + 3, none⟩ = some v3 ∧ w.cell? ⟨b, o + k * 5 + 4, none⟩ = some v4 := by
 subst hs
 exact ⟨h 0 _ rfl, h 1 _ rfl, h 2 _ rfl, h 3 _ rfl, h 4 _ rfl⟩
theorem cellsAt6 {w : World} {b o k s : Nat} {v0 v1 v2 v3 v4 v5 : Value} (h : ∀ i u, [v0, v1, v2, v3, v4, v5][i]? = some u → w.cell? ⟨b, o + (k * s + i), none⟩ = some u) (hs : s = 6) : w.cell? ⟨b, o + k * 6, none⟩ = some v0 ∧ w.cell? ⟨b, o + k * 6 + 1, none⟩ = some v1 ∧ w.cell? ⟨b, o + k * 6 + 2, none⟩ = some v2 ∧ w.cell? ⟨b, o + k * 6 + 3, none⟩ = some v3 ∧ w.cell? ⟨b, o + k * 6 + 4, none⟩ = some v4 ∧ w.cell? ⟨b, o + k * 6 + 5, none⟩ = some v5 := by
 subst hs
 exact ⟨h 0 _ rfl, h 1 _ rfl, h 2 _ rfl, h 3 _ rfl, h 4 _ rfl, h 5 _ rfl⟩
theorem cellsAt7 {w : World} {b o k s : Nat} {v0 v1 v2 v3 v4 v5 v6 : Value} (h : ∀ i u, [v0, v1, v2, v3, v4, v5, v6][i]? = some u → w.cell? ⟨b, o + (k * s + i), none⟩ = some u) (hs : s = 7) : w.cell? ⟨b, o + k * 7, none⟩ = some v0 ∧ w.cell? ⟨b, o + k * 7 + 1, none⟩ = some v1 ∧ w.cell? ⟨b, o + k * 7 + 2, none⟩ = some v2 ∧ w.cell? ⟨b, o + k * 7 + 3, none⟩ = some v3 ∧ w.cell? ⟨b, o + k * 7 + 4, none⟩ = some v4 ∧ w.cell? ⟨b, o + k * 7 + 5, none⟩ = some v5 ∧ w.cell? ⟨b, o + k * 7 + 6, none⟩ = some v6 := by
 subst hs
 exact ⟨h 0 _ rfl, h 1 _ rfl, h 2 _ rfl, h 3 _ rfl, h 4 _ rfl, h 5 _ rfl, h 6 _ rfl⟩
theorem cellsAt8 {w : World} {b o k s : Nat} {v0 v1 v2 v3 v4 v5 v6 v7 : Value} (h : ∀ i u, [v0, v1, v2, v3, v4, v5, v6, v7][i]? = some u → w.cell? ⟨b, o + (k * s + i), none⟩ = some u) (hs : s = 8) : w.cell? ⟨b, o + k * 8, none⟩ = some v0 ∧ w.cell? ⟨b, o + k * 8 + 1, none⟩ = some v1 ∧ w.cell? ⟨b, o + k * 8 + 2, none⟩ = some v2 ∧ w.cell? ⟨b, o + k * 8 + 3, none⟩ = some v3 ∧ w.cell? ⟨b, o + k * 8 + 4, none⟩ = some v4 ∧ w.cell? ⟨b, o + k * 8 + 5, none⟩ = some v5 ∧ w.cell? ⟨b, o + k * 8 + 6, none⟩ = some v6 ∧ w.cell? ⟨b, o + k * 8 + 7, none⟩ = some v7 := by
 subst hs
 exact ⟨h 0 _ rfl, h 1 _ rfl, h 2 _ rfl, h 3 _ rfl, h 4 _ rfl, h 5 _ rfl, h 6 _ rfl, h 7 _ rfl⟩
theorem cellsAt9 {w : World} {b o k s : Nat} {v0 v1 v2 v3 v4 v5 v6 v7 v8 : Value} (h : ∀ i u, [v0, v1, v2, v3, v4, v5, v6, v7, v8][i]? = some u → w.cell? ⟨b, o + (k * s + i), none⟩ = some u) (hs : s = 9) : w.cell? ⟨b, o + k * 9, none⟩ = some v0 ∧ w.cell? ⟨b, o + k * 9 + 1, none⟩ = some v1 ∧ w.cell? ⟨b, o + k * 9 + 2, none⟩ = some v2 ∧ w.cell? ⟨b, o + k * 9 + 3, none⟩ = some v3 ∧ w.cell? ⟨b, o + k * 9 + 4, none⟩ = some v4 ∧ w.cell? ⟨b, o + k * 9 + 5, none⟩ = some v5 ∧ w.cell? ⟨b, o + k * 9 + 6, none⟩ = some v6 ∧ w.cell? ⟨b, o + k * 9 + 7, none⟩ = some v7 ∧ w.cell? ⟨b, o + k * 9 + 8, none⟩ = some v8 := by
 subst hs
 exact ⟨h 0 _ rfl, h 1 _ rfl, h 2 _ rfl, h 3 _ rfl, h 4 _ rfl, h 5 _ rfl, h 6 _ rfl, h 7 _ rfl, h 8 _ rfl⟩
end Go.Proofs.YtmaopldahnejdaaGreatDoor
