
/- Blocks of cells while a value is drawn: what a draw, a new block and a store leave as it was. No program here but the cursor's type. -/
import Derived.Test.YteblffhbennpnaaDoorDraw
import Derived.Deep.RegionWith
namespace Go.Proofs.YteblffhbennpnaaDoor
open Go.ChangeShapes Go.WideShapes Go.ChangeAt Go.RowKit

theorem row_grown {w w' : World} {g k : Nat} {cs : Array Value} {t : TypeId} (hg : w.grownBy w' (some g)) (hk : k ≠ g) (h : w.heap[k]? = some (.cells cs t (0, 0))) : w'.heap[k]? = some (.cells cs t (0, 0)) := by
  rw [hg.block k (Array.getElem?_eq_some_iff.1 h).1 (by simp; omega), h]
theorem cell_four {w : World} {g : Nat} {x y z u : Value} {t : TypeId} (h : w.heap[g]? = some (.cells #[x, y, z, u] t (0, 0))) :
    (w.cell? ⟨g, 0, none⟩ = some x ∧ w.cell? ⟨g, 1, none⟩ = some y ∧ w.cell? ⟨g, 2, none⟩ = some z ∧ w.cell? ⟨g, 3, none⟩ = some u) ∧ w.frozen? ⟨g, 0, none⟩ = false ∧ w.frozen? ⟨g, 1, none⟩ = false ∧ w.frozen? ⟨g, 2, none⟩ = false ∧ w.frozen? ⟨g, 3, none⟩ = false := by
  refine ⟨⟨?_, ?_, ?_, ?_⟩, ?_, ?_, ?_, ?_⟩
  · rw [cell_of_row w g 0 _ t (0, 0) h]; rfl
  · rw [cell_of_row w g 1 _ t (0, 0) h]; rfl
  · rw [cell_of_row w g 2 _ t (0, 0) h]; rfl
  · rw [cell_of_row w g 3 _ t (0, 0) h]; rfl
  · exact frozen_of_row w g 0 _ t h
  · exact frozen_of_row w g 1 _ t h
  · exact frozen_of_row w g 2 _ t h
  · exact frozen_of_row w g 3 _ t h

theorem cur_setCell {B g : Nat} {w : World} {a : Addr} (h : Cur B w g) (u : Value) (hB : B ≤ a.block) (hne : a.block ≠ g) : Cur B (w.setCell a u) g := by
  obtain ⟨hBg, b, len, cap, zs, i, hh, hi, hblk, hby⟩ := h
  refine ⟨hBg, b, len, cap, zs, i, hh, hi, (Below.heap_setCell w a u g (by omega)).trans hblk, hby.1, ?_⟩
  rcases hby.2 with h | ⟨x, off, ha, hx, hc⟩
  · exact .inl h
  · refine .inr ⟨x, off, ha, hx, fun j hj => ?_⟩
    rw [World.cell?_of_block (w := w) (Below.heap_setCell w a u x (by omega))]
    exact hc j hj
theorem grown_setCell {w w' : World} {g : Nat} {a : Addr} {u : Value} (G : w.grownBy w' (some g)) (ha : w.heap.size ≤ a.block) : w.grownBy (w'.setCell a u) (some g) :=
  ⟨G.os, G.tape, G.output, by simpa [World.setCell] using G.size, fun i hi hn => (Below.heap_setCell w' a u i (by omega)).trans (G.block i hi hn)⟩
theorem row_alloc {w : World} {k : Nat} {o : Obj} (h : w.heap[k]? = some o) (p : Obj) : (w.alloc p).heap[k]? = some o := (Below.heap_alloc w p k (Array.getElem?_eq_some_iff.1 h).1).trans h
theorem grown_alloc {w w' : World} {g : Nat} (G : w.grownBy w' (some g)) (o : Obj) : w.grownBy (w'.alloc o) (some g) := grown_trans G (World.grownBy_alloc _ _ _)
theorem row_setO {w : World} {k : Nat} {cs : Array Value} {t : TypeId} (h : w.heap[k]? = some (.cells cs t (0, 0))) (a : Addr) (u : Value) (hk : k ≠ a.block) : (w.setCell a u).heap[k]? = some (.cells cs t (0, 0)) := (Below.heap_setCell w a u k hk).trans h
theorem row_lt {w : World} {k : Nat} {o : Obj} (h : w.heap[k]? = some o) : k < w.heap.size := (Array.getElem?_eq_some_iff.1 h).1
theorem alloc_size (w : World) (o : Obj) : (w.alloc o).heap.size = w.heap.size + 1 := by simp
theorem row8_alloc {w : World} {a : Option Addr} {len : Nat} {zs : List Int} (h : Row8 w a len zs) (o : Obj) : Row8 (w.alloc o) a len zs := row8_below h ((Below.refl _ _).alloc (Nat.le_refl _) o)

end Go.Proofs.YteblffhbennpnaaDoor
