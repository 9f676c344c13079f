
/- The contracts of the specification's cursor over the bytes of a draw: whatever the bytes, a number is drawn within its bounds, and only the cursor's own cell turns. Conditions: the bytes lie below the cursor; they are at most 2^61. -/
import Derived.Test.YtpfgggjcaogkkaaLists
namespace Go.Proofs.Ytpfgggjcaogkkaa
open Go.ChangeShapes Go.WideShapes Go.ChangeAt Go.RowKit

def Bytes (B : Nat) (w : World) (a : Option Addr) (len : Nat) (zs : List Int) : Prop :=
  len ≤ 2305843009213693952 ∧ (len = 0 ∨ ∃ b off, a = some ⟨b, off, none⟩ ∧ b < B ∧ ∀ j, j < len → w.cell? ⟨b, off + j, none⟩ = some (.int .u8 (zs.getD j 0)))

theorem wrap64_id {n : Int} (h0 : 0 ≤ n) (h1 : n < 9223372036854775808) : wrap64 n = n := by unfold wrap64; omega
theorem and_255 (x : Int) : 0 ≤ bits .and .i64 x 255 ∧ bits .and .i64 x 255 ≤ 255 := by
  have h : (BitVec.ofInt 64 x &&& BitVec.ofInt 64 255).toNat ≤ 255 := by
    rw [BitVec.toNat_and]
    exact Nat.le_trans Nat.and_le_right (by decide)
  have e : bits .and .i64 x 255 = IntKind.i64.wrap ((BitVec.ofInt 64 x &&& BitVec.ofInt 64 255).toNat : Int) := rfl
  rw [e, IntWalk.i64_left, wrap64_id (by omega) (by omega)]
  omega

theorem bytes_of {B g : Nat} {w w' : World} {a : Option Addr} {len : Nat} {zs : List Int} (h : Bytes B w a len zs) (hg : w.grownBy w' (some g)) (hB : B ≤ g) : Bytes B w' a len zs := by
  refine ⟨h.1, ?_⟩
  rcases h.2 with h | ⟨b, off, ha, hb, hc⟩
  · exact .inl h
  · exact .inr ⟨b, off, ha, hb, fun j hj => hg.cell (hc j hj) (by simp; omega)⟩

theorem cell_three {w : World} {g : Nat} {x y z : Value} {t : TypeId} (h : w.heap[g]? = some (.cells #[x, y, z] t (0, 0))) :
    w.cell? ⟨g, 0, none⟩ = some x ∧ w.cell? ⟨g, 1, none⟩ = some y ∧ w.cell? ⟨g, 2, none⟩ = some z ∧ w.frozen? ⟨g, 0, none⟩ = false ∧ w.frozen? ⟨g, 1, none⟩ = false ∧ w.frozen? ⟨g, 2, none⟩ = false := by
  refine ⟨?_, ?_, ?_, ?_, ?_, ?_⟩
  · rw [cell_of_row w g 0 _ t (0, 0) h]; rfl
  · rw [cell_of_row w g 1 _ t (0, 0) h]; rfl
  · rw [cell_of_row w g 2 _ t (0, 0) h]; rfl
  · exact frozen_of_row w g 0 _ t h
  · exact frozen_of_row w g 1 _ t h
  · exact frozen_of_row w g 2 _ t h

theorem set_three {w : World} {g j : Nat} {cs : Array Value} {t : TypeId} (u : Value) (h : w.heap[g]? = some (.cells cs t (0, 0))) :
    (w.setCell ⟨g, j, none⟩ u).heap[g]? = some (.cells (cs.setIfInBounds j u) t (0, 0)) ∧ w.grownBy (w.setCell ⟨g, j, none⟩ u) (some g) :=
  ⟨heap_setCell_same w g j cs t u h, ⟨rfl, rfl, rfl, by simp, fun k _ hk => heap_setCell_other w ⟨g, j, none⟩ k u (fun e => hk (by simp [e]))⟩⟩

theorem grown_drewN {a b : World} {row : Option Nat} (h : a.grownBy b row) (n : Nat) : a.grownBy (b.drewN n) row := ⟨h.os, h.tape, h.output, h.size, h.block⟩

theorem lit_cell {w w2 : World} {g n : Nat} {cs : Array Value} {t : TypeId} (hg : (w.alloc (.cells cs t)).grownBy w2 (some g)) (hgs : g < w.heap.size) (x : Int) (h0 : 0 ≤ x) (h1 : x < n)
    (hcs : ∀ j, j < n → ∃ v, cs[j]? = some (.int .i64 v)) : ∃ v, w2.cell? ⟨w.heap.size, x.toNat, none⟩ = some (.int .i64 v) := by
  obtain ⟨v, hv⟩ := hcs x.toNat (by omega)
  refine ⟨v, ?_⟩
  refine hg.cell ?_ (by simp; omega)
  rw [cell_of_row (w.alloc (.cells cs t)) w.heap.size x.toNat cs t (0, 0) (heap_alloc_new w _)]
  exact hv



def Row8 (w : World) (a : Option Addr) (len : Nat) (zs : List Int) : Prop :=
  len ≤ 2305843009213693952 ∧ (len = 0 ∨ ∃ b off, a = some ⟨b, off, none⟩ ∧ b < w.heap.size ∧ ∀ j, j < len → w.cell? ⟨b, off + j, none⟩ = some (.int .u8 (zs.getD j 0)))

theorem below_of_grown {w w1 w' : World} (h : Below w.heap.size w w1) (hg : w1.grownBy w' (some w.heap.size)) : Below w.heap.size w w' :=
  h.grown hg h.size (by intro k hk; cases hk; exact Nat.le_refl _)

theorem row8_below {w w' : World} {a : Option Addr} {len : Nat} {zs : List Int} (h : Row8 w a len zs) (hb : Below w.heap.size w w') : Row8 w' a len zs := by
  refine ⟨h.1, ?_⟩
  rcases h.2 with h | ⟨b, off, ha, hlt, hc⟩
  · exact .inl h
  · exact .inr ⟨b, off, ha, Nat.lt_of_lt_of_le hlt hb.size, fun j hj => (hb.cell (by exact hlt)).trans (hc j hj)⟩


theorem tab_grown {w w' : World} {g b : Nat} {xs : List Int} (hg : w.grownBy w' (some g)) (hb : b ≠ g) (h : ∀ x : Int, 0 ≤ x → x < xs.length → w.cell? ⟨b, x.toNat, none⟩ = some (.int .i64 (xs.getD x.toNat 0))) :
    ∀ x : Int, 0 ≤ x → x < xs.length → w'.cell? ⟨b, x.toNat, none⟩ = some (.int .i64 (xs.getD x.toNat 0)) := fun x h0 h1 => hg.cell (h x h0 h1) (by simp; omega)

end Go.Proofs.Ytpfgggjcaogkkaa
