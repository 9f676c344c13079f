
/- The contracts of the specification's cursor over the bytes of a draw: whatever the bytes, a number is drawn within its bounds, and only the cursor's own cell turns. Conditions: the bytes lie below the cursor; they are at most 2^61. -/
import Derived.Test.YteblffhbennpnaaDoorLists
namespace Go.Proofs.YteblffhbennpnaaDoor
open Go.ChangeShapes Go.WideShapes Go.ChangeAt Go.RowKit

def Bytes (B : Nat) (w : World) (a : Option Addr) (len : Nat) (zs : List Int) : Prop :=
  len ≤ 2305843009213693952 ∧ (len = 0 ∨ ∃ b off, a = some ⟨b, off, none⟩ ∧ b < B ∧ ∀ j, j < len → w.cell? ⟨b, off + j, none⟩ = some (.int .u8 (zs.getD j 0)))

def Cur (B : Nat) (w : World) (g : Nat) : Prop :=
  B ≤ g ∧ ∃ a len cap zs, ∃ (i : Nat) (h : Int), i ≤ len ∧ w.heap[g]? = some (.cells #[.slice a len cap, .int .i64 i, .int .i64 h] 85 (0, 0)) ∧ Bytes B w a len zs

theorem wrap64_id {n : Int} (h0 : 0 ≤ n) (h1 : n < 9223372036854775808) : wrap64 n = n := by unfold wrap64; omega
theorem and_255 (x : Int) : 0 ≤ bits .and .i64 x 255 ∧ bits .and .i64 x 255 ≤ 255 := by
  have h : (BitVec.ofInt 64 x &&& BitVec.ofInt 64 255).toNat ≤ 255 := by
    rw [BitVec.toNat_and]
    exact Nat.le_trans Nat.and_le_right (by decide)
  have e : bits .and .i64 x 255 = IntKind.i64.wrap ((BitVec.ofInt 64 x &&& BitVec.ofInt 64 255).toNat : Int) := rfl
  rw [e, IntWalk.i64_left, wrap64_id (by omega) (by omega)]
  omega

theorem bytes_of {B g : Nat} {w w' : World} {a : Option Addr} {len : Nat} {zs : List Int} (h : Bytes B w a len zs) (hg : w.grownBy w' (some g)) (hB : B ≤ g) : Bytes B w' a len zs := by
  refine ⟨h.1, ?_⟩
  rcases h.2 with h | ⟨b, off, ha, hb, hc⟩
  · exact .inl h
  · exact .inr ⟨b, off, ha, hb, fun j hj => hg.cell (hc j hj) (by simp; omega)⟩

theorem cell_three {w : World} {g : Nat} {x y z : Value} {t : TypeId} (h : w.heap[g]? = some (.cells #[x, y, z] t (0, 0))) :
    w.cell? ⟨g, 0, none⟩ = some x ∧ w.cell? ⟨g, 1, none⟩ = some y ∧ w.cell? ⟨g, 2, none⟩ = some z ∧ w.frozen? ⟨g, 0, none⟩ = false ∧ w.frozen? ⟨g, 1, none⟩ = false ∧ w.frozen? ⟨g, 2, none⟩ = false := by
  refine ⟨?_, ?_, ?_, ?_, ?_, ?_⟩
  · rw [cell_of_row w g 0 _ t (0, 0) h]; rfl
  · rw [cell_of_row w g 1 _ t (0, 0) h]; rfl
  · rw [cell_of_row w g 2 _ t (0, 0) h]; rfl
  · exact frozen_of_row w g 0 _ t h
  · exact frozen_of_row w g 1 _ t h
  · exact frozen_of_row w g 2 _ t h

theorem set_three {w : World} {g j : Nat} {cs : Array Value} {t : TypeId} (u : Value) (h : w.heap[g]? = some (.cells cs t (0, 0))) :
    (w.setCell ⟨g, j, none⟩ u).heap[g]? = some (.cells (cs.setIfInBounds j u) t (0, 0)) ∧ w.grownBy (w.setCell ⟨g, j, none⟩ u) (some g) :=
  ⟨heap_setCell_same w g j cs t u h, ⟨rfl, rfl, rfl, by simp, fun k _ hk => heap_setCell_other w ⟨g, j, none⟩ k u (fun e => hk (by simp [e]))⟩⟩

theorem grown_drewN {a b : World} {row : Option Nat} (h : a.grownBy b row) (n : Nat) : a.grownBy (b.drewN n) row := ⟨h.os, h.tape, h.output, h.size, h.block⟩

theorem cur_set {B g : Nat} {w : World} {a : Option Addr} {len cap : Nat} {zs : List Int} {i : Nat} {h : Int} (hB : B ≤ g) (hi : i ≤ len)
    (hblk : w.heap[g]? = some (.cells #[.slice a len cap, .int .i64 i, .int .i64 h] 85 (0, 0))) (hby : Bytes B w a len zs) (h' : Int) (n : Nat) :
    Cur B ((w.setCell ⟨g, 2, none⟩ (.int .i64 h')).drewN n) g ∧ w.grownBy ((w.setCell ⟨g, 2, none⟩ (.int .i64 h')).drewN n) (some g) := by
  have s := set_three (j := 2) (.int .i64 h') hblk
  have gr := grown_drewN s.2 n
  exact ⟨⟨hB, a, len, cap, zs, i, h', hi, s.1, bytes_of hby gr hB⟩, gr⟩

theorem cur_set2 {B g : Nat} {w : World} {a : Option Addr} {len cap : Nat} {zs : List Int} {i : Nat} {h : Int} (hB : B ≤ g) (hi : i < len)
    (hblk : w.heap[g]? = some (.cells #[.slice a len cap, .int .i64 i, .int .i64 h] 85 (0, 0))) (hby : Bytes B w a len zs) (h' : Int) (n : Nat) :
    Cur B (((w.setCell ⟨g, 2, none⟩ (.int .i64 h')).drewN n).setCell ⟨g, 1, none⟩ (.int .i64 ((i : Int) + 1))) g ∧ w.grownBy (((w.setCell ⟨g, 2, none⟩ (.int .i64 h')).drewN n).setCell ⟨g, 1, none⟩ (.int .i64 ((i : Int) + 1))) (some g) := by
  have s := set_three (j := 2) (.int .i64 h') hblk
  have gr := grown_drewN s.2 n
  have s2 := set_three (w := (w.setCell ⟨g, 2, none⟩ (.int .i64 h')).drewN n) (j := 1) (.int .i64 ((i : Int) + 1)) s.1
  have gr2 := grown_trans gr s2.2
  exact ⟨⟨hB, a, len, cap, zs, i + 1, h', by omega, s2.1, bytes_of hby gr2 hB⟩, gr2⟩

set_option maxHeartbeats 1000000 in
theorem l1Byte_any (B g : Nat) (w : World) (hcur : Cur B w g) :
    Calls Tryd.prog 50 #[.pointer (some ⟨g, 0, none⟩)] w fun e w' => ∃ x : Int, e = .returned (.int .i64 x) ∧ 0 ≤ x ∧ x ≤ 255 ∧ Cur B w' g ∧ w.grownBy w' (some g) := by
  obtain ⟨hBg, a, len, cap, zs, i, h, hi, hblk, hby⟩ := hcur
  obtain ⟨c0, c1, c2, f0, f1, f2⟩ := cell_three hblk
  have hl := hby.1
  by_cases hlt : i < len
  · rcases hby.2 with h0 | ⟨b, off, rfl, hb, hc⟩
    · omega
    have gb := hc i hlt
    have hne : b ≠ g := by omega
    have hlt' : (i : Int) < (len : Int) := by omega
    clear hc
    go_enter Tryd.func50, Tryd.ntmps50
    go_wp2
    go_quiet (fail)
    go_wp2
    go_quiet (fail)
    go_wp2
    go_quiet (fail)
    go_wp2
    go_ret
    have A := and_255
    have C := cur_set2 hBg hlt hblk hby
    exact ⟨_, rfl, (A _).1, (A _).2, C _ _⟩
  · go_enter Tryd.func50, Tryd.ntmps50
    go_wp2
    go_quiet (fail)
    go_wp2
    go_quiet (fail)
    go_wp2
    go_ret
    have A := and_255
    have C := cur_set hBg hi hblk hby
    rw [World.drewN_drewN]
    exact ⟨_, rfl, (A _).1, (A _).2, C _ _⟩

set_option maxHeartbeats 400000 in
theorem l1Below_small (B g : Nat) (n : Int) (w : World) (hcur : Cur B w g) (h0 : 0 < n) (h1 : n ≤ 256) :
    Calls Tryd.prog 28 #[.pointer (some ⟨g, 0, none⟩), .int .i64 n] w fun e w' => ∃ x : Int, e = .returned (.int .i64 x) ∧ 0 ≤ x ∧ x < n ∧ Cur B w' g ∧ w.grownBy w' (some g) := by
  have hne : (n == 0) = false := by simp; omega
  go_enter Tryd.func28, Tryd.ntmps28
  go_wp2_with (go_at_call 50; refine (l1Byte_any B g _ hcur).mono ?_; rintro e w1 ⟨x, rfl, hx0, hx1, hc, hg⟩)
  go_ret
  exact ⟨_, rfl, Int.emod_nonneg _ (by omega), Int.emod_lt_of_pos _ h0, hc, hg⟩

set_option maxHeartbeats 400000 in
theorem l1Once_small (B g : Nat) (n : Int) (w : World) (hcur : Cur B w g) (h0 : 0 < n) (h1 : n ≤ 256) :
    Calls Tryd.prog 27 #[.pointer (some ⟨g, 0, none⟩), .int .i64 n] w fun e w' => ∃ x : Bool, e = .returned (.bool x) ∧ Cur B w' g ∧ w.grownBy w' (some g) := by
  go_enter Tryd.func27, Tryd.ntmps27
  go_wp2_with (go_at_call 28; refine (l1Below_small B g n _ hcur h0 h1).mono ?_; rintro e w1 ⟨x, rfl, hx0, hx1, hc, hg⟩)
  go_ret
  exact ⟨_, rfl, hc, hg⟩

theorem cur_alloc {B g : Nat} {w : World} (h : Cur B w g) (o : Obj) : Cur B (w.alloc o) g := by
  obtain ⟨hB, a, len, cap, zs, i, hh, hi, hblk, hby⟩ := h
  have hlt : g < w.heap.size := (Array.getElem?_eq_some_iff.1 hblk).1
  refine ⟨hB, a, len, cap, zs, i, hh, hi, (Below.heap_alloc w o g hlt).trans hblk, hby.1, ?_⟩
  rcases hby.2 with h | ⟨b, off, ha, hb, hc⟩
  · exact .inl h
  · exact .inr ⟨b, off, ha, hb, fun j hj => (World.cell?_alloc_past _ _ _ (by show b < w.heap.size; omega)).trans (hc j hj)⟩
theorem cur_lt {B g : Nat} {w : World} (h : Cur B w g) : g < w.heap.size := by
  obtain ⟨hB, a, len, cap, zs, i, hh, hi, hblk, hby⟩ := h
  exact (Array.getElem?_eq_some_iff.1 hblk).1

theorem lit_cell {w w2 : World} {g n : Nat} {cs : Array Value} {t : TypeId} (hg : (w.alloc (.cells cs t)).grownBy w2 (some g)) (hgs : g < w.heap.size) (x : Int) (h0 : 0 ≤ x) (h1 : x < n)
    (hcs : ∀ j, j < n → ∃ v, cs[j]? = some (.int .i64 v)) : ∃ v, w2.cell? ⟨w.heap.size, x.toNat, none⟩ = some (.int .i64 v) := by
  obtain ⟨v, hv⟩ := hcs x.toNat (by omega)
  refine ⟨v, ?_⟩
  refine hg.cell ?_ (by simp; omega)
  rw [cell_of_row (w.alloc (.cells cs t)) w.heap.size x.toNat cs t (0, 0) (heap_alloc_new w _)]
  exact hv



def Row8 (w : World) (a : Option Addr) (len : Nat) (zs : List Int) : Prop :=
  len ≤ 2305843009213693952 ∧ (len = 0 ∨ ∃ b off, a = some ⟨b, off, none⟩ ∧ b < w.heap.size ∧ ∀ j, j < len → w.cell? ⟨b, off + j, none⟩ = some (.int .u8 (zs.getD j 0)))

theorem cur_new {w : World} {a : Option Addr} {len cap : Nat} {zs : List Int} (hr : Row8 w a len zs) (h : Int) :
    Cur w.heap.size (w.alloc (.cells #[.slice a len cap, .int .i64 0, .int .i64 h] 85)) w.heap.size ∧
      Below w.heap.size w (w.alloc (.cells #[.slice a len cap, .int .i64 0, .int .i64 h] 85)) := by
  refine ⟨⟨Nat.le_refl _, a, len, cap, zs, 0, h, Nat.zero_le _, heap_alloc_new w _, hr.1, ?_⟩, (Below.refl _ _).alloc (Nat.le_refl _) _⟩
  rcases hr.2 with h | ⟨b, off, ha, hb, hc⟩
  · exact .inl h
  · exact .inr ⟨b, off, ha, hb, fun j hj => (World.cell?_alloc_past _ _ _ (by show b < w.heap.size; omega)).trans (hc j hj)⟩

set_option maxHeartbeats 400000 in
theorem l1New_any (a : Option Addr) (len cap : Nat) (zs : List Int) (w : World) (hr : Row8 w a len zs) :
    Calls Tryd.prog 24 #[.slice a len cap] w fun e w' => e = .returned (.pointer (some ⟨w.heap.size, 0, none⟩)) ∧ Cur w.heap.size w' w.heap.size ∧ Below w.heap.size w w' := by
  have hl := hr.1
  go_enter Tryd.func24, Tryd.ntmps24
  go_wp2
  go_loop [3, 4] (fun q i => ∃ (k : Nat) (h : Int), k ≤ len ∧ i = .int .i64 k ∧ q = .int .i64 h) (fun _ i => len - (intOf i).toNat)
  case atStart => exact ⟨0, _, Nat.zero_le _, rfl, rfl⟩
  case round =>
    obtain ⟨k, h, hk, rfl, rfl⟩ := hrel
    by_cases hlt : k < len
    · rcases hr.2 with h | ⟨b, off, rfl, hb, hc⟩
      · omega
      have gb := hc k hlt
      have hlt' : (k : Int) < (len : Int) := by omega
      clear hc
      go_wp2
      go_round
      case rel => exact ⟨k + 1, _, by omega, by go_num, rfl⟩
      case measure => simp [intOf]; omega
    · go_wp2
      go_ret
      exact ⟨rfl, cur_new hr h⟩

theorem below_of_grown {w w1 w' : World} (h : Below w.heap.size w w1) (hg : w1.grownBy w' (some w.heap.size)) : Below w.heap.size w w' :=
  h.grown hg h.size (by intro k hk; cases hk; exact Nat.le_refl _)

theorem row8_below {w w' : World} {a : Option Addr} {len : Nat} {zs : List Int} (h : Row8 w a len zs) (hb : Below w.heap.size w w') : Row8 w' a len zs := by
  refine ⟨h.1, ?_⟩
  rcases h.2 with h | ⟨b, off, ha, hlt, hc⟩
  · exact .inl h
  · exact .inr ⟨b, off, ha, Nat.lt_of_lt_of_le hlt hb.size, fun j hj => (hb.cell (by exact hlt)).trans (hc j hj)⟩

set_option maxHeartbeats 400000 in
theorem big_any (a : Option Addr) (len cap : Nat) (w : World) :
    Calls Tryd.prog 6 #[.slice a len cap] w fun e w' => e = .returned (.bool (decide ((4096 : Int) < len))) ∧ w' = w := by
  go_enter Tryd.func6, Tryd.ntmps6
  go_wp2
  go_ret
  exact ⟨rfl, rfl⟩

theorem cur_drew {B g : Nat} {w : World} (h : Cur B w g) : Cur B w.drew g := h

set_option maxHeartbeats 400000 in
theorem l1From_small (B g : Nat) (lo hi : Int) (w : World) (hcur : Cur B w g) (h0 : lo ≤ hi) (h1 : hi - lo < 256) (h2 : -1000000 ≤ lo) (h3 : hi ≤ 1000000) :
    Calls Tryd.prog 29 #[.pointer (some ⟨g, 0, none⟩), .int .i64 lo, .int .i64 hi] w fun e w' => ∃ x : Int, e = .returned (.int .i64 x) ∧ lo ≤ x ∧ x ≤ hi ∧ Cur B w' g ∧ w.grownBy w' (some g) := by
  go_enter Tryd.func29, Tryd.ntmps29
  go_wp2_with (go_at_call 28; refine (l1Below_small B g _ _ hcur (by omega) (by omega)).mono ?_; rintro e w1 ⟨x, rfl, hx0, hx1, hc, hg⟩)
  go_ret
  exact ⟨_, rfl, by omega, by omega, hc, hg⟩

theorem tab_grown {w w' : World} {g b : Nat} {xs : List Int} (hg : w.grownBy w' (some g)) (hb : b ≠ g) (h : ∀ x : Int, 0 ≤ x → x < xs.length → w.cell? ⟨b, x.toNat, none⟩ = some (.int .i64 (xs.getD x.toNat 0))) :
    ∀ x : Int, 0 ≤ x → x < xs.length → w'.cell? ⟨b, x.toNat, none⟩ = some (.int .i64 (xs.getD x.toNat 0)) := fun x h0 h1 => hg.cell (h x h0 h1) (by simp; omega)

end Go.Proofs.YteblffhbennpnaaDoor
