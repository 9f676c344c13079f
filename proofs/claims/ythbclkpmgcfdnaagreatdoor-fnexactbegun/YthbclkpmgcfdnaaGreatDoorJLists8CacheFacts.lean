
/- Lists, Draw, MapsV, Lits, Nums, BadP, Bits, CacheFacts. -/
import Derived.Test.YthbclkpmgcfdnaaGreatDoorRows
import Derived.WalkKit
import Derived.ProofKit
import Derived.OpenShut
import Derived.Deep.QuietTactic
import Derived.BigQuiet
import Derived.WalkSmall
import Derived.Maps.OwnSet
import Derived.DeepKeys4
import Derived.WideKeyEntry
import Derived.Orders
import Derived.Maps.AppendAt
import Derived.Below
/- The contracts of the laws' own helpers over lists of numbers: two lists that read alike are told alike; what is marked is held. Conditions: the lists are shorter than 2^61. -/
namespace Go.Proofs.YthbclkpmgcfdnaaGreatDoor
open Go.ChangeShapes Go.WideShapes Go.ChangeAt Go.RowKit
def Reads (w : World) (a : Option Addr) (xs : List Int) : Prop :=
  xs = [] ∨ ∃ b off, a = some ⟨b, off, none⟩ ∧ ∀ j, j < xs.length → w.cell? ⟨b, off + j, none⟩ = some (.int .i64 (xs.getD j 0))

set_option maxHeartbeats 400000 in
theorem eqInts_any (a1 a2 : Option Addr) (xs : List Int) (c1 c2 : Nat) (w : World) (h1 : Reads w a1 xs) (h2 : Reads w a2 xs) (hm : xs.length ≤ 2305843009213693952) :
    Calls Tryz.prog 92 #[.slice a1 xs.length c1, .slice a2 xs.length c2] w fun e w' => e = .returned (.bool true) ∧ ∃ n, w' = w.drewN n := by
  go_enter Tryz.func92, Tryz.ntmps92
  go_wp2
  go_loopw [5] (fun i wr => ∃ k : Nat, k ≤ xs.length ∧ i = .int .i64 k ∧ ∃ n, wr = w.drewN n) (fun i _ => xs.length - (intOf i).toNat)
  case atStart => exact ⟨0, Nat.zero_le _, rfl, 0, rfl⟩
  case round =>
    obtain ⟨k, hk, rfl, n, rfl⟩ := hrel
    by_cases hlt : k < xs.length
    · rcases h1 with rfl | ⟨b1, o1, rfl, hc1⟩
      · simp at hlt
      rcases h2 with rfl | ⟨b2, o2, rfl, hc2⟩
      · simp at hlt
      have g1 := hc1 k hlt
      have g2 := hc2 k hlt
      have hlt' : (k : Int) < (xs.length : Int) := by omega
      clear hc1 hc2
      go_wp2
      go_quiet (fail)
      go_wp2
      go_roundw
      case rel => exact ⟨k + 1, by omega, by go_num, _, rfl⟩
      case measure => simp [intOf]; omega
    · go_wp2
      go_ret
      exact ⟨rfl, _, rfl⟩



def seqs (k : Int) (n : Nat) : List Int := (List.range n).map (fun (j : Nat) => k + (j : Int))
theorem seqs_len (k : Int) (n : Nat) : (seqs k n).length = n := by simp [seqs]
theorem seqs_get (k : Int) (n j : Nat) (h : j < n) : (seqs k n).getD j 0 = k + j := by
  simp [seqs, List.getD_eq_getElem?_getD, h]
theorem seqs_succ (k : Int) (n : Nat) : seqs k (n + 1) = seqs k n ++ [k + n] := by simp [seqs, List.range_succ]
theorem grown_trans {a b c : World} {row : Option Nat} (h : a.grownBy b row) (k : b.grownBy c row) : a.grownBy c row :=
  ⟨k.os.trans h.os, k.tape.trans h.tape, k.output.trans h.output, Nat.le_trans h.size k.size, fun j hj hne => (k.block j (Nat.lt_of_lt_of_le hj h.size) hne).trans (h.block j hj hne)⟩
theorem mark_step (k : Int) (j : Nat) (xs : List Value) (h : j < xs.length) :
    ((seqs k j).map (Value.int .i64) ++ xs.drop j).set j (.int .i64 (k + j)) = (seqs k (j + 1)).map (Value.int .i64) ++ xs.drop (j + 1) := by
  have hl : ((seqs k j).map (Value.int .i64)).length = j := by simp [seqs_len]
  rw [List.set_append_right _ _ (by omega), hl, Nat.sub_self, List.drop_eq_getElem_cons h, seqs_succ]
  simp only [List.set_cons_zero, List.map_append, List.map_cons, List.map_nil, List.append_assoc, List.cons_append, List.nil_append]
set_option maxHeartbeats 400000 in
theorem mark_any (B e g cap : Nat) (k : Int) (n : Nat) (xs : List Value) (w : World) (h0 : 0 ≤ k) (h1 : k ≤ 2305843009213693952) (hm : n ≤ 2305843009213693952)
    (hown : w.ownsRow B e 1 (.slice (some ⟨g, 0, none⟩) n cap) n xs) :
    Calls Tryz.prog 96 #[.slice (some ⟨g, 0, none⟩) n cap, .int .i64 k] w fun e' w' => e' = .returned (.int .i64 (k + n)) ∧
      w'.ownsRow B e 1 (.slice (some ⟨g, 0, none⟩) n cap) n ((seqs k n).map (Value.int .i64)) ∧ w.grownBy w' (some g) := by
  have hl : xs.length = n := by simpa using hown.1
  go_enter Tryz.func96, Tryz.ntmps96
  go_wp2
  go_loopw [1, 5] (fun q i wr => ∃ j : Nat, j ≤ n ∧ i = .int .i64 j ∧ q = .int .i64 (k + j) ∧ wr.ownsRow B e 1 (.slice (some ⟨g, 0, none⟩) n cap) n ((seqs k j).map (Value.int .i64) ++ xs.drop j) ∧ w.grownBy wr (some g))
    (fun _ i _ => n - (intOf i).toNat)
  case atStart => exact ⟨0, Nat.zero_le _, rfl, by simp, by simpa [seqs] using hown, World.grownBy.refl _ _⟩
  case round =>
    obtain ⟨j, hj, rfl, rfl, hr, hg⟩ := hrel
    by_cases hlt : j < n
    · have hlt' : (j : Int) < (n : Int) := by omega
      have hfz := hr.frozenAt j
      obtain ⟨v0, hc⟩ : ∃ v0, wr.cell? ⟨g, j, none⟩ = some v0 := by
        rw [hr.cellAt j (by omega)]
        exact ⟨_, List.getElem?_eq_getElem (by have := hr.1; omega)⟩
      have R := hr.stored j (.int .i64 (k + j))
      rw [mark_step k j xs (by omega)] at R
      have HR : Hid _ := R
      clear R
      go_wp2
      go_roundw
      case rel => exact ⟨j + 1, by omega, by go_num, by go_num, HR.out.1, grown_trans hg HR.out.2⟩
      case measure => simp [intOf]; omega
    · have hjn : j = n := by omega
      subst hjn
      go_wp2
      go_ret
      exact ⟨rfl, by simpa [List.drop_of_length_le (Nat.le_of_eq hl)] using hr, hg⟩

set_option maxHeartbeats 400000 in
theorem held_any (a : Option Addr) (cap : Nat) (k : Int) (n : Nat) (w : World) (h0 : 0 ≤ k) (h1 : k ≤ 2305843009213693952) (hm : n ≤ 2305843009213693952)
    (hr : Reads w a (seqs k n)) :
    Calls Tryz.prog 100 #[.slice a n cap, .int .i64 k] w fun e' w' => e' = .returned (.int .i64 (k + n)) ∧ w' = w := by
  go_enter Tryz.func100, Tryz.ntmps100
  go_wp2
  go_loop [1, 5] (fun q i => ∃ j : Nat, j ≤ n ∧ i = .int .i64 j ∧ q = .int .i64 (k + j)) (fun _ i => n - (intOf i).toNat)
  case atStart => exact ⟨0, Nat.zero_le _, rfl, by simp⟩
  case round =>
    obtain ⟨j, hj, rfl, rfl⟩ := hrel
    by_cases hlt : j < n
    · rcases hr with h | ⟨b, off, rfl, hc⟩
      · have := seqs_len k n; rw [h] at this; simp at this; omega
      have hlt' : (j : Int) < (n : Int) := by omega
      have g1 := hc j (by rw [seqs_len]; omega)
      rw [seqs_get k n j hlt] at g1
      clear hc
      go_wp2
      go_round
      case rel => exact ⟨j + 1, by omega, by go_num, by go_num⟩
      case measure => simp [intOf]; omega
    · have hjn : j = n := by omega
      subst hjn
      go_wp2
      go_ret
      exact ⟨rfl, rfl⟩
theorem own_grown {w w' : World} {base e size g n cap r : Nat} {xs : List Value} (h : w.ownsRow base e size (.slice (some ⟨g, 0, none⟩) n cap) n xs) (hb : w.grownBy w' (some r)) (hg : g ≠ r) :
    w'.ownsRow base e size (.slice (some ⟨g, 0, none⟩) n cap) n xs :=
  h.kept hb (.inr (by simp [Value.ownBlock, hg]))
end Go.Proofs.YthbclkpmgcfdnaaGreatDoor
/- The contracts of the specification's cursor over the bytes of a draw: whatever the bytes, a number is drawn within its bounds, and only the cursor's own cell turns. Conditions: the bytes lie below the cursor; they are at most 2^61. -/
namespace Go.Proofs.YthbclkpmgcfdnaaGreatDoor
open Go.ChangeShapes Go.WideShapes Go.ChangeAt Go.RowKit
def Bytes (B : Nat) (w : World) (a : Option Addr) (len : Nat) (zs : List Int) : Prop :=
  len ≤ 2305843009213693952 ∧ (len = 0 ∨ ∃ b off, a = some ⟨b, off, none⟩ ∧ b < B ∧ ∀ j, j < len → w.cell? ⟨b, off + j, none⟩ = some (.int .u8 (zs.getD j 0)))
def Cur (B : Nat) (w : World) (g : Nat) : Prop :=
  B ≤ g ∧ ∃ a len cap zs, ∃ (i : Nat) (h : Int), i ≤ len ∧ w.heap[g]? = some (.cells #[.slice a len cap, .int .i64 i, .int .i64 h] 127 (0, 0)) ∧ Bytes B w a len zs
theorem wrap64_id {n : Int} (h0 : 0 ≤ n) (h1 : n < 9223372036854775808) : wrap64 n = n := by unfold wrap64; omega
theorem and_255 (x : Int) : 0 ≤ bits .and .i64 x 255 ∧ bits .and .i64 x 255 ≤ 255 := by
  have h : (BitVec.ofInt 64 x &&& BitVec.ofInt 64 255).toNat ≤ 255 := by
    rw [BitVec.toNat_and]
    exact Nat.le_trans Nat.and_le_right (by decide)
  have e : bits .and .i64 x 255 = IntKind.i64.wrap ((BitVec.ofInt 64 x &&& BitVec.ofInt 64 255).toNat : Int) := rfl
  rw [e, IntWalk.i64_left, wrap64_id (by omega) (by omega)]
  omega
theorem bytes_of {B g : Nat} {w w' : World} {a : Option Addr} {len : Nat} {zs : List Int} (h : Bytes B w a len zs) (hg : w.grownBy w' (some g)) (hB : B ≤ g) : Bytes B w' a len zs := by
  refine ⟨h.1, ?_⟩
  rcases h.2 with h | ⟨b, off, ha, hb, hc⟩
  · exact .inl h
  · exact .inr ⟨b, off, ha, hb, fun j hj => hg.cell (hc j hj) (by simp; omega)⟩
theorem cell_three {w : World} {g : Nat} {x y z : Value} {t : TypeId} (h : w.heap[g]? = some (.cells #[x, y, z] t (0, 0))) :
    w.cell? ⟨g, 0, none⟩ = some x ∧ w.cell? ⟨g, 1, none⟩ = some y ∧ w.cell? ⟨g, 2, none⟩ = some z ∧ w.frozen? ⟨g, 0, none⟩ = false ∧ w.frozen? ⟨g, 1, none⟩ = false ∧ w.frozen? ⟨g, 2, none⟩ = false := by
  refine ⟨?_, ?_, ?_, ?_, ?_, ?_⟩
  · rw [cell_of_row w g 0 _ t (0, 0) h]; rfl
  · rw [cell_of_row w g 1 _ t (0, 0) h]; rfl
  · rw [cell_of_row w g 2 _ t (0, 0) h]; rfl
  · exact frozen_of_row w g 0 _ t h
  · exact frozen_of_row w g 1 _ t h
  · exact frozen_of_row w g 2 _ t h
theorem set_three {w : World} {g j : Nat} {cs : Array Value} {t : TypeId} (u : Value) (h : w.heap[g]? = some (.cells cs t (0, 0))) :
    (w.setCell ⟨g, j, none⟩ u).heap[g]? = some (.cells (cs.setIfInBounds j u) t (0, 0)) ∧ w.grownBy (w.setCell ⟨g, j, none⟩ u) (some g) :=
  ⟨heap_setCell_same w g j cs t u h, ⟨rfl, rfl, rfl, by simp, fun k _ hk => heap_setCell_other w ⟨g, j, none⟩ k u (fun e => hk (by simp [e]))⟩⟩
theorem grown_drewN {a b : World} {row : Option Nat} (h : a.grownBy b row) (n : Nat) : a.grownBy (b.drewN n) row := ⟨h.os, h.tape, h.output, h.size, h.block⟩
theorem cur_set {B g : Nat} {w : World} {a : Option Addr} {len cap : Nat} {zs : List Int} {i : Nat} {h : Int} (hB : B ≤ g) (hi : i ≤ len)
    (hblk : w.heap[g]? = some (.cells #[.slice a len cap, .int .i64 i, .int .i64 h] 127 (0, 0))) (hby : Bytes B w a len zs) (h' : Int) (n : Nat) :
    Cur B ((w.setCell ⟨g, 2, none⟩ (.int .i64 h')).drewN n) g ∧ w.grownBy ((w.setCell ⟨g, 2, none⟩ (.int .i64 h')).drewN n) (some g) := by
  have s := set_three (j := 2) (.int .i64 h') hblk
  have gr := grown_drewN s.2 n
  exact ⟨⟨hB, a, len, cap, zs, i, h', hi, s.1, bytes_of hby gr hB⟩, gr⟩
theorem cur_set2 {B g : Nat} {w : World} {a : Option Addr} {len cap : Nat} {zs : List Int} {i : Nat} {h : Int} (hB : B ≤ g) (hi : i < len)
    (hblk : w.heap[g]? = some (.cells #[.slice a len cap, .int .i64 i, .int .i64 h] 127 (0, 0))) (hby : Bytes B w a len zs) (h' : Int) (n : Nat) :
    Cur B (((w.setCell ⟨g, 2, none⟩ (.int .i64 h')).drewN n).setCell ⟨g, 1, none⟩ (.int .i64 ((i : Int) + 1))) g ∧ w.grownBy (((w.setCell ⟨g, 2, none⟩ (.int .i64 h')).drewN n).setCell ⟨g, 1, none⟩ (.int .i64 ((i : Int) + 1))) (some g) := by
  have s := set_three (j := 2) (.int .i64 h') hblk
  have gr := grown_drewN s.2 n
  have s2 := set_three (w := (w.setCell ⟨g, 2, none⟩ (.int .i64 h')).drewN n) (j := 1) (.int .i64 ((i : Int) + 1)) s.1
  have gr2 := grown_trans gr s2.2
  exact ⟨⟨hB, a, len, cap, zs, i + 1, h', by omega, s2.1, bytes_of hby gr2 hB⟩, gr2⟩

set_option maxHeartbeats 1000000 in
theorem l1Byte_any (B g : Nat) (w : World) (hcur : Cur B w g) :
    Calls Tryz.prog 137 #[.pointer (some ⟨g, 0, none⟩)] w fun e w' => ∃ x : Int, e = .returned (.int .i64 x) ∧ 0 ≤ x ∧ x ≤ 255 ∧ Cur B w' g ∧ w.grownBy w' (some g) := by
  obtain ⟨hBg, a, len, cap, zs, i, h, hi, hblk, hby⟩ := hcur
  obtain ⟨c0, c1, c2, f0, f1, f2⟩ := cell_three hblk
  have hl := hby.1
  by_cases hlt : i < len
  · rcases hby.2 with h0 | ⟨b, off, rfl, hb, hc⟩
    · omega
    have gb := hc i hlt
    have hne : b ≠ g := by omega
    have hlt' : (i : Int) < (len : Int) := by omega
    clear hc
    go_enter Tryz.func137, Tryz.ntmps137
    go_wp2
    go_quiet (fail)
    go_wp2
    go_quiet (fail)
    go_wp2
    go_quiet (fail)
    go_wp2
    go_ret
    have A := and_255
    have C := cur_set2 hBg hlt hblk hby
    exact ⟨_, rfl, (A _).1, (A _).2, C _ _⟩
  · go_enter Tryz.func137, Tryz.ntmps137
    go_wp2
    go_quiet (fail)
    go_wp2
    go_quiet (fail)
    go_wp2
    go_ret
    have A := and_255
    have C := cur_set hBg hi hblk hby
    rw [World.drewN_drewN]
    exact ⟨_, rfl, (A _).1, (A _).2, C _ _⟩

set_option maxHeartbeats 400000 in
theorem l1Below_small (B g : Nat) (n : Int) (w : World) (hcur : Cur B w g) (h0 : 0 < n) (h1 : n ≤ 256) :
    Calls Tryz.prog 73 #[.pointer (some ⟨g, 0, none⟩), .int .i64 n] w fun e w' => ∃ x : Int, e = .returned (.int .i64 x) ∧ 0 ≤ x ∧ x < n ∧ Cur B w' g ∧ w.grownBy w' (some g) := by
  have hne : (n == 0) = false := by simp; omega
  go_enter Tryz.func73, Tryz.ntmps73
  go_wp2_with (go_at_call 137; refine (l1Byte_any B g _ hcur).mono ?_; rintro e w1 ⟨x, rfl, hx0, hx1, hc, hg⟩)
  go_ret
  exact ⟨_, rfl, Int.emod_nonneg _ (by omega), Int.emod_lt_of_pos _ h0, hc, hg⟩

set_option maxHeartbeats 400000 in
theorem l1Once_small (B g : Nat) (n : Int) (w : World) (hcur : Cur B w g) (h0 : 0 < n) (h1 : n ≤ 256) :
    Calls Tryz.prog 48 #[.pointer (some ⟨g, 0, none⟩), .int .i64 n] w fun e w' => ∃ x : Bool, e = .returned (.bool x) ∧ Cur B w' g ∧ w.grownBy w' (some g) := by
  go_enter Tryz.func48, Tryz.ntmps48
  go_wp2_with (go_at_call 73; refine (l1Below_small B g n _ hcur h0 h1).mono ?_; rintro e w1 ⟨x, rfl, hx0, hx1, hc, hg⟩)
  go_ret
  exact ⟨_, rfl, hc, hg⟩
theorem cur_alloc {B g : Nat} {w : World} (h : Cur B w g) (o : Obj) : Cur B (w.alloc o) g := by
  obtain ⟨hB, a, len, cap, zs, i, hh, hi, hblk, hby⟩ := h
  have hlt : g < w.heap.size := (Array.getElem?_eq_some_iff.1 hblk).1
  refine ⟨hB, a, len, cap, zs, i, hh, hi, (Below.heap_alloc w o g hlt).trans hblk, hby.1, ?_⟩
  rcases hby.2 with h | ⟨b, off, ha, hb, hc⟩
  · exact .inl h
  · exact .inr ⟨b, off, ha, hb, fun j hj => (World.cell?_alloc_past _ _ _ (by show b < w.heap.size; omega)).trans (hc j hj)⟩
theorem cur_lt {B g : Nat} {w : World} (h : Cur B w g) : g < w.heap.size := by
  obtain ⟨hB, a, len, cap, zs, i, hh, hi, hblk, hby⟩ := h
  exact (Array.getElem?_eq_some_iff.1 hblk).1
theorem lit_cell {w w2 : World} {g n : Nat} {cs : Array Value} {t : TypeId} (hg : (w.alloc (.cells cs t)).grownBy w2 (some g)) (hgs : g < w.heap.size) (x : Int) (h0 : 0 ≤ x) (h1 : x < n)
    (hcs : ∀ j, j < n → ∃ v, cs[j]? = some (.int .i64 v)) : ∃ v, w2.cell? ⟨w.heap.size, x.toNat, none⟩ = some (.int .i64 v) := by
  obtain ⟨v, hv⟩ := hcs x.toNat (by omega)
  refine ⟨v, ?_⟩
  refine hg.cell ?_ (by simp; omega)
  rw [cell_of_row (w.alloc (.cells cs t)) w.heap.size x.toNat cs t (0, 0) (heap_alloc_new w _)]
  exact hv


def Row8 (w : World) (a : Option Addr) (len : Nat) (zs : List Int) : Prop :=
  len ≤ 2305843009213693952 ∧ (len = 0 ∨ ∃ b off, a = some ⟨b, off, none⟩ ∧ b < w.heap.size ∧ ∀ j, j < len → w.cell? ⟨b, off + j, none⟩ = some (.int .u8 (zs.getD j 0)))
theorem cur_new {w : World} {a : Option Addr} {len cap : Nat} {zs : List Int} (hr : Row8 w a len zs) (h : Int) :
    Cur w.heap.size (w.alloc (.cells #[.slice a len cap, .int .i64 0, .int .i64 h] 127)) w.heap.size ∧
      Below w.heap.size w (w.alloc (.cells #[.slice a len cap, .int .i64 0, .int .i64 h] 127)) := by
  refine ⟨⟨Nat.le_refl _, a, len, cap, zs, 0, h, Nat.zero_le _, heap_alloc_new w _, hr.1, ?_⟩, (Below.refl _ _).alloc (Nat.le_refl _) _⟩
  rcases hr.2 with h | ⟨b, off, ha, hb, hc⟩
  · exact .inl h
  · exact .inr ⟨b, off, ha, hb, fun j hj => (World.cell?_alloc_past _ _ _ (by show b < w.heap.size; omega)).trans (hc j hj)⟩

set_option maxHeartbeats 400000 in
theorem l1New_any (a : Option Addr) (len cap : Nat) (zs : List Int) (w : World) (hr : Row8 w a len zs) :
    Calls Tryz.prog 39 #[.slice a len cap] w fun e w' => e = .returned (.pointer (some ⟨w.heap.size, 0, none⟩)) ∧ Cur w.heap.size w' w.heap.size ∧ Below w.heap.size w w' := by
  have hl := hr.1
  go_enter Tryz.func39, Tryz.ntmps39
  go_wp2
  go_loop [3, 4] (fun q i => ∃ (k : Nat) (h : Int), k ≤ len ∧ i = .int .i64 k ∧ q = .int .i64 h) (fun _ i => len - (intOf i).toNat)
  case atStart => exact ⟨0, _, Nat.zero_le _, rfl, rfl⟩
  case round =>
    obtain ⟨k, h, hk, rfl, rfl⟩ := hrel
    by_cases hlt : k < len
    · rcases hr.2 with h | ⟨b, off, rfl, hb, hc⟩
      · omega
      have gb := hc k hlt
      have hlt' : (k : Int) < (len : Int) := by omega
      clear hc
      go_wp2
      go_round
      case rel => exact ⟨k + 1, _, by omega, by go_num, rfl⟩
      case measure => simp [intOf]; omega
    · go_wp2
      go_ret
      exact ⟨rfl, cur_new hr h⟩
theorem below_of_grown {w w1 w' : World} (h : Below w.heap.size w w1) (hg : w1.grownBy w' (some w.heap.size)) : Below w.heap.size w w' :=
  h.grown hg h.size (by intro k hk; cases hk; exact Nat.le_refl _)
theorem row8_below {w w' : World} {a : Option Addr} {len : Nat} {zs : List Int} (h : Row8 w a len zs) (hb : Below w.heap.size w w') : Row8 w' a len zs := by
  refine ⟨h.1, ?_⟩
  rcases h.2 with h | ⟨b, off, ha, hlt, hc⟩
  · exact .inl h
  · exact .inr ⟨b, off, ha, Nat.lt_of_lt_of_le hlt hb.size, fun j hj => (hb.cell (by exact hlt)).trans (hc j hj)⟩

set_option maxHeartbeats 400000 in
theorem big_any (a : Option Addr) (len cap : Nat) (w : World) :
    Calls Tryz.prog 7 #[.slice a len cap] w fun e w' => e = .returned (.bool (decide ((4096 : Int) < len))) ∧ w' = w := by
  go_enter Tryz.func7, Tryz.ntmps7
  go_wp2
  go_ret
  exact ⟨rfl, rfl⟩
theorem cur_drew {B g : Nat} {w : World} (h : Cur B w g) : Cur B w.drew g := h

set_option maxHeartbeats 400000 in
theorem l1From_small (B g : Nat) (lo hi : Int) (w : World) (hcur : Cur B w g) (h0 : lo ≤ hi) (h1 : hi - lo < 256) (h2 : -1000000 ≤ lo) (h3 : hi ≤ 1000000) :
    Calls Tryz.prog 41 #[.pointer (some ⟨g, 0, none⟩), .int .i64 lo, .int .i64 hi] w fun e w' => ∃ x : Int, e = .returned (.int .i64 x) ∧ lo ≤ x ∧ x ≤ hi ∧ Cur B w' g ∧ w.grownBy w' (some g) := by
  go_enter Tryz.func41, Tryz.ntmps41
  go_wp2_with (go_at_call 73; refine (l1Below_small B g _ _ hcur (by omega) (by omega)).mono ?_; rintro e w1 ⟨x, rfl, hx0, hx1, hc, hg⟩)
  go_ret
  exact ⟨_, rfl, by omega, by omega, hc, hg⟩
theorem tab_grown {w w' : World} {g b : Nat} {xs : List Int} (hg : w.grownBy w' (some g)) (hb : b ≠ g) (h : ∀ x : Int, 0 ≤ x → x < xs.length → w.cell? ⟨b, x.toNat, none⟩ = some (.int .i64 (xs.getD x.toNat 0))) :
    ∀ x : Int, 0 ≤ x → x < xs.length → w'.cell? ⟨b, x.toNat, none⟩ = some (.int .i64 (xs.getD x.toNat 0)) := fun x h0 h1 => hg.cell (h x h0 h1) (by simp; omega)
end Go.Proofs.YthbclkpmgcfdnaaGreatDoor
/- A map of the call's own, by what stands at each key: keys of any type that is 'Keyed', elements int64. No program in it. -/
namespace Go.Proofs.YthbclkpmgcfdnaaGreatDoor
open Go.ChangeShapes Go.WideShapes Go.RowKit
open Go.Maps (Keyed has_put_same has_put_other atKey_put_same atKey_put_other)
set_option linter.unusedVariables false
/-- Block b is a map of at most n entries; f tells what stands at each value that is a key. -/
def MapV (P : Program) (k e : TypeId) (w : World) (b n : Nat) (f : Value → Option Int) : Prop :=
  ∃ D : DataW Unit, w.ownsMap P k (plainElem P e) b n D ∧ ∀ v l, keyOf P k v = some l → Maps.has D l = (f v).isSome ∧ D.atKey l (.lit (.int .i64 0)) = .lit (.int .i64 ((f v).getD 0))
open Classical in
noncomputable def putV (f : Value → Option Int) (v : Value) (x : Int) : Value → Option Int := fun u => if u = v then some x else f u
theorem putV_same (f : Value → Option Int) (v : Value) (x : Int) : putV f v x v = some x := by simp [putV]
theorem putV_other (f : Value → Option Int) {v u : Value} (x : Int) (h : u ≠ v) : putV f v x u = f u := by simp [putV, h]
section
variable {P : Program} {k e t : TypeId} {w : World} {b n : Nat} {f : Value → Option Int}
theorem mapV_made (w : World) (P : Program) (k e : TypeId) : MapV P k e (w.alloc (.map #[] 0)) w.heap.size 0 (fun _ => none) :=
  ⟨.map [], World.ownsMap_made w P k _, fun v l _ => ⟨rfl, rfl⟩⟩
theorem MapV.lt (h : MapV P k e w b n f) : b < w.heap.size := by obtain ⟨D, h, _⟩ := h; exact h.lt
theorem MapV.kept {w' : World} {row : Option Nat} (h : MapV P k e w b n f) (hg : w.grownBy w' row) (hne : some b ≠ row) : MapV P k e w' b n f := by
  obtain ⟨D, h, hf⟩ := h; exact ⟨D, h.kept hg hne, hf⟩
theorem MapV.alloc (h : MapV P k e w b n f) (o : Obj) : MapV P k e (w.alloc o) b n f := by obtain ⟨D, h, hf⟩ := h; exact ⟨D, h.alloc o, hf⟩
theorem MapV.drewN (h : MapV P k e w b n f) (q : Nat) : MapV P k e (w.drewN q) b n f := by
  obtain ⟨D, ⟨es, clock, hb, r⟩, hf⟩ := h; exact ⟨D, ⟨es, clock, hb, r⟩, hf⟩
theorem MapV.block {w' : World} (h : MapV P k e w b n f) (hb : w'.heap[b]? = w.heap[b]?) : MapV P k e w' b n f := by
  obtain ⟨D, ⟨es, clock, h0, r⟩, hf⟩ := h; exact ⟨D, ⟨es, clock, by rw [hb]; exact h0, r⟩, hf⟩
theorem MapV.below {w' : World} {m : Nat} (h : MapV P k e w b n f) (hB : Below m w w') (hm : b < m) : MapV P k e w' b n f := h.block (hB.block b hm)
theorem MapV.mono {n' : Nat} (h : MapV P k e w b n f) (hn : n ≤ n') : MapV P k e w b n' f := by obtain ⟨D, h, hf⟩ := h; exact ⟨D, h.mono hn, hf⟩
theorem MapV.congr {g : Value → Option Int} (h : MapV P k e w b n f) (hfg : ∀ v l, keyOf P k v = some l → f v = g v) : MapV P k e w b n g := by
  obtain ⟨D, h, hf⟩ := h
  exact ⟨D, h, fun v l hl => by rw [← hfg v l hl]; exact hf v l hl⟩
/-- m[k] -/
theorem MapV.look (h : MapV P k e w b n f) (K : Keyed P k) (ht : P.underlying t = some (.map k e)) (he : P.underlying e = some (.int .i64)) (hz : (zeroValue e).run P w = .ok (.int .i64 0) w) {v : Value} {l : Lit} (hl : keyOf P k v = some l) :
    (Instr.lookup t (.map (some b)) v false).run P w = .ok (.int .i64 ((f v).getD 0)) w := by
  obtain ⟨D, h, hf⟩ := h
  obtain ⟨c, hrun, hat, _⟩ := h.lookup_int K ht he hz hl
  rw [(hf v l hl).2] at hat
  simp only [DataW.lit.injEq, Lit.int.injEq, true_and] at hat
  rw [hrun, hat]
/-- v, ok := m[k] -/
theorem MapV.look_ok (h : MapV P k e w b n f) (K : Keyed P k) (ht : P.underlying t = some (.map k e)) (he : P.underlying e = some (.int .i64)) (hz : (zeroValue e).run P w = .ok (.int .i64 0) w) {v : Value} {l : Lit} (hl : keyOf P k v = some l) :
    (Instr.lookup t (.map (some b)) v true).run P w = .ok (.tuple #[.int .i64 ((f v).getD 0), .bool (f v).isSome]) w := by
  obtain ⟨D, h, hf⟩ := h
  obtain ⟨x, ps, hrun, hx⟩ := h.look_ok K ht hz (plainElem_int he (by decide)) hl
  rw [(hf v l hl).2] at hx
  obtain ⟨c, rfl, hc, _⟩ := plainElem_int_inv he hx
  simp only [Prod.mk.injEq, DataW.lit.injEq, Lit.int.injEq, true_and] at hc
  rw [hrun, (hf v l hl).1, hc.1]
/-- m[k] = x -/
theorem MapV.put (h : MapV P k e w b n f) (K : Keyed P k) (ht : P.underlying t = some (.map k e)) (he : P.underlying e = some (.int .i64)) (hn : n < maxLen) {v : Value} {l : Lit} (hl : keyOf P k v = some l) {x : Int} (hx : (Lit.int .i64 x).wf = true) :
    ∃ w', (Instr.mapUpdate t (.map (some b)) v (.int .i64 x)).run P w = .ok () w' ∧ MapV P k e w' b (n + 1) (putV f v x) ∧ w.grownBy w' (some b) := by
  obtain ⟨D, h, hf⟩ := h
  obtain ⟨w', hrun, h1, h2⟩ := h.update K ht hn hl (plainElem_int he hx)
  refine ⟨w', hrun, ⟨_, h1, fun u l' hl' => ?_⟩, h2⟩
  by_cases hu : u = v
  · subst hu
    rw [hl] at hl'
    cases hl'
    rw [putV_same, has_put_same h.isMap (K.key hl), atKey_put_same h.isMap (K.key hl)]
    exact ⟨rfl, rfl⟩
  · have hne : l' ≠ l := fun e => hu (K.inj hl' (e ▸ hl))
    rw [putV_other f x hu, has_put_other hne, atKey_put_other hne]
    exact hf u l' hl'
/-- clear(m) -/
theorem MapV.wiped (h : MapV P k e w b n f) (ht : P.underlying t = some (.map k e)) (ty : TypeId) :
    ∃ w', (Builtin.clear_ #[t] ty #[.map (some b)]).run P w = .ok (.tuple #[]) w' ∧ MapV P k e w' b n (fun _ => none) ∧ w.grownBy w' (some b) := by
  obtain ⟨D, ⟨es, clock, hb, F, hs, rfl⟩, hf⟩ := h
  refine ⟨ChangeMaps.setBlock w b (.map #[] clock), ?_, ⟨.map [], ⟨#[], clock, ChangeMaps.heap_setBlock_same hb _, ⟨by simp, MapKept.stamped_empty clock, by simp⟩, by simp, rfl⟩, fun v l _ => ⟨rfl, rfl⟩⟩, ⟨rfl, rfl, rfl, by simp [ChangeMaps.setBlock], fun i _ hi => ChangeMaps.heap_setBlock_other hb _ (fun e => hi (by rw [e]))⟩⟩
  simp [Builtin.clear_, run_underlying ht, MapKept.run_getObj_map hb, MapKept.run_setObj_map _ hb, Result.andThen, ChangeMaps.setBlock]
/-- m[k] op= x: the entry is met (made, if it was not there), then stored into: whatever is looked up between. -/
theorem MapV.entry (h : MapV P k e w b n f) (KL : WideMaps.KeyLaw P k) (ht : P.underlying t = some (.map k e)) (he : P.underlying e = some (.int .i64)) (hz : ∀ u : World, (zeroValue e).run P u = .ok (.int .i64 0) u) (hn : n < maxLen) {v : Value} {l : Lit} (hl : keyOf P k v = some l) :
    ∃ (v0 : Value) (st : Nat) (w1 : World), (Instr.mapEntry t (.map (some b)) v).run P w = .ok (.tuple #[v0, goInt st]) w1 ∧ w.grownBy w1 (some b) ∧ (Instr.lookup t (.map (some b)) v false).run P w1 = .ok (.int .i64 ((f v).getD 0)) w1 ∧
      ∀ x : Int, (Lit.int .i64 x).wf = true → ∃ w2, (Instr.entryStore t (.map (some b)) (goInt st) (.int .i64 x)).run P w1 = .ok () w2 ∧ MapV P k e w2 b (n + 1) (putV f v x) ∧ w.grownBy w2 (some b) := by
  have K := Keyed.of_law KL
  have h0 := h
  obtain ⟨D, ⟨es, clock, hb, F, hs, hD⟩, hf⟩ := h
  obtain ⟨v0, st, es1, clock1, hE, _, hS⟩ := WideElems.entry_then_store KL ht hz hb F hl
  have hb1 : (ChangeMaps.setBlock w b (.map es1 clock1)).heap[b]? = some (.map es1 clock1) := ChangeMaps.heap_setBlock_same hb _
  have g1 : w.grownBy (ChangeMaps.setBlock w b (.map es1 clock1)) (some b) := ⟨rfl, rfl, rfl, by simp [ChangeMaps.setBlock], fun i _ hi => ChangeMaps.heap_setBlock_other hb _ (fun e => hi (by rw [e]))⟩
  refine ⟨v0, st, _, hE, g1, ?_, fun x hx => ?_⟩
  · -- the world behind the entry is a world behind a store of what was there, but for the element: looked up by the store's own law
    obtain ⟨es', clock', hrun', hup⟩ := hS _ (.int .i64 ((f v).getD 0)) hb1
    have K1 := K.find w hl es.toList F.keys
    rcases K1 with ⟨h1, h2⟩ | ⟨j, e0, h1, h2, h3⟩
    · have e1 : (Instr.mapEntry t (.map (some b)) v).run P w = .ok (.tuple #[.int .i64 0, goInt clock]) (ChangeMaps.setBlock w b (.map (es.push ⟨v, .int .i64 0, clock⟩) (clock + 1))) := by
        simp [Instr.mapEntry, run_underlying ht, MapKept.run_getObj_map hb, K.check w false hl, h1, hz, MapKept.run_setObj_map _ hb, Result.andThen, ChangeMaps.setBlock]
      rw [hE] at e1
      simp only [Result.ok.injEq] at e1
      rw [e1.2]
      have hput := h0.put K ht he hn hl (x := 0) (by decide)
      obtain ⟨w', hr, hm, _⟩ := hput
      have e2 : (Instr.mapUpdate t (.map (some b)) v (.int .i64 0)).run P w = .ok () (ChangeMaps.setBlock w b (.map (es.push ⟨v, .int .i64 0, clock⟩) (clock + 1))) := by
        simp [Instr.mapUpdate, run_underlying ht, MapKept.run_getObj_map hb, K.check w false hl, h1, MapKept.run_setObj_map _ hb, Result.andThen, ChangeMaps.setBlock]
      rw [hr] at e2
      simp only [Result.ok.injEq, true_and] at e2
      rw [← e2]
      have hlk := hm.look K ht he (hz _) hl
      rw [putV_same] at hlk
      have hl0 := h0.look K ht he (hz _) hl
      have hl1 : (Instr.lookup t (.map (some b)) v false).run P w = .ok (.int .i64 0) w := by
        simp [Instr.lookup, run_underlying ht, MapKept.run_getObj_map hb, K.check w _ hl, h1, hz, Result.andThen]
      rw [hl0] at hl1
      simp only [Result.ok.injEq, Value.int.injEq, true_and, and_true] at hl1
      rw [hl1]
      simpa using hlk
    · have hj : es[j]? = some e0 := by simpa using h2
      have hsame : es.modify j (fun e => { e with key := v }) = es := by
        apply Array.ext'
        rw [Array.toList_modify, ChangeMaps.modify_eq_set _ _ _ _ h2]
        have : ({ e0 with key := v } : MapEntry) = e0 := by rw [← h3]
        rw [this]
        exact WideElems.set_self _ _ _ h2
      have e1 : (Instr.mapEntry t (.map (some b)) v).run P w = .ok (.tuple #[e0.val, goInt e0.born]) (ChangeMaps.setBlock w b (.map es clock)) := by
        simp [Instr.mapEntry, run_underlying ht, MapKept.run_getObj_map hb, K.check w false hl, h1, hj, h3, K.stays w hl, hsame, MapKept.run_setObj_map _ hb, Result.andThen, ChangeMaps.setBlock]
      rw [hE] at e1
      simp only [Result.ok.injEq] at e1
      rw [e1.2]
      refine (h0.block ?_).look K ht he (hz _) hl
      rw [ChangeMaps.heap_setBlock_same hb _, hb]
  · obtain ⟨es', clock', hrun', hup⟩ := hS _ (.int .i64 x) hb1
    obtain ⟨w', hr, hm, hg⟩ := h0.put K ht he hn hl hx
    rw [hr] at hup
    simp only [Result.ok.injEq, true_and] at hup
    have e2 : ChangeMaps.setBlock (ChangeMaps.setBlock w b (.map es1 clock1)) b (.map es' clock') = w' := by rw [hup]; simp [ChangeMaps.setBlock]
    rw [e2] at hrun'
    exact ⟨w', hrun', hm, hg⟩
variable {ops : Array Oper} {rest : List Oper} {o : Oper} {a : Act} {Q : Exit → Act → World → Prop}
theorem wpList_clear_V (hg : o.guard = none) (m : Operand) (t : TypeId) (hop : o.op = Op.call { callee := Callee.builtin Builtin.clear, args := #[m], argTypes := #[t] })
    (h : MapV P k e w b n f) (ht : P.underlying t = some (.map k e)) (hm : a.eval m = .map (some b))
    (hK : ∀ w', MapV P k e w' b n (fun _ => none) → w.grownBy w' (some b) → wpList P ops Q rest (a.put o.dst (.tuple #[])) w') :
    wpList P ops Q (o :: rest) a w := by
  refine wpList_plain hg fun K' hK' => ?_
  obtain ⟨w', hrun, r1, r2⟩ := h.wiped ht o.type
  unfold Oper.wp
  simp [execOp, hop, resolve, invoke, builtin, hm, hrun, Result.andThen]
  exact hK' _ _ (hK w' r1 r2)
end
#print axioms MapV.look
#print axioms wpList_clear_V
end Go.Proofs.YthbclkpmgcfdnaaGreatDoor
/- A map literal whose entries are laid in whatever order: every order comes to the same map. No program in it. -/
namespace Go.Proofs.YthbclkpmgcfdnaaGreatDoor
open Go.ChangeShapes Go.WideShapes Go.RowKit
open Go.Maps (Keyed)
set_option linter.unusedVariables false
theorem any_mem {α : Type} {xs : Array α} {p : α → Bool} : xs.any p = true ↔ ∃ x, x ∈ xs ∧ p x = true := by
  rw [Array.any_eq_true']
/-- Behind 'listed' only what is in J may come up until all of J has come up. -/
def litOk (ops : Array Oper) (J : List Nat) (listed : Array Bool) : Bool :=
  listed.size == ops.size && J.all (fun j => decide (j < ops.size) && (match ops[j]? with | none => false | some o => o.after.all fun e => !Region.binds .any e || (listed.getD e.on false && !J.contains e.on))) && (List.range ops.size).all fun i => J.contains i || listed.getD i true || (match ops[i]? with
    | none => true
    | some o => J.all (fun j => o.after.any (fun e => e.on == j && Region.binds .any e)) || o.after.any (fun e => !J.contains e.on && Region.binds .any e && !listed.getD e.on false))
theorem listed_in {ops : Array Oper} {J : List Nat} {listed0 listed : Array Bool} (hL : litOk ops J listed0 = true) (hs : listed.size = listed0.size) (ho : ∀ i, J.contains i = false → listed.getD i true = listed0.getD i true)
    {j0 : Nat} (hj : j0 ∈ J) (hj0 : listed.getD j0 false = false) {i : Nat} (hi : i ∈ Region.ready .any ops listed) : i ∈ J ∧ listed.getD i true = false := by
  simp only [litOk, Bool.and_eq_true, beq_iff_eq, List.all_eq_true, List.mem_range] at hL
  obtain ⟨⟨h1, h2⟩, h3⟩ := hL
  obtain ⟨hn, o, hop, hd⟩ := mem_ready.1 hi
  have hlt : i < ops.size := by
    rcases Nat.lt_or_ge i ops.size with h | h
    · exact h
    · rw [Array.getElem?_eq_none h] at hop; cases hop
  have ho' : ∀ k, J.contains k = false → listed.getD k false = listed0.getD k false := fun k hk => by
    have := ho k hk
    rcases Nat.lt_or_ge k listed.size with h | h
    · have h' : k < listed0.size := by omega
      simpa [h, h'] using this
    · have h' : listed0.size ≤ k := by omega
      simp [Array.getElem?_eq_none h, Array.getElem?_eq_none h']
  by_cases hJ : J.contains i = true
  · exact ⟨by simpa using hJ, hn⟩
  · have hJ' : J.contains i = false := by simpa using hJ
    have h4 := h3 i hlt
    rw [hJ', hop, ← ho i hJ', hn] at h4
    simp only [Bool.false_or, Bool.or_eq_true, List.all_eq_true, any_mem] at h4
    rcases h4 with h4 | ⟨e, he, h4⟩
    · obtain ⟨e, he, h5⟩ := h4 j0 hj
      simp only [Bool.and_eq_true, beq_iff_eq] at h5
      have := hd e he h5.2
      rw [h5.1, hj0] at this
      cases this
    · simp only [Bool.and_eq_true, Bool.not_eq_true'] at h4
      have := hd e he h4.1.2
      rw [ho' e.on h4.1.1, h4.2] at this
      cases this
/-- One insert, at the operation. -/
structure Ins (P : Program) (ops : Array Oper) (a : Act) (k e : TypeId) (b : Nat) (key : Nat → Value) (val : Nat → Int) (j : Nat) : Prop where
  ins : ∃ o t m x v, ops[j]? = some o ∧ o.dst = none ∧ o.guard = none ∧ o.op = Op.insert t m x v ∧ P.underlying t = some (.map k e) ∧ a.eval m = .map (some b) ∧ a.eval x = key j ∧ a.eval v = .int .i64 (val j)
  lit : ∃ l, keyOf P k (key j) = some l
  wf : (Lit.int .i64 (val j)).wf = true
theorem wpAny_inserts {P : Program} {ops : Array Oper} {Q : Exit → Act → World → Prop} {J : List Nat} {listed0 listed1 : Array Bool} {a : Act} {k e : TypeId} {b : Nat} {key : Nat → Value} {val : Nat → Int}
    (hL : litOk ops J listed0 = true) (hJ : J.Nodup) (hs1 : listed1.size = listed0.size) (h1' : ((List.range listed0.size).all fun i => listed1.getD i true == (J.contains i || listed0.getD i true)) = true)
    (hI : ∀ j ∈ J, Ins P ops a k e b key val j) (K : Keyed P k) (he : P.underlying e = some (.int .i64)) (hinj : ∀ i ∈ J, ∀ j ∈ J, key i = key j → i = j) {W : World} {f0 : Value → Option Int} {n0 fuel : Nat} (hn0 : n0 + J.length < maxLen)
    (hend : ∀ w' n f, MapV P k e w' b n f → n ≤ n0 + J.length → (∀ j ∈ J, f (key j) = some (val j)) → (∀ v, (∀ j ∈ J, v ≠ key j) → f v = f0 v) → W.grownBy w' (some b) → wpAny P .any ops Q fuel listed1 a w') :
    ∀ (r : Nat) (listed : Array Bool) (w : World) (n : Nat) (f : Value → Option Int), listed.size = listed0.size → (∀ i, J.contains i = false → listed.getD i true = listed0.getD i true) → (J.filter fun j => !listed.getD j true).length = r →
      MapV P k e w b n f → n + r ≤ n0 + J.length → (∀ j ∈ J, listed.getD j true = true → f (key j) = some (val j)) → (∀ v, (∀ j ∈ J, v ≠ key j) → f v = f0 v) → W.grownBy w (some b) → wpAny P .any ops Q (fuel + r) listed a w := by
  intro r
  induction r with
  | zero =>
    intro listed w n f hs ho hr hm hn hf hf0 hg
    have hall : ∀ j ∈ J, listed.getD j true = true := fun j hj => by
      by_cases h : listed.getD j true = true
      · exact h
      · have : j ∈ J.filter fun j => !listed.getD j true := List.mem_filter.2 ⟨hj, by simpa using h⟩
        rw [List.length_eq_zero_iff.1 hr] at this
        cases this
    have e1 : listed = listed1 := by
      refine Array.ext (by rw [hs, hs1]) fun i hi1 hi2 => ?_
      have h2 : listed1.getD i true = (J.contains i || listed0.getD i true) := by
        have := List.all_eq_true.1 h1' i (List.mem_range.2 (by omega))
        exact beq_iff_eq.1 this
      by_cases hJ : J.contains i = true
      · have := hall i (by simpa using hJ)
        rw [hJ] at h2
        simp only [Bool.true_or] at h2
        simp [hi1] at this
        simp [hi2] at h2
        rw [this, h2]
      · have hJ' : J.contains i = false := by simpa using hJ
        have := ho i hJ'
        rw [hJ', Bool.false_or, ← this] at h2
        simpa [hi1, hi2] using h2.symm
    rw [e1]
    exact hend w n f hm (by omega) (fun j hj => hf j hj (hall j hj)) hf0 hg
  | succ r ih =>
    intro listed w n f hs ho hr hm hn hf hf0 hg
    have hL' := hL
    simp only [litOk, Bool.and_eq_true, beq_iff_eq, List.all_eq_true, decide_eq_true_eq] at hL'
    obtain ⟨j0, hj0⟩ : ∃ j0, j0 ∈ J.filter fun j => !listed.getD j true := by
      cases h : J.filter fun j => !listed.getD j true with
      | nil => rw [h] at hr; simp at hr
      | cons x xs => exact ⟨x, by simp⟩
    obtain ⟨hj, hjn⟩ := List.mem_filter.1 hj0
    have hjl : j0 < listed.size := by have := (hL'.1.2 j0 hj).1; omega
    have hjn' : listed.getD j0 false = false := by simpa [hjl] using hjn
    refine ⟨fun h0 => ?_, fun i hi => ?_⟩
    · -- j0 waits for nobody that has not come up: so something is ready only if it is; else all that it waits for .. : asked of the list
      exfalso
      have hr0 : j0 ∈ Region.ready .any ops listed := by
        have h5 := (hL'.1.2 j0 hj).2
        refine mem_ready.2 ⟨by simpa [hjl] using hjn, ?_⟩
        cases hop : ops[j0]? with
        | none => rw [hop] at h5; cases h5
        | some o =>
          rw [hop] at h5
          refine ⟨o, rfl, fun e he hb => ?_⟩
          have h6 := (Array.all_eq_true_iff_forall_mem.1 h5) e he
          rw [hb] at h6
          simp only [Bool.not_true, Bool.false_or, Bool.and_eq_true, Bool.not_eq_true'] at h6
          have := ho e.on h6.2
          rcases Nat.lt_or_ge e.on listed.size with h | h
          · have h' : e.on < listed0.size := by omega
            simp [h, h'] at this h6 ⊢
            rw [this]; exact h6.1
          · have h' : listed0.size ≤ e.on := by omega
            simp [Array.getElem?_eq_none h'] at h6
      rw [h0] at hr0
      cases hr0
    · obtain ⟨hiJ, hin⟩ := listed_in hL hs ho hj hjn' hi
      obtain ⟨o, t, m, x, v, q1, q2, q3, q4, q5, q6, q7, q8⟩ := (hI i hiJ).ins
      obtain ⟨l, hl⟩ := (hI i hiJ).lit
      obtain ⟨w', hrun, hm', hg'⟩ := hm.put K q5 he (by omega) hl (hI i hiJ).wf
      have hil : i < listed.size := by have := (hL'.1.2 i hiJ).1; omega
      have hgo : wpAny P .any ops Q (fuel + r) (listed.setIfInBounds i true) a w' := by
        refine ih (listed.setIfInBounds i true) w' (n + 1) _ (by simpa using hs) (fun k hk => ?_) ?_ hm' (by omega) (fun k hkJ hk => ?_) (fun u hu => ?_) ?_
        · rw [getD_set_ne true (fun e => by subst e; simp [hiJ] at hk), ho k hk]
        · have e1 : (J.filter fun j => !(listed.setIfInBounds i true).getD j true) = (J.filter fun j => !listed.getD j true).erase i := by
            rw [List.Nodup.erase_eq_filter (hJ.filter _), List.filter_filter]
            refine List.filter_congr fun k hk => ?_
            by_cases e2 : k = i
            · subst e2; simp [hil]
            · rw [getD_set_ne true (Ne.symm e2)]; simp [e2]
          rw [e1, List.length_erase_of_mem (List.mem_filter.2 ⟨hiJ, by rw [hin]; rfl⟩), hr]; rfl
        · by_cases e1 : k = i
          · subst e1; exact putV_same _ _ _
          · rw [putV_other _ _ (fun e2 => e1 (hinj k hkJ i hiJ e2))]
            rw [getD_set_ne true (Ne.symm e1)] at hk
            exact hf k hkJ hk
        · rw [putV_other _ _ (hu i hiJ)]; exact hf0 u hu
        · exact hg.trans hg'
      have hw : Region.wanted o (yielded ops a.tmps) = true := by unfold Region.wanted; rw [q3]
      unfold wpOp
      simp only [q1, hw, if_true]
      refine .inl ?_
      unfold Oper.wp
      simp [execOp, q4, q6, q7, q8, hrun, Result.andThen, Oper.upon]
      rw [q2]
      exact hgo
theorem none_listed {J : List Nat} {listed : Array Bool} {C : Nat → Prop} (h : (J.all fun j => !listed.getD j true) = true) : ∀ j ∈ J, listed.getD j true = true → C j := fun j hj hl => by
  have := List.all_eq_true.1 h j hj
  rw [hl] at this
  cases this
theorem wpOp_value {P : Program} {ops : Array Oper} {Q : Exit → Act → World → Prop} {i : Nat} {o : Oper} {v : Value} {a : Act} {w w' : World} {K : Act → World → Prop} (hi : ops[i]? = some o) (hg : o.guard = none)
    (hr : (execOp a.eval o).run P w = .ok (.value v) w') (h : K (a.put o.dst v) w') : wpOp P ops Q i K a w := by
  have hw : Region.wanted o (yielded ops a.tmps) = true := by unfold Region.wanted; rw [hg]
  unfold wpOp
  simp only [hi, hw, if_true]
  refine .inl ?_
  unfold Oper.wp
  rw [hr]
  exact h
end Go.Proofs.YthbclkpmgcfdnaaGreatDoor
/- The contracts of the smallest functions on numbers. No condition. -/
namespace Go.Proofs.YthbclkpmgcfdnaaGreatDoor
open Go.ChangeShapes Go.WideShapes Go.ChangeAt Go.RowKit
def betw (a b c : Int) : Bool := decide (b ≤ a ∧ a ≤ c)
theorem ret_int {k : IntKind} {a b : Int} (h : a = b) : Ending.returned (.int k a) = .returned (.int k b) := by rw [h]
theorem ret_bool {a b : Bool} (h : a = b) : Ending.returned (.bool a) = .returned (.bool b) := by rw [h]

set_option maxHeartbeats 400000 in
theorem l1In_any (a b c : Int) (w : World) :
    Calls Tryz.prog 54 #[.int .i64 a, .int .i64 b, .int .i64 c] w fun e w' => e = .returned (.bool (betw a b c)) ∧ w' = w := by
  by_cases h1 : b ≤ a
  · by_cases h2 : a ≤ c
    all_goals
      go_enter Tryz.func54, Tryz.ntmps54
      go_wp2
      go_ret
      exact ⟨by simp [betw, h1, h2], rfl⟩
  · go_enter Tryz.func54, Tryz.ntmps54
    go_wp2
    go_ret
    exact ⟨by simp only [betw]; congr 2; simp; omega, rfl⟩

set_option maxHeartbeats 400000 in
theorem between_any (a b c : Int) (w : World) :
    Calls Tryz.prog 104 #[.int .i64 a, .int .i64 b, .int .i64 c] w fun e w' => e = .returned (.bool (betw a b c)) ∧ w' = w := by
  by_cases h1 : b ≤ a
  · by_cases h2 : a ≤ c
    all_goals
      go_enter Tryz.func104, Tryz.ntmps104
      go_wp2
      go_ret
      exact ⟨by simp [betw, h1, h2], rfl⟩
  · go_enter Tryz.func104, Tryz.ntmps104
    go_wp2
    go_ret
    exact ⟨by simp only [betw]; congr 2; simp; omega, rfl⟩
theorem below_step {w w1 w2 : World} (h : Below w.heap.size w w1) (h2 : Below w1.heap.size w1 w2) : Below w.heap.size w w2 := h.trans (h2.mono h.size)
end Go.Proofs.YthbclkpmgcfdnaaGreatDoor
/- The first of a list that is not right. No program here. -/
namespace Go.Proofs.YthbclkpmgcfdnaaGreatDoor
def badP {α : Type} (p : α → Bool) (xs : List α) : Int := match xs.findIdx? (fun u => !p u) with
  | some i => (i : Int)
  | none => -1
theorem badP_at {α : Type} {p : α → Bool} {xs : List α} {k : Nat} {u : α} (hu : xs[k]? = some u) (hp : p u = false) (hno : ∀ j v, j < k → xs[j]? = some v → p v = true) : badP p xs = (k : Int) := by
  have hk := (List.getElem?_eq_some_iff.1 hu).1
  have : xs.findIdx? (fun u => !p u) = some k := by
    rw [List.findIdx?_eq_some_iff_getElem]
    refine ⟨hk, ?_, fun j hj => ?_⟩
    · rw [List.getElem?_eq_getElem hk] at hu
      cases hu
      simp [hp]
    · have := hno j _ hj (List.getElem?_eq_getElem (by omega))
      simp [this]
  unfold badP
  rw [this]
theorem badP_no {α : Type} {p : α → Bool} {xs : List α} (hno : ∀ (j : Nat) (v : α), xs[j]? = some v → p v = true) : badP p xs = -1 := by
  have : xs.findIdx? (fun u => !p u) = none := by
    rw [List.findIdx?_eq_none_iff]
    intro u hu
    obtain ⟨j, hj⟩ := List.getElem?_of_mem hu
    simp [hno j u hj]
  unfold badP
  rw [this]
theorem badP_all {α : Type} (p : α → Bool) (xs : List α) : xs.all p = decide (badP p xs < 0) := by
  cases h : xs.all p
  · have h1 : ¬ ∀ x ∈ xs, p x = true := fun hh => by rw [List.all_eq_true.2 hh] at h; cases h
    cases hf : xs.findIdx? (fun u => !p u) with
    | none =>
      rw [List.findIdx?_eq_none_iff] at hf
      exact (h1 fun x hx => by have := hf x hx; simpa using this).elim
    | some i => simp [badP, hf]
  · rw [badP_no fun j v hv => List.all_eq_true.1 h v (List.mem_of_getElem? hv)]
    rfl
end Go.Proofs.YthbclkpmgcfdnaaGreatDoor
/- The contracts of the leaf functions of the sets of numbers. No condition. -/
namespace Go.Proofs.YthbclkpmgcfdnaaGreatDoor
open Go.ChangeShapes Go.WideShapes Go.ChangeAt Go.RowKit
def setB (s : Int) : Bool := decide (0 ≤ s ∧ s ≤ 255)
def itemB (i : Int) : Bool := decide (0 ≤ i ∧ i ≤ 7)

set_option maxHeartbeats 400000 in
theorem ok_any (s : Int) (w : World) :
    Calls Tryz.prog 209 #[.int .i64 s] w fun e w' => e = .returned (.bool (setB s)) ∧ w' = w := by
  by_cases h1 : 0 ≤ s
  · by_cases h2 : s ≤ 255
    all_goals
      go_enter Tryz.func209, Tryz.ntmps209
      go_wp2
      go_ret
      exact ⟨by simp [setB, h1, h2], rfl⟩
  · go_enter Tryz.func209, Tryz.ntmps209
    go_wp2
    go_ret
    exact ⟨by simp only [setB]; congr 2; simp; omega, rfl⟩

set_option maxHeartbeats 400000 in
theorem number_any (s : Int) (w : World) :
    Calls Tryz.prog 219 #[.int .i64 s] w fun e w' => e = .returned (.bool (itemB s)) ∧ w' = w := by
  by_cases h1 : 0 ≤ s
  · by_cases h2 : s ≤ 7
    all_goals
      go_enter Tryz.func219, Tryz.ntmps219
      go_wp2
      go_ret
      exact ⟨by simp [itemB, h1, h2], rfl⟩
  · go_enter Tryz.func219, Tryz.ntmps219
    go_wp2
    go_ret
    exact ⟨by simp only [itemB]; congr 2; simp; omega, rfl⟩


theorem pow_small (i : Int) (h1 : 0 ≤ i) (h2 : i ≤ 7) : wrap64 (2 ^ i.toNat) = 2 ^ i.toNat := by
  have h : i = 0 ∨ i = 1 ∨ i = 2 ∨ i = 3 ∨ i = 4 ∨ i = 5 ∨ i = 6 ∨ i = 7 := by omega
  rcases h with rfl | rfl | rfl | rfl | rfl | rfl | rfl | rfl <;> decide +kernel

set_option maxHeartbeats 400000 in
theorem bitOf_any (i : Int) (w : World) (h1 : 0 ≤ i) (h2 : i ≤ 7) :
    Calls Tryz.prog 220 #[.int .i64 i] w fun e w' => e = .returned (.int .i64 (2 ^ i.toNat)) ∧ w' = w := by
  go_enter Tryz.func220, Tryz.ntmps220
  go_wp2
  go_ret
  exact ⟨ret_int (pow_small i h1 h2), rfl⟩
def memB (s i : Int) : Bool := (s / 2 ^ i.toNat) % 2 == 1
def inB (s i : Int) : Bool := setB s && itemB i && memB s i
theorem and_fin : ∀ s : Fin 256, ∀ i : Fin 8, (bits BinOp.and IntKind.i64 (s.val : Int) (2 ^ (i.val : Int).toNat) != 0) = memB (s.val : Int) (i.val : Int) := by
  decide +kernel
theorem and_mem (s i : Int) (h7 : 0 ≤ s) (h8 : s ≤ 255) (h5 : 0 ≤ i) (h6 : i ≤ 7) :
    (bits BinOp.and IntKind.i64 s (2 ^ i.toNat) != 0) = memB s i := by
  have := and_fin ⟨s.toNat, by omega⟩ ⟨i.toNat, by omega⟩
  simpa [Int.toNat_of_nonneg h7, Int.toNat_of_nonneg h5] using this
theorem setB_bd {s : Int} (h : setB s = true) : 0 ≤ s ∧ s ≤ 255 := by simpa [setB] using h
theorem itemB_bd {i : Int} (h : itemB i = true) : 0 ≤ i ∧ i ≤ 7 := by simpa [itemB] using h

set_option maxHeartbeats 400000 in
theorem has_any (s i : Int) (w : World) :
    Calls Tryz.prog 216 #[.int .i64 s, .int .i64 i] w fun e w' => e = .returned (.bool (inB s i)) ∧ w' = w := by
  cases h1 : setB s
  · have H : Hid (inB s i = false) := by unfold Hid; simp [inB, h1]
    go_enter Tryz.func216, Tryz.ntmps216
    go_wp2_with (go_at_call 209; refine (ok_any _ _).mono ?_; rintro e w' ⟨rfl, rfl⟩)
    go_ret
    exact ⟨ret_bool H.out.symm, rfl⟩
  · cases h2 : itemB i
    · have H : Hid (inB s i = false) := by unfold Hid; simp [inB, h2]
      go_enter Tryz.func216, Tryz.ntmps216
      go_wp2_with (first
        | (go_at_call 209; refine (ok_any _ _).mono ?_; rintro e w' ⟨rfl, rfl⟩)
        | (go_at_call 219; refine (number_any _ _).mono ?_; rintro e w' ⟨rfl, rfl⟩))
      go_ret
      exact ⟨ret_bool H.out.symm, rfl⟩
    · obtain ⟨h5, h6⟩ := itemB_bd h2
      obtain ⟨h7, h8⟩ := setB_bd h1
      have H : Hid (inB s i = (bits BinOp.and IntKind.i64 s (2 ^ i.toNat) != 0)) := by unfold Hid; rw [and_mem s i h7 h8 h5 h6]; simp [inB, h1, h2]
      go_enter Tryz.func216, Tryz.ntmps216
      go_wp2_with (first
        | (go_at_call 209; refine (ok_any _ _).mono ?_; rintro e w' ⟨rfl, rfl⟩)
        | (go_at_call 219; refine (number_any _ _).mono ?_; rintro e w' ⟨rfl, rfl⟩)
        | (go_at_call 220; refine (bitOf_any _ _ h5 h6).mono ?_; rintro e w' ⟨rfl, rfl⟩))
      go_ret
      exact ⟨ret_bool H.out.symm, rfl⟩


end Go.Proofs.YthbclkpmgcfdnaaGreatDoor
/- Stores as plain lists: what is right, what is found, filled, dropped, and what must go. No program here. Conditions, as premises: what trees and lines are told to do. -/
namespace Go.Proofs.YthbclkpmgcfdnaaGreatDoor
open Go.RowKit
set_option linter.unusedVariables false
abbrev WayD := Int × Int × List Int
abbrev CacheD := List (List WayD) × List Int
def emptyW : WayD := (-1, 0, [])
def clearB (u : WayD) : Bool := decide (u.1 = -1 ∧ u.2.1 = 0 ∧ u.2.2 = [])
def pow3 (n : Nat) : Prop := n = 1 ∨ n = 2 ∨ n = 4
section
variable (ln : List Int → Bool) (tok : Int → Int → Bool) (tou : Int → Int → Int → Int) (vic : Int → Int → Int)
def fullB (u : WayD) : Bool := decide ((0 ≤ u.1 ∧ u.1 ≤ 15) ∧ (1 ≤ u.2.1 ∧ u.2.1 ≤ 3) ∧ ln u.2.2 = true)
def RowOk (n s : Nat) (row : List WayD) : Prop :=
  (∀ (i : Nat) (u : WayD), row[i]? = some u → clearB u = true ∨ (fullB ln u = true ∧ u.1 % (n : Int) = s)) ∧
  ∀ (i k : Nat) (u x : WayD), row[i]? = some u → row[k]? = some x → 0 ≤ u.1 → u.1 = x.1 → i = k
def OkC (c : CacheD) : Prop :=
  pow3 c.1.length ∧ c.2.length = c.1.length ∧ ∃ m, pow3 m ∧ ∀ (s : Nat) (row : List WayD), c.1[s]? = some row → row.length = m ∧ (∃ t, c.2[s]? = some t ∧ tok t m = true) ∧ RowOk ln c.1.length s row
def setNo (c : CacheD) (line : Int) : Nat := (line % (c.1.length : Int)).toNat
def rowFor (c : CacheD) (line : Int) : List WayD := c.1.getD (setNo c line) []
def atC (c : CacheD) (line : Int) : Option Nat := if line < 0 then none else (rowFor c line).findIdx? fun u => u.1 == line
def roomC (c : CacheD) (line : Int) : Option Nat := (rowFor c line).findIdx? clearB
def putNo (c : CacheD) (line : Int) : Option Nat := match atC c line with
  | some i => some i
  | none => roomC c line
def treeFor (c : CacheD) (line : Int) : Int := c.2.getD (setNo c line) 0
def fillX (c : CacheD) (u : WayD) (i : Nat) : CacheD :=
  (c.1.set (setNo c u.1) ((rowFor c u.1).set i u), c.2.set (setNo c u.1) (tou (treeFor c u.1) (rowFor c u.1).length i))
def dropX (c : CacheD) (line : Int) (i : Nat) : CacheD := (c.1.set (setNo c line) ((rowFor c line).set i emptyW), c.2)
open Classical in
noncomputable def okB (c : CacheD) : Bool := decide (OkC ln tok c)
noncomputable def findC (c : CacheD) (line : Int) : WayD × Int := if okB ln tok c then (match atC c line with
  | some i => ((rowFor c line).getD i emptyW, (i : Int))
  | none => (emptyW, -1)) else (emptyW, -1)
noncomputable def fillC (c : CacheD) (u : WayD) : CacheD × Bool := if okB ln tok c then (if fullB ln u then (match putNo c u.1 with
  | some i => (fillX tou c u i, true)
  | none => (c, false)) else (c, false)) else (([], []), false)
noncomputable def dropC (c : CacheD) (line : Int) : CacheD × Bool := if okB ln tok c then (match atC c line with
  | some i => (dropX c line i, true)
  | none => (c, false)) else (([], []), false)
noncomputable def leavesC (c : CacheD) (line : Int) : Int := if okB ln tok c && betw line 0 15 then (match putNo c line with
  | some _ => -1
  | none => ((rowFor c line).getD (vic (treeFor c line) (rowFor c line).length).toNat emptyW).1) else -1
end
section
variable {ln : List Int → Bool} {tok : Int → Int → Bool} {tou : Int → Int → Int → Int} {vic : Int → Int → Int}
theorem okB_iff {c : CacheD} : okB ln tok c = true ↔ OkC ln tok c := by simp [okB]
theorem clear_empty : clearB emptyW = true := by decide
theorem clear_eq {u : WayD} (h : clearB u = true) : u = emptyW := by
  simp [clearB] at h
  obtain ⟨a, b, d⟩ := u
  simp at h
  simp [emptyW, h]
theorem full_line {u : WayD} (h : fullB ln u = true) : 0 ≤ u.1 ∧ u.1 ≤ 15 := by
  simp [fullB] at h
  exact h.1
theorem full_not_clear {u : WayD} (h : fullB ln u = true) : clearB u = false := by
  have := (full_line h).1
  simp [clearB]
  omega
theorem pow3_pos {n : Nat} (h : pow3 n) : 0 < n := by rcases h with h | h | h <;> omega
theorem setNo_lt {c : CacheD} {line : Int} (h : pow3 c.1.length) : setNo c line < c.1.length := by
  have := pow3_pos h
  have h1 := Int.emod_nonneg line (show (c.1.length : Int) ≠ 0 by omega)
  have h2 := Int.emod_lt_of_pos line (show (0 : Int) < c.1.length by omega)
  unfold setNo
  omega
theorem setNo_cast {c : CacheD} {line : Int} (h : pow3 c.1.length) : ((setNo c line : Nat) : Int) = line % (c.1.length : Int) := by
  have := pow3_pos h
  have h1 := Int.emod_nonneg line (show (c.1.length : Int) ≠ 0 by omega)
  unfold setNo
  omega
theorem rowFor_get {c : CacheD} {line : Int} (h : pow3 c.1.length) : c.1[setNo c line]? = some (rowFor c line) := by
  have := setNo_lt (line := line) h
  unfold rowFor
  rw [List.getD_eq_getElem?_getD, List.getElem?_eq_getElem this]
  rfl
theorem idx_some {p : WayD → Bool} {row : List WayD} {i : Nat} (h : row.findIdx? p = some i) : ∃ u, row[i]? = some u ∧ p u = true := by
  rw [List.findIdx?_eq_some_iff_getElem] at h
  obtain ⟨hi, hp, _⟩ := h
  exact ⟨row[i], List.getElem?_eq_getElem hi, hp⟩
theorem idx_none {p : WayD → Bool} {row : List WayD} (h : row.findIdx? p = none) {i : Nat} {u : WayD} (hu : row[i]? = some u) : p u = false := by
  rw [List.findIdx?_eq_none_iff] at h
  exact by simpa using h u (List.mem_of_getElem? hu)
theorem idx_of {p : WayD → Bool} {row : List WayD} {i : Nat} {u : WayD} (hu : row[i]? = some u) (hp : p u = true) : ∃ k, row.findIdx? p = some k := by
  cases h : row.findIdx? p with
  | none => rw [idx_none h hu] at hp; cases hp
  | some k => exact ⟨k, rfl⟩
theorem at_some {c : CacheD} {line : Int} {i : Nat} (h : atC c line = some i) : 0 ≤ line ∧ ∃ u, (rowFor c line)[i]? = some u ∧ u.1 = line := by
  unfold atC at h
  split at h
  · cases h
  · obtain ⟨u, hu, hp⟩ := idx_some h
    exact ⟨by omega, u, hu, by simpa using hp⟩
theorem at_none {c : CacheD} {line : Int} (h : atC c line = none) (h0 : 0 ≤ line) {i : Nat} {u : WayD} (hu : (rowFor c line)[i]? = some u) : u.1 ≠ line := by
  unfold atC at h
  rw [if_neg (by omega)] at h
  simpa using idx_none h hu
theorem at_of {c : CacheD} {line : Int} (h0 : 0 ≤ line) {i : Nat} {u : WayD} (hu : (rowFor c line)[i]? = some u) (hl : u.1 = line) : ∃ k, atC c line = some k := by
  unfold atC
  rw [if_neg (by omega)]
  exact idx_of hu (by simp [hl])
/- A row in which one way is turned. -/
theorem row_set {n s : Nat} {row : List WayD} {i : Nat} {x : WayD} (h : RowOk ln n s row) (hx : clearB x = true ∨ (fullB ln x = true ∧ x.1 % (n : Int) = s)) (hnew : ∀ (k : Nat) (u : WayD), row[k]? = some u → 0 ≤ x.1 → u.1 = x.1 → k = i) : RowOk ln n s (row.set i x) := by
  have key : ∀ (k : Nat) (u : WayD), (row.set i x)[k]? = some u → (k = i ∧ u = x) ∨ (k ≠ i ∧ row[k]? = some u) := by
    intro k u hu
    rw [List.getElem?_set] at hu
    by_cases hk : i = k
    · rw [if_pos hk] at hu
      split at hu
      · simp at hu
        exact .inl ⟨hk.symm, hu.symm⟩
      · cases hu
    · rw [if_neg hk] at hu
      exact .inr ⟨fun e => hk e.symm, hu⟩
  refine ⟨fun k u hu => ?_, fun k j u y hu hy h0 he => ?_⟩
  · rcases key k u hu with ⟨_, rfl⟩ | ⟨_, hu⟩
    · exact hx
    · exact h.1 k u hu
  · have ku := key k u hu
    have ky := key j y hy
    clear hu hy key
    rcases ku with ⟨rfl, rfl⟩ | ⟨hk, hu⟩
    · rcases ky with ⟨rfl, rfl⟩ | ⟨hj, hy⟩
      · rfl
      · exact (hnew j y hy h0 he.symm).symm
    · rcases ky with ⟨rfl, rfl⟩ | ⟨hj, hy⟩
      · exact hnew k u hu (by omega) he
      · exact h.2 k j u y hu hy h0 he
theorem ok_set {c : CacheD} {line : Int} {i : Nat} {x : WayD} {t : Int} {m : Nat} (h1 : pow3 c.1.length) (h2 : c.2.length = c.1.length) (hm : pow3 m)
    (h3 : ∀ (s : Nat) (row : List WayD), c.1[s]? = some row → row.length = m ∧ (∃ t, c.2[s]? = some t ∧ tok t m = true) ∧ RowOk ln c.1.length s row)
    (ht : tok t m = true) (hr : RowOk ln c.1.length (setNo c line) ((rowFor c line).set i x)) :
    OkC ln tok (c.1.set (setNo c line) ((rowFor c line).set i x), c.2.set (setNo c line) t) := by
  have hlt := setNo_lt (line := line) h1
  refine ⟨by simpa using h1, by simpa using h2, m, hm, fun s row hs => ?_⟩
  simp only [List.length_set] at hs ⊢
  rw [List.getElem?_set] at hs
  by_cases he : setNo c line = s
  · subst he
    rw [if_pos rfl, if_pos hlt] at hs
    simp at hs
    subst hs
    refine ⟨?_, ⟨t, ?_, ht⟩, hr⟩
    · rw [List.length_set]
      exact (h3 _ _ (rowFor_get h1)).1
    · rw [List.getElem?_set, if_pos rfl, if_pos (by omega)]
  · rw [if_neg he] at hs
    obtain ⟨a1, ⟨t', a2, a3⟩, a4⟩ := h3 s row hs
    exact ⟨a1, ⟨t', by rw [List.getElem?_set, if_neg he]; exact a2, a3⟩, a4⟩
theorem tree_get {c : CacheD} {line : Int} {m : Nat} (h1 : pow3 c.1.length) (h2 : c.2.length = c.1.length)
    (h3 : ∀ (s : Nat) (row : List WayD), c.1[s]? = some row → row.length = m ∧ (∃ t, c.2[s]? = some t ∧ tok t m = true) ∧ RowOk ln c.1.length s row) :
    (rowFor c line).length = m ∧ c.2[setNo c line]? = some (treeFor c line) ∧ tok (treeFor c line) m = true ∧ RowOk ln c.1.length (setNo c line) (rowFor c line) := by
  obtain ⟨a1, ⟨t, a2, a3⟩, a4⟩ := h3 _ _ (rowFor_get (line := line) h1)
  have : treeFor c line = t := by
    unfold treeFor
    rw [List.getD_eq_getElem?_getD, a2]
    rfl
  rw [this]
  exact ⟨a1, a2, a3, a4⟩
/- Rows of a store in which one set is turned. -/
theorem rowFor_set {c : CacheD} {line l : Int} {row : List WayD} {ts : List Int} (h1 : pow3 c.1.length) :
    rowFor (c.1.set (setNo c line) row, ts) l = if setNo c l = setNo c line then row else rowFor c l := by
  have hlt := setNo_lt (line := line) h1
  have e : setNo (c.1.set (setNo c line) row, ts) l = setNo c l := by simp [setNo]
  unfold rowFor
  rw [e]
  simp only [List.getD_eq_getElem?_getD, List.getElem?_set]
  by_cases he : setNo c line = setNo c l
  · rw [if_pos he, if_pos hlt, if_pos he.symm]
    rfl
  · rw [if_neg he, if_neg (fun e => he e.symm)]
/- What is filled: the store stays right. -/
theorem fill_ok {c : CacheD} {u : WayD} {i : Nat} (ht : ∀ t n y : Int, tok t n = true → 0 ≤ y → y < n → tok (tou t n y) n = true) (h : OkC ln tok c) (hu : fullB ln u = true) (hp : putNo c u.1 = some i) :
    OkC ln tok (fillX tou c u i) ∧ ∃ x, (rowFor c u.1)[i]? = some x ∧ (clearB x = true ∨ x.1 = u.1) := by
  obtain ⟨h1, h2, m, hm, h3⟩ := h
  obtain ⟨a1, a2, a3, a4⟩ := tree_get (line := u.1) h1 h2 h3
  have hl := full_line hu
  have hput : ∃ x, (rowFor c u.1)[i]? = some x ∧ ((clearB x = true ∧ atC c u.1 = none) ∨ x.1 = u.1) := by
    unfold putNo at hp
    split at hp
    · rename_i k hk
      simp at hp
      subst hp
      obtain ⟨_, x, hx, he⟩ := at_some hk
      exact ⟨x, hx, .inr he⟩
    · rename_i hk
      obtain ⟨x, hx, hc⟩ := idx_some hp
      exact ⟨x, hx, .inl ⟨hc, hk⟩⟩
  obtain ⟨x, hx, hcase⟩ := hput
  have hi : i < m := by
    have := (List.getElem?_eq_some_iff.1 hx).1
    omega
  refine ⟨?_, x, hx, hcase.imp (fun h => h.1) id⟩
  unfold fillX
  refine ok_set h1 h2 hm h3 (by rw [a1]; exact ht _ _ _ a3 (by omega) (by omega)) (row_set a4 (.inr ⟨hu, (setNo_cast h1).symm⟩) ?_)
  intro k y hy h0 he
  rcases hcase with ⟨_, hn⟩ | hxe
  · exact absurd he (at_none hn h0 hy)
  · exact a4.2 k i y x hy hx (by omega) (he.trans hxe.symm)
theorem at_iff {c : CacheD} {l : Int} {k : Nat} {u : WayD} (hr : ∀ (i k : Nat) (u x : WayD), (rowFor c l)[i]? = some u → (rowFor c l)[k]? = some x → 0 ≤ u.1 → u.1 = x.1 → i = k) (h0 : 0 ≤ l) (hu : (rowFor c l)[k]? = some u) (hl : u.1 = l) : atC c l = some k := by
  obtain ⟨j, hj⟩ := at_of h0 hu hl
  obtain ⟨_, x, hx, he⟩ := at_some hj
  rw [hj, hr j k x u hx hu (by omega) (by omega)]
theorem getD_of {row : List WayD} {i : Nat} {u : WayD} (h : row[i]? = some u) : row.getD i emptyW = u := by
  rw [List.getD_eq_getElem?_getD, h]
  rfl
/- What is filled is found; what is found of all other lines is as it was. -/
theorem fill_found {c : CacheD} {u : WayD} {i : Nat} (ht : ∀ t n y : Int, tok t n = true → 0 ≤ y → y < n → tok (tou t n y) n = true) (h : OkC ln tok c) (hu : fullB ln u = true) (hp : putNo c u.1 = some i) :
    findC ln tok (fillX tou c u i) u.1 = (u, (i : Int)) := by
  obtain ⟨hok, x, hx, _⟩ := fill_ok ht h hu hp
  have h1 := h.1
  have hl := full_line hu
  have hrow : rowFor (fillX tou c u i) u.1 = (rowFor c u.1).set i u := by
    unfold fillX
    rw [rowFor_set h1, if_pos rfl]
  have hget : (rowFor (fillX tou c u i) u.1)[i]? = some u := by
    rw [hrow, List.getElem?_set, if_pos rfl, if_pos (List.getElem?_eq_some_iff.1 hx).1]
  obtain ⟨g1, g2, m, gm, g3⟩ := hok
  have hat : atC (fillX tou c u i) u.1 = some i := at_iff (tree_get g1 g2 g3).2.2.2.2 hl.1 hget rfl
  unfold findC
  rw [if_pos (okB_iff.2 ⟨g1, g2, m, gm, g3⟩), hat]
  simp only [getD_of hget]
theorem find_none {c : CacheD} {l : Int} (h : atC c l = none) : findC ln tok c l = (emptyW, -1) := by
  unfold findC
  rw [h]
  split <;> rfl
theorem find_some {c : CacheD} {l : Int} {i : Nat} {u : WayD} (h : OkC ln tok c) (ha : atC c l = some i) (hu : (rowFor c l)[i]? = some u) : findC ln tok c l = (u, (i : Int)) := by
  unfold findC
  rw [if_pos (okB_iff.2 h), ha]
  simp only [getD_of hu]
/- Two stores that are right: a line is found in both alike where its rows hold it alike. -/
theorem find_same {c d : CacheD} {l : Int} (h : OkC ln tok c) (k : OkC ln tok d) (hh : ∀ (u : WayD), u.1 = l → ((∃ i : Nat, (rowFor c l)[i]? = some u) ↔ ∃ i : Nat, (rowFor d l)[i]? = some u)) : (findC ln tok c l).1 = (findC ln tok d l).1 := by
  cases hc : atC c l with
  | none =>
    cases hd : atC d l with
    | none => rw [find_none hc, find_none hd]
    | some j =>
      obtain ⟨h0, x, hx, he⟩ := at_some hd
      obtain ⟨i, hi⟩ := (hh x he).2 ⟨j, hx⟩
      exact absurd he (at_none hc h0 hi)
  | some i =>
    obtain ⟨h0, x, hx, he⟩ := at_some hc
    obtain ⟨j, hj⟩ := (hh x he).1 ⟨i, hx⟩
    obtain ⟨g1, g2, m, gm, g3⟩ := k
    have hd := at_iff (tree_get g1 g2 g3).2.2.2.2 h0 hj he
    rw [find_some h hc hx, find_some ⟨g1, g2, m, gm, g3⟩ hd hj]
theorem fill_other {c : CacheD} {u : WayD} {i : Nat} {l : Int} (ht : ∀ t n y : Int, tok t n = true → 0 ≤ y → y < n → tok (tou t n y) n = true) (h : OkC ln tok c) (hu : fullB ln u = true) (hp : putNo c u.1 = some i) (hl : l ≠ u.1) (h0 : 0 ≤ l) :
    (findC ln tok c l).1 = (findC ln tok (fillX tou c u i) l).1 := by
  obtain ⟨hok, x, hx, hcase⟩ := fill_ok ht h hu hp
  refine find_same h hok fun y hy => ?_
  have hrow : rowFor (fillX tou c u i) l = if setNo c l = setNo c u.1 then (rowFor c u.1).set i u else rowFor c l := by
    unfold fillX
    rw [rowFor_set h.1]
  rw [hrow]
  by_cases hs : setNo c l = setNo c u.1
  · rw [if_pos hs]
    have hrr : rowFor c l = rowFor c u.1 := by unfold rowFor; rw [hs]
    rw [hrr]
    constructor
    · rintro ⟨j, hj⟩
      refine ⟨j, ?_⟩
      rw [List.getElem?_set]
      by_cases hij : i = j
      · subst hij
        rw [hx] at hj
        simp at hj
        subst hj
        rcases hcase with hc | hc
        · have := clear_eq hc
          rw [this] at hy
          simp [emptyW] at hy
          omega
        · exact absurd (hy.symm.trans hc) hl
      · rw [if_neg hij]
        exact hj
    · rintro ⟨j, hj⟩
      rw [List.getElem?_set] at hj
      by_cases hij : i = j
      · rw [if_pos hij] at hj
        split at hj
        · simp at hj
          subst hj
          exact absurd hy.symm hl
        · cases hj
      · rw [if_neg hij] at hj
        exact ⟨j, hj⟩
  · rw [if_neg hs]
/- What is dropped is there no more. -/
/- A new one is right. -/
/- What must go. -/
theorem leaves_none {c : CacheD} {line : Int} (hv : ∀ t n : Int, tok t n = true → 0 ≤ vic t n ∧ vic t n < n) (h : OkC ln tok c) (hp : putNo c line = none) (h0 : 0 ≤ line) :
    ∃ (j : Nat) (u : WayD), (rowFor c line)[j]? = some u ∧ (rowFor c line).getD (vic (treeFor c line) (rowFor c line).length).toNat emptyW = u ∧ fullB ln u = true ∧ setNo c u.1 = setNo c line ∧ u.1 ≠ line ∧ atC c u.1 = some j := by
  obtain ⟨h1, h2, m, hm, h3⟩ := h
  obtain ⟨a1, a2, a3, a4⟩ := tree_get (line := line) h1 h2 h3
  have hvv := hv _ _ a3
  rw [← a1] at hvv
  have hlt : (vic (treeFor c line) (rowFor c line).length).toNat < (rowFor c line).length := by omega
  generalize (vic (treeFor c line) (rowFor c line).length).toNat = j at hlt
  have hu : (rowFor c line)[j]? = some (rowFor c line)[j] := List.getElem?_eq_getElem hlt
  generalize (rowFor c line)[j] = u at hu
  have hn : atC c line = none ∧ roomC c line = none := by
    unfold putNo at hp
    split at hp
    · cases hp
    · rename_i hk
      exact ⟨hk, hp⟩
  have hne := at_none hn.1 h0 hu
  have hcl : clearB u = false := idx_none hn.2 hu
  rcases a4.1 j u hu with hc | ⟨hf, hs⟩
  · rw [hcl] at hc
    cases hc
  · have hset : setNo c u.1 = setNo c line := by
      have e1 := setNo_cast (line := u.1) h1
      omega
    have hrr : rowFor c u.1 = rowFor c line := by unfold rowFor; rw [hset]
    refine ⟨j, u, hu, getD_of hu, hf, hset, hne, ?_⟩
    exact at_iff (by rw [hrr]; exact a4.2) (full_line hf).1 (by rw [hrr]; exact hu) rfl
end
end Go.Proofs.YthbclkpmgcfdnaaGreatDoor
