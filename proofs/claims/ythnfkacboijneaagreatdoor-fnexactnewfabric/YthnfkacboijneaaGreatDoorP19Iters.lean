import Derived.Test.YthnfkacboijneaaGreatDoorP18Ways
import Derived.RangeFuncCalls
import Derived.Shelf.RegionOpen
import Derived.OwnWalkIn
import Derived.TacticsInMore
import Derived.LoopNIn
import Derived.LoopIn
namespace Go.Proofs.YthnfkacboijneaaGreatDoor
open Go.ChangeShapes Go.WideShapes Go.ChangeAt Go.RowKit Go.Shelf
set_option linter.unusedVariables false
attribute [local go_sem] Oper.semAt_some
structure WCells where
 line : Int
 state : Int
 addr : Option Addr
 len : Nat
 cap : Nat
abbrev WCells.agg (c : WCells) : Value := .agg #[.int .i64 c.line, .int .i64 c.state, .slice c.addr c.len c.cap]
def RowAt (W : World) (b off n : Nat) (c : Nat → WCells) : Prop :=
 ∀ k, k < n → W.cell? ⟨b, off + k * 3, none⟩ = some (.int .i64 (c k).line) ∧ W.cell? ⟨b, off + k * 3 + 1, none⟩ = some (.int .i64 (c k).state) ∧ W.cell? ⟨b, off + k * 3 + 2, none⟩ = some (.slice (c k).addr (c k).len (c k).cap)
set_option maxHeartbeats 1000000 in
theorem waysOf1_iter (Bs b off n cap : Nat) (c : Nat → WCells) (hn : n ≤ 1048576) :
    Iter Tryz.prog 284 #[.pointer (some ⟨Bs, 0, none⟩)] (fun k => #[.int .i64 k, (c k).agg]) n
     (fun W => W.cell? ⟨Bs, 0, none⟩ = some (.slice (some ⟨b, off, none⟩) n cap) ∧ RowAt W b off n c) := by
 intro l J Jx W hJ hJx hR hY h0
 obtain ⟨r0, _⟩ := hR 0 W h0
 refine callsIn_of_wp Tryz.func284 rfl trivial ?_ rfl
 simp only [Tryz.ntmps284, List.size_toArray, List.length_cons, List.length_nil, Nat.reduceAdd, Nat.reduceSub, Array.replicate_succ, Array.replicate_zero, List.push_toArray, List.append_toArray, List.nil_append, List.cons_append]
 gi_wp2
 gi_loopw [7] (fun p wr => ∃ k : Nat, k ≤ n ∧ p = .int .i64 k ∧ J k wr) (fun p _ => n - (intOf p).toNat)
 case atStart => exact ⟨0, Nat.zero_le _, rfl, h0⟩
 case round =>
  obtain ⟨k, hk, rfl, hj⟩ := hrel
  by_cases hlt : k < n
  ·have hlt' : (k : Int) < (n : Int) := by omega
   obtain ⟨q0, q1⟩ := hR k wr hj
   obtain ⟨c0, c1, c2⟩ := q1 k hlt
   obtain ⟨fn, tmps, assign, body, hy, hrd⟩ := hY k (wr.alloc (.cells #[.int .i64 (c k).line, .int .i64 (c k).state, .slice (c k).addr (c k).len (c k).cap] 84)) hlt (hJ.alloc _ hj)
   gi_wp2
   refine ⟨rfl, hrd.mono ?_⟩
   rintro e W3 ⟨_, ⟨rfl, hj3⟩ | ⟨rfl, hx3⟩⟩
   ·gi_wp2
    go_roundw
    case rel => exact ⟨k + 1, by omega, by go_num, hj3⟩
    case measure => simp [intOf]; omega
   ·gi_wp2
    refine bodyPost_ret (results_none rfl _ _ _) rfl ?_
    exact ⟨⟨_, rfl⟩, .inr ⟨k, hlt, hx3⟩⟩
  ·gi_wp2
   go_end0
   exact ⟨⟨_, rfl⟩, .inl (by have : k = n := by omega
                             subst this; exact hj)⟩
attribute [local go_sem] Oper.semAt_some
theorem rowAt_of {w : World} {a : Option Addr} {row : List WayD} (h : SlRd wayR w a row) (hne : row ≠ []) :
    ∃ b off c, a = some ⟨b, off, none⟩ ∧ RowAt w b off row.length c ∧ ∀ k u, row[k]? = some u → (c k).line = u.1 ∧ (c k).state = u.2.1 ∧ (c k).len = u.2.2.length ∧ u.2.2.length ≤ (c k).cap ∧ (c k).cap ≤ maxLen ∧ SlRd intR w (c k).addr u.2.2 := by
 have h' := h
 rcases h' with h' | ⟨b, off, rows, rfl, _, _⟩
 ·exact absurd h' hne
 have each : ∀ k : Nat, ∃ x : WCells, ∀ u, row[k]? = some u → (w.cell? ⟨b, off + k * 3, none⟩ = some (.int .i64 x.line) ∧ w.cell? ⟨b, off + k * 3 + 1, none⟩ = some (.int .i64 x.state) ∧ w.cell? ⟨b, off + k * 3 + 2, none⟩ = some (.slice x.addr x.len x.cap)) ∧
     x.line = u.1 ∧ x.state = u.2.1 ∧ x.len = u.2.2.length ∧ u.2.2.length ≤ x.cap ∧ x.cap ≤ maxLen ∧ SlRd intR w x.addr u.2.2 := by
  intro k
  cases hk : row[k]? with
  | none => exact ⟨⟨0, 0, none, 0, 0⟩, fun u hu => by cases hu⟩
  | some u =>
   obtain ⟨b', off', cs, hb, hrd, hcell⟩ := slrd_at h hk
   cases hb
   obtain ⟨ad, cap, rfl, i1, i2, h1, h2, h3⟩ := way_rd hrd
   refine ⟨⟨u.1, u.2.1, ad, u.2.2.length, cap⟩, fun u' hu => ?_⟩
   cases hu
   exact ⟨⟨hcell 0 _ rfl, hcell 1 _ rfl, hcell 2 _ rfl⟩, rfl, rfl, rfl, h1, h2, h3⟩
 obtain ⟨c, hc⟩ := Classical.axiomOfChoice each
 refine ⟨b, off, c, rfl, fun k hk => (hc k _ (List.getElem?_eq_getElem hk)).1, fun k u hu => (hc k u hu).2⟩
theorem rowAt_below {w w' : World} {b off n D : Nat} {c : Nat → WCells} (h : RowAt w b off n c) (hb : Below D w w') (hD : ∀ k, k < n → b < D) : RowAt w' b off n c := fun k hk => by
 obtain ⟨h0, h1, h2⟩ := h k hk
 have := hb.block b (hD k hk)
 exact ⟨(World.cell?_of_block (w := w) (a := ⟨b, _, none⟩) this).trans h0, (World.cell?_of_block (w := w) (a := ⟨b, _, none⟩) this).trans h1, (World.cell?_of_block (w := w) (a := ⟨b, _, none⟩) this).trans h2⟩
theorem rowAt_lt {w : World} {b off n : Nat} {c : Nat → WCells} (h : RowAt w b off n c) (hn : 0 < n) : b < w.heap.size := World.block_lt_of_cell? w _ (h 0 hn).1
def firstI (row : List WayD) (line : Int) : Int := match row.findIdx? fun u => u.1 == line with
 | some i => (i : Int)
 | none => -1
theorem firstI_some {row : List WayD} {line : Int} {c : Nat → WCells} {k : Nat} {u : WayD} (hu : row[k]? = some u) (hl : u.1 = line) (hno : ∀ j u, j < k → row[j]? = some u → u.1 ≠ line) : firstI row line = k := by
 have hk := (List.getElem?_eq_some_iff.1 hu).1
 have : row.findIdx? (fun u => u.1 == line) = some k := by
  rw [List.findIdx?_eq_some_iff_getElem]
  refine ⟨hk, ?_, fun j hj => ?_⟩
  ·rw [List.getElem?_eq_getElem hk] at hu
   cases hu
   simpa using hl
  ·simpa using hno j _ hj (List.getElem?_eq_getElem (by omega))
 unfold firstI
 rw [this]
theorem firstI_none {row : List WayD} {line : Int} (hno : ∀ (j : Nat) (u : WayD), row[j]? = some u → u.1 ≠ line) : firstI row line = -1 := by
 have : row.findIdx? (fun u => u.1 == line) = none := by
  rw [List.findIdx?_eq_none_iff]
  intro u hu
  obtain ⟨j, hj⟩ := List.mem_iff_getElem?.1 hu
  simpa using hno j u hj
 unfold firstI
 rw [this]
set_option maxHeartbeats 400000 in
theorem waysOf_any (v : Value) (a : Option Addr) (n cap : Nat) (hv : v = .slice a n cap) (w : World) :
    Calls Tryz.prog 262 #[v] w fun e w' => e = .returned (.func (.func 284) #[] #[.pointer (some ⟨w.heap.size, 0, none⟩)]) ∧ w' = w.alloc (.cells #[v] 88) := by
 subst hv
 go_enter Tryz.func262, Tryz.ntmps262
 go_wp2
 go_ret
 exact ⟨rfl, rfl⟩
set_option maxHeartbeats 2000000 in
theorem firstWith_any (a : Option Addr) (row : List WayD) (cap : Nat) (line : Int) (w : World) (h : SlRd wayR w a row) (hne : row ≠ []) (hm : row.length ≤ 1048576) :
    Calls Tryz.prog 283 #[.slice a row.length cap, .int .i64 line] w fun e w' => e = .returned (.int .i64 (firstI row line)) ∧ Below w.heap.size w w' := by
 obtain ⟨b, off, c, rfl, hrow, hc⟩ := rowAt_of h hne
 have hpos : 0 < row.length := List.length_pos_iff.2 hne
 have hblt := rowAt_lt hrow hpos
 have HC : Hid (∀ (k : Nat) (u : WayD), row[k]? = some u → (c k).line = u.1) := fun k u hu => (hc k u hu).1
 clear h hc
 refine (callsIn_wide (n := 0)).1 ?_
 refine callsIn_of_wp_marks Tryz.func283 rfl trivial ?_ rfl
 simp only [Tryz.ntmps283, List.size_toArray, List.length_cons, List.length_nil, Nat.reduceAdd, Nat.reduceSub, Array.replicate_succ, Array.replicate_zero, List.push_toArray, List.append_toArray, List.nil_append, List.cons_append]
 gi_wp2
 refine ⟨trivial, rfl, (callsIn_wide.2 (waysOf_any _ _ _ _ rfl _)).mono ?_⟩
 rintro e w' ⟨rfl, rfl⟩
 gi_wp2
 have e1 : (w.alloc (.cells #[.int .i64 line] 2)).heap.size = w.heap.size + 1 := by simp
 have e2 : ((w.alloc (.cells #[.int .i64 line] 2)).alloc (.cells #[.int .i64 0] 2)).heap.size = w.heap.size + 1 + 1 := by simp
 have k0 := heap_at w (.cells #[.int .i64 line] 2)
 have k1 := heap_at (w.alloc (.cells #[.int .i64 line] 2)) (.cells #[.int .i64 0] 2)
 have k2 := heap_at ((w.alloc (.cells #[.int .i64 line] 2)).alloc (.cells #[.int .i64 0] 2)) (.cells #[.slice (some ⟨b, off, none⟩) row.length cap] 88)
 rw [e1] at k1
 rw [e2] at k2
 have k0' := heap_on (.cells #[.slice (some ⟨b, off, none⟩) row.length cap] 88) (heap_on (.cells #[.int .i64 0] 2) k0)
 have k1' := heap_on (.cells #[.slice (some ⟨b, off, none⟩) row.length cap] 88) k1
 have hB0 : Below w.heap.size w (((w.alloc (.cells #[.int .i64 line] 2)).alloc (.cells #[.int .i64 0] 2)).alloc (.cells #[.slice (some ⟨b, off, none⟩) row.length cap] 88)) :=
  (((Below.refl _ w).alloc (Nat.le_refl _) _).alloc (by simp) _).alloc (by simp; omega) _
 clear k0 k1
 have e3 : (((w.alloc (.cells #[.int .i64 line] 2)).alloc (.cells #[.int .i64 0] 2)).alloc (.cells #[.slice (some ⟨b, off, none⟩) row.length cap] 88)).heap.size = w.heap.size + 1 + 1 + 1 := by simp
 generalize (((w.alloc (.cells #[.int .i64 line] 2)).alloc (.cells #[.int .i64 0] 2)).alloc (.cells #[.slice (some ⟨b, off, none⟩) row.length cap] 88)) = W0 at k0' k1' k2 hB0 e3 ⊢
 clear e1 e2
 refine range_iter (N := row.length) (lb := #[.pointer (some ⟨w.heap.size + 1 + 1, 0, none⟩)]) (gf := 284) rfl (enters_of Tryz.func284 (by kernel_rfl) rfl)
  (waysOf1_iter (w.heap.size + 1 + 1) b off row.length cap c hm) (fun _ => rfl)
  (fun k W => (∀ j u, j < k → row[j]? = some u → u.1 ≠ line) ∧ W.heap[w.heap.size]? = some (.cells #[.int .i64 line] 2 (0, 0)) ∧ W.heap[w.heap.size + 1]? = some (.cells #[.int .i64 0] 2 (0, 0)) ∧ W.heap[w.heap.size + 1 + 1]? = some (.cells #[.slice (some ⟨b, off, none⟩) row.length cap] 88 (0, 0)) ∧ Below w.heap.size w W)
  (fun x k W => x = .ret ∧ firstI row line = k ∧ W.heap[w.heap.size + 1]? = some (.cells #[.int .i64 k] 2 (0, 0)) ∧ Below w.heap.size w W)
  ?hI ?hIx ?hR ?h0
  (fun k a' W => ∃ B, W0.heap.size < B ∧ W.heap[B]? = some (.cells #[.int .i64 (c k).line, .int .i64 (c k).state, .slice (c k).addr (c k).len (c k).cap] 84 (0, 0)) ∧ (∀ j u, j < k → row[j]? = some u → u.1 ≠ line) ∧ W.heap[w.heap.size]? = some (.cells #[.int .i64 line] 2 (0, 0)) ∧ W.heap[w.heap.size + 1]? = some (.cells #[.int .i64 0] 2 (0, 0)) ∧ W.heap[w.heap.size + 1 + 1]? = some (.cells #[.slice (some ⟨b, off, none⟩) row.length cap] 88 (0, 0)) ∧ Below w.heap.size w W ∧
   a' = { tmps := #[.slice (some ⟨b, off, none⟩) row.length cap, .int .i64 line, undef, .pointer (some ⟨w.heap.size, 0, none⟩), .pointer (some ⟨w.heap.size + 1, 0, none⟩), .int .i64 k, .pointer (some ⟨B, 0, none⟩), .slice (some ⟨b, off, none⟩) row.length cap, .func (.func 284) #[] #[.pointer (some ⟨w.heap.size + 1 + 1, 0, none⟩)], .int .i64 k, (c k).agg, undef, undef, undef, undef, undef], defers := [] })
  ?hA ?hassign ?hbody ?hdone ?hstop
 case hI => exact OwnFrom.and (ownFrom_pure _ _) (OwnFrom.and (own_heap _ _ _ _) (OwnFrom.and (own_heap _ _ _ _) (OwnFrom.and (own_heap _ _ _ _) (ownFrom_below (Nat.le_refl _) (by omega)))))
 case hIx => exact fun x => OwnFrom.and (ownFrom_pure _ _) (OwnFrom.and (ownFrom_pure _ _) (OwnFrom.and (fun k X Y row' hs hg hr => own_heap (β := Unit) _ _ _ _ () X Y row' hs hg hr) (ownFrom_below (Nat.le_refl _) (by omega))))
 case hR =>
  rintro k W ⟨_, _, _, h3, hB⟩
  exact ⟨by rw [cell_of_row W _ 0 _ _ (0, 0) h3]; rfl, rowAt_below hrow hB (fun _ _ => hblt)⟩
 case h0 => exact ⟨fun j u hj => by omega, k0', k1', k2, hB0⟩
 case hA =>
  rintro k a' ⟨⟩ X Y row' ⟨B, g1, g2, g3, g4, g5, g6, g7, rfl⟩ hg hr
  exact ⟨B, g1, own_heap (β := Unit) _ _ _ _ () X Y row' g2 hg hr, g3, own_heap (β := Unit) _ _ _ _ () X Y row' g4 hg hr, own_heap (β := Unit) _ _ _ _ () X Y row' g5 hg hr, own_heap (β := Unit) _ _ _ _ () X Y row' g6 hg hr, ownFrom_below (β := Unit) (Nat.le_refl _) (by omega) () X Y row' g7 hg hr, rfl⟩
 case hassign =>
  rintro k W K hk ⟨g3, g4, g5, g6, g7⟩ hlt hK
  gi_wp2
  refine hK _ _ (Kept.alloc _ _ _) ⟨W.heap.size, by omega, heap_at _ _, g3, heap_on _ g4, heap_on _ g5, heap_on _ g6, g7.alloc (by omega) _, rfl⟩
 case hbody =>
  rintro k a' W hk ⟨B, g1, g2, g3, g4, g5, g6, g7, rfl⟩ hlt _ _
  have q0 : W.cell? ⟨B, 0, none⟩ = some (.int .i64 (c k).line) := by rw [cell_of_row W _ 0 _ _ (0, 0) g2]; rfl
  have q1 : W.cell? ⟨w.heap.size, 0, none⟩ = some (.int .i64 line) := by rw [cell_of_row W _ 0 _ _ (0, 0) g4]; rfl
  have q2 : W.cell? ⟨w.heap.size + 1, 0, none⟩ = some (.int .i64 0) := by rw [cell_of_row W _ 0 _ _ (0, 0) g5]; rfl
  have q3 : W.frozen? ⟨w.heap.size + 1, 0, none⟩ = false := frozen_of_row W _ 0 _ _ g5
  have hu : row[k]? = some row[k] := List.getElem?_eq_getElem hk
  have hl := HC.out k _ hu
  generalize row[k] = u at hu hl
  have HU : Hid (row[k]? = some u) := hu
  have HL : Hid ((c k).line = u.1) := hl
  clear hu hl
  by_cases hx : ((c k).line == line) = true
  ·gi_wp2
   have hx' : u.1 = line := by have := HL.out; simp at hx; omega
   refine ⟨Kept.chg (S := fun j => j = w.heap.size + 1) (chg_grown (grownBy_setCell' W (w.heap.size + 1) _) rfl) (fun j e => by omega), rfl, firstI_some (c := c) HU.out hx' g3, ?_, g7.setCell (p := ⟨w.heap.size + 1, 0, none⟩) (by simp) _⟩
   exact heap_setCell_same W _ 0 _ _ _ g5
  ·simp only [Bool.not_eq_true] at hx
   gi_wp2
   refine ⟨Kept.refl _ _, fun j v hj hv => ?_, g4, g5, g6, g7⟩
   by_cases he : j < k
   ·exact g3 j v he hv
   ·have : j = k := by omega
    subst this
    rw [HU.out] at hv
    cases hv
    have := HL.out
    simp at hx
    omega
 case hdone =>
  rintro W ⟨g3, g4, g5, g6, g7⟩ hK
  have q2 : W.cell? ⟨w.heap.size + 1, 0, none⟩ = some (.int .i64 0) := by rw [cell_of_row W _ 0 _ _ (0, 0) g5]; rfl
  have q3 : W.frozen? ⟨w.heap.size + 1, 0, none⟩ = false := frozen_of_row W _ 0 _ _ g5
  gi_wp2
  have g8 := heap_setCell_same W (w.heap.size + 1) 0 _ _ (.int .i64 (-1)) g5
  have hK' : (W.setCell ⟨w.heap.size + 1, 0, none⟩ (.int .i64 (-1))).heap[W0.heap.size]? = some (.deferred (some [])) := (heap_setCell_other W ⟨w.heap.size + 1, 0, none⟩ _ _ (by simp; omega)).trans hK
  refine ⟨by simp, .inl ⟨_, _, rfl, run_takeDeferred hK', ?_⟩⟩
  have g9 := (World.putObj_heap_other (o := .deferred none) (show w.heap.size + 1 ≠ W0.heap.size by omega)).trans g8
  have hc5 := cell_of_row _ _ 0 _ _ (0, 0) g9
  refine ⟨.int .i64 (-1), ?_, ret_int (firstI_none fun j u hu => g3 j u (List.getElem?_eq_some_iff.1 hu).1 hu).symm, (g7.setCell (p := ⟨w.heap.size + 1, 0, none⟩) (by simp) _).trans ((Below.refl _ _).grown (grownBy_putObj' _ _ _) (by have := (Array.getElem?_eq_some_iff.1 hK').1; omega) (fun k e => by cases e; omega))⟩
  simp at hc5
  simp [results, Tryz.results283, go_sem, hc5]
 case hstop =>
  rintro x k W hk ⟨rfl, hf, g5, g7⟩ hK
  gi_wp2
  refine ⟨by simp, .inl ⟨_, _, rfl, run_takeDeferred hK, ?_⟩⟩
  have g9 := (World.putObj_heap_other (o := .deferred none) (show w.heap.size + 1 ≠ W0.heap.size by omega)).trans g5
  have hc5 := cell_of_row _ _ 0 _ _ (0, 0) g9
  refine ⟨.int .i64 k, ?_, ret_int hf.symm, g7.trans ((Below.refl _ _).grown (grownBy_putObj' _ _ _) (by have := (Array.getElem?_eq_some_iff.1 hK).1; omega) (fun k e => by cases e; omega))⟩
  simp at hc5
  simp [results, Tryz.results283, go_sem, hc5]
attribute [local go_sem] Oper.semAt_some
end Go.Proofs.YthnfkacboijneaaGreatDoor
