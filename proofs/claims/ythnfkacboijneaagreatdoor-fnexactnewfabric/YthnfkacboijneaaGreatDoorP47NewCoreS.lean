import Derived.Test.YthnfkacboijneaaGreatDoorP40NewCore
import Derived.Test.YthnfkacboijneaaGreatDoorP46Skips
import Derived.Deep.RegionHeldLaw
namespace Go.Proofs.YthnfkacboijneaaGreatDoor
open Go.ChangeShapes Go.WideShapes Go.ChangeAt Go.RowKit
set_option linter.unusedVariables false
theorem gr2 {X wA : World} {r : Option Nat} (w : World) (o z : Obj) (hg : X.grownBy wA r) (hX : X.heap = ((w.alloc o).alloc z).heap) (hr : r = some w.heap.size) : wA.heap[w.heap.size + 1]? = some z := by
 have h := heap_at (w.alloc o) z
 rw [alloc_len, ← hX] at h
 exact (hg.block _ (Array.getElem?_eq_some_iff.1 h).1 (by simp [hr])).trans h
theorem gr3 {X wA : World} {r : Option Nat} (w : World) (o z : Obj) (hg : X.grownBy wA r) (hX : X.heap = ((w.alloc z).alloc o).heap) (hr : r = some (w.heap.size + 1)) : wA.heap[w.heap.size]? = some z := by
 have h := heap_on o (heap_at w z)
 rw [← hX] at h
 exact (hg.block _ (Array.getElem?_eq_some_iff.1 h).1 (by simp [hr])).trans h
theorem sp_own {V w w0 : World} {g1 cap : Nat} {rows : List Value} {p : List OpD} (hr : lrd opR w0 rows p) (h : SP V w 98 4 (.slice (some ⟨g1, 0, none⟩) p.length cap) p.length rows) : opsR.own w (fun k => k = g1) [.slice (some ⟨g1, 0, none⟩) p.length cap] p ∧ V.heap.size ≤ g1 ∧ g1 < w.heap.size := by
 obtain ⟨q1, q2, q3⟩ := rows_ops (w' := w) (S := fun _ => False) hr
 refine ⟨⟨_, rows, fun _ => False, rfl, row_base h.own (fun _ _ => Nat.zero_le _), fun g hg' => ⟨?_, fun h => h⟩, fun _ h => h.elim, q1⟩, World.ownsRow.lt h.own g1 rfl⟩
 simp [Value.ownBlock] at hg'
 exact hg'.symm
theorem own_ne {w : World} {S : Foot} {g g1 n cap : Nat} {p : List OpD} {cs : Array Value} (h : opsR.own w S [.slice (some ⟨g1, 0, none⟩) n cap] p) (hz : w.heap[g]? = some (.cells cs 86 (0, 0))) : ¬ (g = g1) := by
 rintro rfl
 obtain ⟨v, rows, S', hv, hr, -⟩ := h
 simp only [List.cons.injEq, and_true] at hv
 subst hv
 rcases hr.2 with ⟨h0, -⟩ | ⟨g2, cap2, cur, h0, -, hh, -⟩
 ·cases h0
 ·cases h0
  rw [hz] at hh
  cases hh
def CutN (w W0 w1 : World) (p : List OpD) (nc : CacheD) (ac : Option Addr) (cc : Nat) (bc : Option Addr) (dc : Nat) (q : Value) (wx : World) : Prop := ∃ (g g1 : Nat) (co : Nat) (ae : Option Addr) (ce : Nat) (l4 h4 : Nat), q = .pointer (some ⟨g, 0, none⟩) ∧ wx.heap[g]? = some (.cells #[.slice ac nc.1.length cc, .slice bc nc.2.length dc, .slice (some ⟨g1, 0, none⟩) p.length co, .int .i64 0, .int .i64 0, .int .i64 (-1), .int .i64 0, .slice ae 0 ce, .slice none 0 0] 86 (0, 0)) ∧ Below w.heap.size w wx ∧ Owned cacheR W0.heap.size w1.heap.size wx [.slice ac nc.1.length cc, .slice bc nc.2.length dc] nc ∧ opsR.own wx (fun k => k = g1) [.slice (some ⟨g1, 0, none⟩) p.length co] p ∧ w1.heap.size ≤ g1 ∧ g1 < l4 ∧ Owned wayR l4 h4 wx [.int .i64 (-1), .int .i64 0, .slice ae 0 ce] emptyW ∧ wx.heap[w.heap.size]? = some (.cells #[.slice none 0 0, .slice none 0 0, .slice none 0 0, .int .i64 0, .int .i64 0, .int .i64 0, .int .i64 0, .slice none 0 0, .slice none 0 0] 86 (0, 0))
theorem cutN_set {w W0 w1 W1 wA C we : World} {p : List OpD} {nc : CacheD} {ac : Option Addr} {cc : Nat} {bc : Option Addr} {dc g g1 co : Nat} {ae : Option Addr} {ce : Nat} (R : W1.heap[w.heap.size]? = some (.cells #[.slice none 0 0, .slice none 0 0, .slice none 0 0, .int .i64 0, .int .i64 0, .int .i64 0, .int .i64 0, .slice none 0 0, .slice none 0 0] 86)) (B : Below w.heap.size w W1) (P : Owned cacheR W0.heap.size w1.heap.size W1 [.slice ac nc.1.length cc, .slice bc nc.2.length dc] nc) (s2 : w1.heap.size ≤ W1.heap.size) (bA : Below W1.heap.size W1 wA) (bE : Below wA.heap.size wA we)
    (O : opsR.own wA (fun k => k = g1) [.slice (some ⟨g1, 0, none⟩) p.length co] p) (gl : W1.heap.size ≤ g1) (gu : g1 < wA.heap.size) (me : MadeR wayR C we [.int .i64 (-1), .int .i64 0, .slice ae 0 ce] emptyW) (hC : wA.heap.size ≤ C.heap.size) (hg : W1.heap.size ≤ g) (hgC : g < C.heap.size) (ZR : we.heap[g]? = some (.cells #[.slice none 0 0, .slice none 0 0, .slice none 0 0, .int .i64 0, .int .i64 0, .int .i64 0, .int .i64 0, .slice none 0 0, .slice none 0 0] 86)) :
    CutN w W0 w1 p nc ac cc bc dc (.pointer (some ⟨g, 0, none⟩)) (((((((((we.setCell ⟨g, 0, none⟩ (.slice ac nc.1.length cc)).setCell ⟨g, 1, none⟩ (.slice bc nc.2.length dc)).setCell ⟨g, 2, none⟩ (.slice (some ⟨g1, 0, none⟩) p.length co)).setCell ⟨g, 3, none⟩ (.int .i64 0)).setCell ⟨g, 4, none⟩ (.int .i64 0)).setCell ⟨g, 5, none⟩ (.int .i64 (-1))).setCell ⟨g, 6, none⟩ (.int .i64 0)).setCell ⟨g, 7, none⟩ (.slice ae 0 ce)).setCell ⟨g, 8, none⟩ (.slice none 0 0)) := by
 show CutN w W0 w1 p nc ac cc bc dc (.pointer (some ⟨g, 0, none⟩)) (setCs we g 0 [.slice ac nc.1.length cc, .slice bc nc.2.length dc, .slice (some ⟨g1, 0, none⟩) p.length co, .int .i64 0, .int .i64 0, .int .i64 (-1), .int .i64 0, .slice ae 0 ce, .slice none 0 0])
 have bS := below_step bA bE
 have hw0 : w.heap.size < W1.heap.size := (Array.getElem?_eq_some_iff.1 R).1
 have O2 := opsR.own_keep O (keeps_below bE)
 exact ⟨g, g1, co, ae, ce, C.heap.size, we.heap.size, rfl, put_core (y0 := .slice ac nc.1.length cc) (y1 := .slice bc nc.2.length dc) (y2 := .slice (some ⟨g1, 0, none⟩) p.length co) (y3 := .int .i64 0) (y4 := .int .i64 0) (y5 := .int .i64 (-1)) (y6 := .int .i64 0) (y7 := .slice ae 0 ce) (y8 := .slice none 0 0) ZR, below_setCs0 (below_step B bS) (by omega), owned_setCs (owned_next P bS) (.inr (by omega)), own_setCs O2 (own_ne O2 ZR), Nat.le_trans s2 gl, by omega, owned_setCs (owned_made me) (.inl hgC), row_otherCs (row_keep bS R) (by omega)⟩
theorem cutN_new {w W0 w1 W1 wA we : World} {p : List OpD} {nc : CacheD} {ac : Option Addr} {cc : Nat} {bc : Option Addr} {dc g1 co : Nat} {ae : Option Addr} {ce : Nat} (R : W1.heap[w.heap.size]? = some (.cells #[.slice none 0 0, .slice none 0 0, .slice none 0 0, .int .i64 0, .int .i64 0, .int .i64 0, .int .i64 0, .slice none 0 0, .slice none 0 0] 86)) (B : Below w.heap.size w W1) (P : Owned cacheR W0.heap.size w1.heap.size W1 [.slice ac nc.1.length cc, .slice bc nc.2.length dc] nc) (s2 : w1.heap.size ≤ W1.heap.size) (bA : Below W1.heap.size W1 wA)
    (O : opsR.own wA (fun k => k = g1) [.slice (some ⟨g1, 0, none⟩) p.length co] p) (gl : W1.heap.size ≤ g1) (gu : g1 < wA.heap.size) (me : MadeR wayR wA we [.int .i64 (-1), .int .i64 0, .slice ae 0 ce] emptyW) :
    CutN w W0 w1 p nc ac cc bc dc (.pointer (some ⟨we.heap.size, 0, none⟩)) (we.alloc (.cells #[.slice ac nc.1.length cc, .slice bc nc.2.length dc, .slice (some ⟨g1, 0, none⟩) p.length co, .int .i64 0, .int .i64 0, .int .i64 (-1), .int .i64 0, .slice ae 0 ce, .slice none 0 0] 86)) := by
 have bS := below_step bA me.2
 have O2 := opsR.own_keep O (keeps_below me.2)
 exact ⟨we.heap.size, g1, co, ae, ce, wA.heap.size, we.heap.size, rfl, heap_at we (.cells #[.slice ac nc.1.length cc, .slice bc nc.2.length dc, .slice (some ⟨g1, 0, none⟩) p.length co, .int .i64 0, .int .i64 0, .int .i64 (-1), .int .i64 0, .slice ae 0 ce, .slice none 0 0] 86), below_step (below_step B bS) (box_below we (.cells #[.slice ac nc.1.length cc, .slice bc nc.2.length dc, .slice (some ⟨g1, 0, none⟩) p.length co, .int .i64 0, .int .i64 0, .int .i64 (-1), .int .i64 0, .slice ae 0 ce, .slice none 0 0] 86)), owned_next (owned_next P bS) (box_below we (.cells #[.slice ac nc.1.length cc, .slice bc nc.2.length dc, .slice (some ⟨g1, 0, none⟩) p.length co, .int .i64 0, .int .i64 0, .int .i64 (-1), .int .i64 0, .slice ae 0 ce, .slice none 0 0] 86)), own_box (.cells #[.slice ac nc.1.length cc, .slice bc nc.2.length dc, .slice (some ⟨g1, 0, none⟩) p.length co, .int .i64 0, .int .i64 0, .int .i64 (-1), .int .i64 0, .slice ae 0 ce, .slice none 0 0] 86) O2, Nat.le_trans s2 gl, gu, owned_next (owned_made me) (box_below we (.cells #[.slice ac nc.1.length cc, .slice bc nc.2.length dc, .slice (some ⟨g1, 0, none⟩) p.length co, .int .i64 0, .int .i64 0, .int .i64 (-1), .int .i64 0, .slice ae 0 ce, .slice none 0 0] 86)), heap_on (.cells #[.slice ac nc.1.length cc, .slice bc nc.2.length dc, .slice (some ⟨g1, 0, none⟩) p.length co, .int .i64 0, .int .i64 0, .int .i64 (-1), .int .i64 0, .slice ae 0 ce, .slice none 0 0] 86) (row_keep bS R)⟩
theorem own_row0 {w : World} {g : Nat} (h : w.heap[g]? = some (.cells #[] 98)) : opsR.own w (fun k => k = g) [.slice (some ⟨g, 0, none⟩) ([] : List OpD).length 0] [] := by
 have h0 : (w.alloc (.cells #[] 98)).ownsRow 0 98 4 (.slice (some ⟨w.heap.size, 0, none⟩) 0 0) 0 [] := World.ownsRow_lit w #[] 0 (Nat.zero_le _) (by decide) (by simp)
 refine ⟨_, [], fun _ => False, rfl, ?_, fun g' hg => ?_, fun _ h => h.elim, rfl⟩
 ·refine ⟨by simp, .inr ⟨g, 0, #[], rfl, Nat.zero_le _, h, ?_⟩⟩
  rcases h0.2 with ⟨h1, -⟩ | ⟨g2, cap2, cur, h1, -, hh, rest⟩
  ·cases h1
  ·cases h1
   rw [heap_at] at hh
   cases hh
   exact rest
 ·simp [Value.ownBlock] at hg
  exact ⟨hg.symm, fun h => h⟩
theorem endN1 {w W0 w1 W1 C we : World} {nc : CacheD} {ac : Option Addr} {cc : Nat} {bc : Option Addr} {dc : Nat} {ae : Option Addr} {ce : Nat} (R : W1.heap[w.heap.size]? = some (.cells #[.slice none 0 0, .slice none 0 0, .slice none 0 0, .int .i64 0, .int .i64 0, .int .i64 0, .int .i64 0, .slice none 0 0, .slice none 0 0] 86)) (B : Below w.heap.size w W1) (P : Owned cacheR W0.heap.size w1.heap.size W1 [.slice ac nc.1.length cc, .slice bc nc.2.length dc] nc) (s2 : w1.heap.size ≤ W1.heap.size) (me : MadeR wayR C we [.int .i64 (-1), .int .i64 0, .slice ae 0 ce] emptyW) (bC : Below W1.heap.size W1 C) (hC : C.heap = (W1.alloc (.cells #[] 98)).heap) :
    CutN w W0 w1 [] nc ac cc bc dc (.pointer (some ⟨we.heap.size, 0, none⟩)) (we.alloc (.cells #[.slice ac nc.1.length cc, .slice bc nc.2.length dc, .slice (some ⟨W1.heap.size, 0, none⟩) 0 0, .int .i64 0, .int .i64 0, .int .i64 (-1), .int .i64 0, .slice ae 0 ce, .slice none 0 0] 86)) := by
 have h := heap_at W1 (.cells #[] 98)
 rw [← hC] at h
 have z : C.heap.size = W1.heap.size + 1 := by rw [hC]; simp
 exact cutN_new R B P s2 bC (own_row0 h) (Nat.le_refl _) (by omega) me
theorem endN2 {w W0 w1 W1 C we : World} {nc : CacheD} {ac : Option Addr} {cc : Nat} {bc : Option Addr} {dc : Nat} {ae : Option Addr} {ce : Nat} (R : W1.heap[w.heap.size]? = some (.cells #[.slice none 0 0, .slice none 0 0, .slice none 0 0, .int .i64 0, .int .i64 0, .int .i64 0, .int .i64 0, .slice none 0 0, .slice none 0 0] 86)) (B : Below w.heap.size w W1) (P : Owned cacheR W0.heap.size w1.heap.size W1 [.slice ac nc.1.length cc, .slice bc nc.2.length dc] nc) (s2 : w1.heap.size ≤ W1.heap.size) (me : MadeR wayR C we [.int .i64 (-1), .int .i64 0, .slice ae 0 ce] emptyW) (bC : Below W1.heap.size W1 C) (hC : C.heap = ((W1.alloc (.cells #[] 98)).alloc (.cells #[.slice none 0 0, .slice none 0 0, .slice none 0 0, .int .i64 0, .int .i64 0, .int .i64 0, .int .i64 0, .slice none 0 0, .slice none 0 0] 86)).heap) (ZR : we.heap[W1.heap.size + 1]? = some (.cells #[.slice none 0 0, .slice none 0 0, .slice none 0 0, .int .i64 0, .int .i64 0, .int .i64 0, .int .i64 0, .slice none 0 0, .slice none 0 0] 86)) :
    CutN w W0 w1 [] nc ac cc bc dc (.pointer (some ⟨W1.heap.size + 1, 0, none⟩)) (((((((((we.setCell ⟨W1.heap.size + 1, 0, none⟩ (.slice ac nc.1.length cc)).setCell ⟨W1.heap.size + 1, 1, none⟩ (.slice bc nc.2.length dc)).setCell ⟨W1.heap.size + 1, 2, none⟩ (.slice (some ⟨W1.heap.size, 0, none⟩) 0 0)).setCell ⟨W1.heap.size + 1, 3, none⟩ (.int .i64 0)).setCell ⟨W1.heap.size + 1, 4, none⟩ (.int .i64 0)).setCell ⟨W1.heap.size + 1, 5, none⟩ (.int .i64 (-1))).setCell ⟨W1.heap.size + 1, 6, none⟩ (.int .i64 0)).setCell ⟨W1.heap.size + 1, 7, none⟩ (.slice ae 0 ce)).setCell ⟨W1.heap.size + 1, 8, none⟩ (.slice none 0 0)) := by
 have h := heap_on (.cells #[.slice none 0 0, .slice none 0 0, .slice none 0 0, .int .i64 0, .int .i64 0, .int .i64 0, .int .i64 0, .slice none 0 0, .slice none 0 0] 86) (heap_at W1 (.cells #[] 98))
 rw [← hC] at h
 have z : C.heap.size = W1.heap.size + 2 := by rw [hC]; simp
 exact cutN_set R B P s2 bC me.2 (own_row0 h) (Nat.le_refl _) (by omega) me (Nat.le_refl _) (by omega) (by omega) ZR
theorem endN3 {w W0 w1 W1 C we : World} {nc : CacheD} {ac : Option Addr} {cc : Nat} {bc : Option Addr} {dc : Nat} {ae : Option Addr} {ce : Nat} (R : W1.heap[w.heap.size]? = some (.cells #[.slice none 0 0, .slice none 0 0, .slice none 0 0, .int .i64 0, .int .i64 0, .int .i64 0, .int .i64 0, .slice none 0 0, .slice none 0 0] 86)) (B : Below w.heap.size w W1) (P : Owned cacheR W0.heap.size w1.heap.size W1 [.slice ac nc.1.length cc, .slice bc nc.2.length dc] nc) (s2 : w1.heap.size ≤ W1.heap.size) (me : MadeR wayR C we [.int .i64 (-1), .int .i64 0, .slice ae 0 ce] emptyW) (bC : Below W1.heap.size W1 C) (hC : C.heap = ((W1.alloc (.cells #[.slice none 0 0, .slice none 0 0, .slice none 0 0, .int .i64 0, .int .i64 0, .int .i64 0, .int .i64 0, .slice none 0 0, .slice none 0 0] 86)).alloc (.cells #[] 98)).heap) (ZR : we.heap[W1.heap.size]? = some (.cells #[.slice none 0 0, .slice none 0 0, .slice none 0 0, .int .i64 0, .int .i64 0, .int .i64 0, .int .i64 0, .slice none 0 0, .slice none 0 0] 86)) :
    CutN w W0 w1 [] nc ac cc bc dc (.pointer (some ⟨W1.heap.size, 0, none⟩)) (((((((((we.setCell ⟨W1.heap.size, 0, none⟩ (.slice ac nc.1.length cc)).setCell ⟨W1.heap.size, 1, none⟩ (.slice bc nc.2.length dc)).setCell ⟨W1.heap.size, 2, none⟩ (.slice (some ⟨W1.heap.size + 1, 0, none⟩) 0 0)).setCell ⟨W1.heap.size, 3, none⟩ (.int .i64 0)).setCell ⟨W1.heap.size, 4, none⟩ (.int .i64 0)).setCell ⟨W1.heap.size, 5, none⟩ (.int .i64 (-1))).setCell ⟨W1.heap.size, 6, none⟩ (.int .i64 0)).setCell ⟨W1.heap.size, 7, none⟩ (.slice ae 0 ce)).setCell ⟨W1.heap.size, 8, none⟩ (.slice none 0 0)) := by
 have h := heap_at (W1.alloc (.cells #[.slice none 0 0, .slice none 0 0, .slice none 0 0, .int .i64 0, .int .i64 0, .int .i64 0, .int .i64 0, .slice none 0 0, .slice none 0 0] 86)) (.cells #[] 98)
 rw [alloc_len, ← hC] at h
 have z : C.heap.size = W1.heap.size + 2 := by rw [hC]; simp
 exact cutN_set R B P s2 bC me.2 (own_row0 h) (by omega) (by omega) me (Nat.le_refl _) (by omega) (by omega) ZR
theorem rowN2 {W1 C we : World} (me : Below C.heap.size C we) (hC : C.heap = ((W1.alloc (.cells #[] 98)).alloc (.cells #[.slice none 0 0, .slice none 0 0, .slice none 0 0, .int .i64 0, .int .i64 0, .int .i64 0, .int .i64 0, .slice none 0 0, .slice none 0 0] 86)).heap) : we.heap[W1.heap.size + 1]? = some (.cells #[.slice none 0 0, .slice none 0 0, .slice none 0 0, .int .i64 0, .int .i64 0, .int .i64 0, .int .i64 0, .slice none 0 0, .slice none 0 0] 86) := by
 have h := heap_at (W1.alloc (.cells #[] 98)) (.cells #[.slice none 0 0, .slice none 0 0, .slice none 0 0, .int .i64 0, .int .i64 0, .int .i64 0, .int .i64 0, .slice none 0 0, .slice none 0 0] 86)
 rw [alloc_len, ← hC] at h
 exact row_keep me h
theorem rowN3 {W1 C we : World} (me : Below C.heap.size C we) (hC : C.heap = ((W1.alloc (.cells #[.slice none 0 0, .slice none 0 0, .slice none 0 0, .int .i64 0, .int .i64 0, .int .i64 0, .int .i64 0, .slice none 0 0, .slice none 0 0] 86)).alloc (.cells #[] 98)).heap) : we.heap[W1.heap.size]? = some (.cells #[.slice none 0 0, .slice none 0 0, .slice none 0 0, .int .i64 0, .int .i64 0, .int .i64 0, .int .i64 0, .slice none 0 0, .slice none 0 0] 86) := by
 have h := heap_on (.cells #[] 98) (heap_at W1 (.cells #[.slice none 0 0, .slice none 0 0, .slice none 0 0, .int .i64 0, .int .i64 0, .int .i64 0, .int .i64 0, .slice none 0 0, .slice none 0 0] 86))
 rw [← hC] at h
 exact row_keep me h
theorem new_core_ok (a b : Int) (p : List OpD) : coreB ((newI a b).1, p, 0, 0, emptyW, []) = ((newI a b).2 && progB p) := by
 cases hq : powB a && powB b
 ·rw [new_no hq, core_all]
  have e : okB isL treeB (([], []) : CacheD) = false := by
   cases he : okB isL treeB (([], []) : CacheD)
   ·rfl
   ·have := (okB_iff.1 he).1
    simp [pow3] at this
  rw [e]
  rfl
 ·have hq' := hq
  simp only [Bool.and_eq_true] at hq'
  obtain ⟨n, rfl, hn⟩ := powB_nat hq'.1
  obtain ⟨m, rfl, hm⟩ := powB_nat hq'.2
  have hok : OkC isL treeB (newX n m) := new_ok hn hm (by intro m hm; rcases hm with rfl | rfl | rfl <;> decide)
  rw [new_yes hq, core_all, okB_iff.2 hok]
  have e1 : placeB (newX n m, p, 0, 0, emptyW, []) = true := by simp [placeB, betw]
  have e2 : phaseB (newX n m, p, 0, 0, emptyW, []) = true := by unfold phaseB; rw [if_pos rfl]; exact clear_empty
  rw [e1, e2, Bool.and_true, Bool.and_true]
set_option maxHeartbeats 4000000 in
set_option maxRecDepth 20000 in
theorem specNewCore_u (a b : Int) (v : Value) (p : List OpD) (w : World) (h : opsR.rd w [v] p) (hm : p.length ≤ 1048576) :
    Calls Tryz.prog 57 #[.int .i64 a, .int .i64 b, v] w fun e w' => ∃ ds, e = .returned (.tuple #[aggV ds, .bool (newCoreI a b p).2]) ∧ MadeR coreR w w' ds (newCoreI a b p).1 := by
 obtain ⟨i0, hi, hz0, hz1, hz2⟩ := info_parts Tryz.infoOps
 have HN : Hid (∀ W, Calls Tryz.prog 123 #[.int .i64 a, .int .i64 b] W fun e w' => ∃ ds, e = .returned (.tuple #[aggV ds, .bool (newI a b).2]) ∧ MadeR cacheR W w' ds (newI a b).1) := fun W => specNew_u a b W
 have HK : Hid (∀ W cs, coreR.rd W cs ((newI a b).1, p, 0, 0, emptyW, []) → Calls Tryz.prog 33 #[aggV cs] W fun e w' => e = .returned (.bool ((newI a b).2 && progB p)) ∧ Below W.heap.size W w') := fun W cs hr => by rw [← new_core_ok]; exact specCoreOk_u cs _ W hr
 unfold newCoreI
 generalize ((newI a b).2 && progB p) = y at HK ⊢
 generalize (newI a b).2 = q at HN
 generalize (newI a b).1 = nc at HN HK ⊢
 have HH : Hid (opsR.rd w [v] p) := h
 obtain ⟨a1, c1, e1, -, -, hs⟩ := h
 simp only [List.cons.injEq, and_true] at e1
 obtain rfl := e1
 have HE : Hid (a1 = none → p = []) := fun e => by
  subst e
  rcases hs with h | ⟨b, off, rows, ha, _⟩
  ·exact h
  ·cases ha
 have HR : Hid (∀ ad, a1 = some ad → ∃ rows, lrd opR w rows p ∧ (∀ u ∈ rows, u.oneCell' = true) ∧ rows.length = p.length * 4 ∧ ∀ W, Below w.heap.size w W → ∀ j u, rows[j]? = some u → W.cell? (ad.add j) = some u) := fun ad e => by
  subst e
  obtain ⟨rows, hr, hc⟩ := slrd_rows hs
  obtain ⟨q1, q2, q3⟩ := rows_ops (w' := w) (S := fun _ => False) hr
  exact ⟨rows, hr, q2, q3, fun W hb j u hj => (World.cell?_of_block (hb.block _ (World.block_lt_of_cell? w _ (hc j u hj)))).trans (hc j u hj)⟩
 clear hs
 have R := heap_at w (.cells #[.slice none 0 0, .slice none 0 0, .slice none 0 0, .int .i64 0, .int .i64 0, .int .i64 0, .int .i64 0, .slice none 0 0, .slice none 0 0] 86)
 have B := box_below w (.cells #[.slice none 0 0, .slice none 0 0, .slice none 0 0, .int .i64 0, .int .i64 0, .int .i64 0, .int .i64 0, .slice none 0 0, .slice none 0 0] 86)
 have zR : w.heap.size + 1 = (w.alloc (.cells #[.slice none 0 0, .slice none 0 0, .slice none 0 0, .int .i64 0, .int .i64 0, .int .i64 0, .int .i64 0, .slice none 0 0, .slice none 0 0] 86)).heap.size := by simp
 go_enter Tryz.func57, Tryz.ntmps57
 go_wp2_with fail
 generalize w.alloc (.cells #[.slice none 0 0, .slice none 0 0, .slice none 0 0, .int .i64 0, .int .i64 0, .int .i64 0, .int .i64 0, .slice none 0 0, .slice none 0 0] 86) = W0 at R B zR ⊢
 refine (HN.out _).mono ?_
 rintro e w1 ⟨ds, rfl, mm⟩
 obtain ⟨ac, cc, bc, dc, rfl, -, -, -, -, -, -⟩ := cache_rd (cacheR.own_rd mm.1)
 rw [show aggV [.slice ac nc.1.length cc, .slice bc nc.2.length dc] = .agg #[.slice ac nc.1.length cc, .slice bc nc.2.length dc] from rfl]
 have s1 := mm.2.size
 replace R := heap_on (.cells #[.slice ac nc.1.length cc, .slice bc nc.2.length dc] 81) (row_keep mm.2 R)
 replace B := below_step (below_step B mm.2) (box_below w1 (.cells #[.slice ac nc.1.length cc, .slice bc nc.2.length dc] 81))
 have X := heap_at w1 (.cells #[.slice ac nc.1.length cc, .slice bc nc.2.length dc] 81)
 have P := owned_next (owned_made mm) (box_below w1 (.cells #[.slice ac nc.1.length cc, .slice bc nc.2.length dc] 81))
 clear mm HN
 have s2 := P.2
 obtain ⟨k0, k1⟩ := cells_two X
 go_upto_region 2 with fail
 generalize w1.alloc (.cells #[.slice ac nc.1.length cc, .slice bc nc.2.length dc] 81) = W1 at R B X P s2 k0 k1 ⊢
 go_cut [10] (fun q wx => CutN w W0 w1 p nc ac cc bc dc q wx)
 case first =>
  have B1 := (Below.refl W1.heap.size W1).drew
  have HX : Hid _ := X
  have s2' : w1.heap.size < W1.heap.size := (Array.getElem?_eq_some_iff.1 X).1
  have HG : Hid _ := And.intro R (And.intro B P)
  clear R B X P
  have n1 : ¬ (w1.heap.size = W1.heap.size) := by omega
  have n2 : ¬ (w1.heap.size = W1.heap.size + 1) := by omega
  cases a1 with
  | none =>
   have hp0 := HE.out rfl
   subst hp0
   go_region_law (first | (refine step_spread_none rfl _ _ 82 rfl W1 98 i0 4 Tryz.underlying82 hi (.slice (some ⟨_, 0, none⟩) 0 0) 0 [] rfl c1 rfl (by first | exact sp_new B1 | exact sp_alloc (sp_new B1) _ | exact sp_new2 B1 _ rfl) ?_) | (go_simp; go_at_call 124; refine (l6Empty_any _).mono ?_; rintro e we ⟨ae, ce, rfl, me⟩; have bE := below_step (w := W1) (by first | exact below_step B1 (box_below _ _) | exact below_step (below_step B1 (box_below _ _)) (box_below _ _) | exact (box_below W1 _).drew | exact (below_step (box_below W1 _) (box_below _ _)).drew) me.2; have tE := bE.size; have klE : w1.heap.size < we.heap.size := Nat.lt_of_lt_of_le s2' tE; clear k0 k1; obtain ⟨k0, k1⟩ := cells_two (row_keep bE HX.out); first | (have ZR := rowN2 (W1 := W1) me.2 rfl; obtain ⟨z0, z1, z2, z3, z4, z5, z6, z7, z8⟩ := cells_core ZR; obtain ⟨g0z, g1z, g2z, g3z, g4z, g5z, g6z, g7z, g8z⟩ := froz_core ZR) | (have ZR := rowN3 (W1 := W1) me.2 rfl; obtain ⟨z0, z1, z2, z3, z4, z5, z6, z7, z8⟩ := cells_core ZR; obtain ⟨g0z, g1z, g2z, g3z, g4z, g5z, g6z, g7z, g8z⟩ := froz_core ZR) | skip))
   all_goals
    go_wp2_with fail
    go_meet
   all_goals
    clear k0 k1
    first
     | (have zz := ZR; first | exact endN2 HG.out.1 HG.out.2.1 HG.out.2.2 s2 me (by first | exact below_step B1 (box_below _ _) | exact below_step (below_step B1 (box_below _ _)) (box_below _ _) | exact (box_below W1 _).drew | exact (below_step (box_below W1 _) (box_below _ _)).drew) rfl ZR | exact endN3 HG.out.1 HG.out.2.1 HG.out.2.2 s2 me (by first | exact below_step B1 (box_below _ _) | exact below_step (below_step B1 (box_below _ _)) (box_below _ _) | exact (box_below W1 _).drew | exact (below_step (box_below W1 _) (box_below _ _)).drew) rfl ZR)
     | exact endN1 HG.out.1 HG.out.2.1 HG.out.2.2 s2 me (by first | exact below_step B1 (box_below _ _) | exact below_step (below_step B1 (box_below _ _)) (box_below _ _) | exact (box_below W1 _).drew | exact (below_step (box_below W1 _) (box_below _ _)).drew) rfl
  | some ad =>
   obtain ⟨rows, hr, hone, hrl, hcells⟩ := HR.out ad rfl
   have HL : Hid _ := hr
   have HCE : Hid _ := hcells
   clear hr hcells
   go_region_law (first | (refine step_spread rfl _ _ 82 rfl W1 98 i0 (.agg #[.int .i64 0, .int .i64 0, .int .i64 0, .int .i64 0]) 4 32 Tryz.underlying82 hi hz0 hz1 hz2 rfl (by decide) (.slice (some ⟨_, 0, none⟩) 0 0) 0 [] rfl ad p.length c1 rows rfl (by first | exact sp_new B1 | exact sp_alloc (sp_new B1) _ | exact sp_new2 B1 _ rfl) (by simp) hrl (fun b => HCE.out _ (below_step HG.out.2.1 b)) hone p.length (Nat.zero_add _) (by unfold maxLen; omega) (by omega) ?_; intro g1 co wA SA GA; rw [List.nil_append] at SA; have tA : W1.heap.size ≤ wA.heap.size := SA.bel.size; have klA : w1.heap.size < wA.heap.size := Nat.lt_of_lt_of_le s2' tA; have n3 := Nat.ne_of_lt klA; clear k0 k1; obtain ⟨k0, k1⟩ := cells_two (row_keep SA.bel HX.out); first | (have ZR : wA.heap[W1.heap.size + 1]? = some (.cells #[.slice none 0 0, .slice none 0 0, .slice none 0 0, .int .i64 0, .int .i64 0, .int .i64 0, .int .i64 0, .slice none 0 0, .slice none 0 0] 86) := gr2 W1 (.cells #[] 98) _ GA rfl rfl; have zl : W1.heap.size + 1 < wA.heap.size := (Array.getElem?_eq_some_iff.1 ZR).1; obtain ⟨z0, z1, z2, z3, z4, z5, z6, z7, z8⟩ := cells_core ZR; obtain ⟨g0z, g1z, g2z, g3z, g4z, g5z, g6z, g7z, g8z⟩ := froz_core ZR) | (have ZR : wA.heap[W1.heap.size]? = some (.cells #[.slice none 0 0, .slice none 0 0, .slice none 0 0, .int .i64 0, .int .i64 0, .int .i64 0, .int .i64 0, .slice none 0 0, .slice none 0 0] 86) := gr3 W1 (.cells #[] 98) _ GA rfl (by simp [Value.ownBlock]); obtain ⟨z0, z1, z2, z3, z4, z5, z6, z7, z8⟩ := cells_core ZR; obtain ⟨g0z, g1z, g2z, g3z, g4z, g5z, g6z, g7z, g8z⟩ := froz_core ZR) | skip) | (go_simp; go_at_call 124; refine (l6Empty_any _).mono ?_; rintro e we ⟨ae, ce, rfl, me⟩; have bE : Below wA.heap.size wA we := below_step (by first | exact Below.refl _ _ | exact box_below _ _) me.2; have tE := bE.size; have klE : w1.heap.size < we.heap.size := Nat.lt_of_lt_of_le klA tE; clear k0 k1; obtain ⟨k0, k1⟩ := cells_two (row_keep (below_step SA.bel bE) HX.out); first | (clear z0 z1 z2 z3 z4 z5 z6 z7 z8 g0z g1z g2z g3z g4z g5z g6z g7z g8z; replace ZR := row_keep me.2 ZR; obtain ⟨z0, z1, z2, z3, z4, z5, z6, z7, z8⟩ := cells_core ZR; obtain ⟨g0z, g1z, g2z, g3z, g4z, g5z, g6z, g7z, g8z⟩ := froz_core ZR) | (have ZR := row_keep me.2 (heap_at wA (.cells #[.slice none 0 0, .slice none 0 0, .slice none 0 0, .int .i64 0, .int .i64 0, .int .i64 0, .int .i64 0, .slice none 0 0, .slice none 0 0] 86)); obtain ⟨z0, z1, z2, z3, z4, z5, z6, z7, z8⟩ := cells_core ZR; obtain ⟨g0z, g1z, g2z, g3z, g4z, g5z, g6z, g7z, g8z⟩ := froz_core ZR) | skip))
   all_goals
    go_wp2_with fail
    go_meet
   all_goals
    obtain ⟨O, gl, gu⟩ := sp_own HL.out SA
    have bA := SA.bel
    clear k0 k1 GA SA HCE
    first
     | (have zz := ZR; exact cutN_set HG.out.1 HG.out.2.1 HG.out.2.2 s2 bA bE O gl gu me (by first | exact Nat.le_refl _ | (rw [alloc_len]; omega)) (by omega) (by first | omega | (rw [alloc_len]; omega)) ZR)
     | exact cutN_new HG.out.1 HG.out.2.1 HG.out.2.2 s2 bA O gl gu me
 case rest =>
  obtain ⟨g, g1, co, ae, ce, l4, h4, rfl, X, B, P, O, gl, gu, E, R⟩ := hcut
  have p2 := P.2
  have e2 := E.2
  have K : coreR.own wc (rng (w.heap.size + 1) wc.heap.size) [.slice ac nc.1.length cc, .slice bc nc.2.length dc, .slice (some ⟨g1, 0, none⟩) p.length co, .int .i64 0, .int .i64 0, .int .i64 (-1), .int .i64 0, .slice ae 0 ce, .slice none 0 0] (nc, p, 0, 0, emptyW, []) := by
   refine own_core (x := (nc, p, 0, 0, emptyW, [])) (S0 := rng W0.heap.size w1.heap.size) (S1 := Old wc (fun k => k = g1)) (S4 := rng l4 h4) (S5 := fun _ => False) i64_0C i64_0C P.1 (own_old O) E.1 (own_nil0 _ _) (fun k h => ⟨by have := h.1; omega, by have := h.2; omega⟩) (fun k h => ⟨?_, h.2⟩) (fun k h => ⟨?_, ?_⟩) (fun _ h => h.elim) (fun k h1 h2 => ?_) (fun k h1 h2 => ?_) (fun _ _ h => h) (fun k h1 h2 => ?_) (fun _ _ h => h) (fun _ _ h => h)
   ·have e : k = g1 := h.1
    omega
   ·have := h.1
    omega
   ·have := h.2
    omega
   ·have e : k = g1 := h2.1
    have := h1.2
    omega
   ·have := h1.2
    have := h2.1
    omega
   ·have e : k = g1 := h1.1
    have := h2.1
    omega
  clear P O E
  have hgw : g ≠ w.heap.size := by
   rintro rfl
   rw [R] at X
   simp at X
  obtain ⟨t0, t1, t2, t3, t4, t5, t6, t7, t8⟩ := cells_core X
  go_wp2_with fail
  refine (HK.out _ [.slice ac nc.1.length cc, .slice bc nc.2.length dc, .slice (some ⟨g1, 0, none⟩) p.length co, .int .i64 0, .int .i64 0, .int .i64 (-1), .int .i64 0, .slice ae 0 ce, .slice none 0 0] (coreR.own_rd K)).mono ?_
  rintro e w2 ⟨rfl, b2⟩
  have s9 := b2.size
  replace X := row_keep b2 X
  replace R := row_keep b2 R
  replace B := below_step B b2
  replace K := coreR.own_keep K (keeps_below b2)
  clear b2 t0 t1 t2 t3 t4 t5 t6 t7 t8
  obtain ⟨y0, y1, y2, y3, y4, y5, y6, y7, y8⟩ := cells_core R
  obtain ⟨f0, f1, f2, f3, f4, f5, f6, f7, f8⟩ := froz_core R
  cases y
  ·have HKK : Hid _ := And.intro R B
   clear R B K X
   go_wp2
   obtain ⟨r0, r1, r2, r3, r4, r5, r6, r7, r8⟩ := cells_core (put_core (y0 := .slice none 0 0) (y1 := .slice none 0 0) (y2 := .slice none 0 0) (y3 := .int .i64 0) (y4 := .int .i64 0) (y5 := .int .i64 0) (y6 := .int .i64 0) (y7 := .slice none 0 0) (y8 := .slice none 0 0) HKK.out.1)
   refine bodyPost_ret (v := .tuple #[.agg #[.slice none 0 0, .slice none 0 0, .slice none 0 0, .int .i64 0, .int .i64 0, .int .i64 0, .int .i64 0, .slice none 0 0, .slice none 0 0], .bool false]) (by simp [results, Tryz.results57, go_sem, r0, r1, r2, r3, r4, r5, r6, r7, r8]) rfl ⟨zCells, rfl, own_zeroC _ _, ?_⟩
   exact below_setCs0 (g := w.heap.size) (o := 0) (vs := zCells) HKK.out.2 (Nat.le_refl _)
  ·obtain ⟨t0, t1, t2, t3, t4, t5, t6, t7, t8⟩ := cells_core X
   have HKK : Hid _ := And.intro R (And.intro B K)
   clear R B K X
   go_wp2
   obtain ⟨r0, r1, r2, r3, r4, r5, r6, r7, r8⟩ := cells_core (put_core (y0 := .slice ac nc.1.length cc) (y1 := .slice bc nc.2.length dc) (y2 := .slice (some ⟨g1, 0, none⟩) p.length co) (y3 := .int .i64 0) (y4 := .int .i64 0) (y5 := .int .i64 (-1)) (y6 := .int .i64 0) (y7 := .slice ae 0 ce) (y8 := .slice none 0 0) HKK.out.1)
   refine bodyPost_ret (v := .tuple #[.agg #[.slice ac nc.1.length cc, .slice bc nc.2.length dc, .slice (some ⟨g1, 0, none⟩) p.length co, .int .i64 0, .int .i64 0, .int .i64 (-1), .int .i64 0, .slice ae 0 ce, .slice none 0 0], .bool true]) (by simp [results, Tryz.results57, go_sem, r0, r1, r2, r3, r4, r5, r6, r7, r8]) rfl ⟨[.slice ac nc.1.length cc, .slice bc nc.2.length dc, .slice (some ⟨g1, 0, none⟩) p.length co, .int .i64 0, .int .i64 0, .int .i64 (-1), .int .i64 0, .slice ae 0 ce, .slice none 0 0], rfl, coreR.own_mono (own_setCs (g := w.heap.size) (o := 0) (vs := [.slice ac nc.1.length cc, .slice bc nc.2.length dc, .slice (some ⟨g1, 0, none⟩) p.length co, .int .i64 0, .int .i64 0, .int .i64 (-1), .int .i64 0, .slice ae 0 ce, .slice none 0 0]) HKK.out.2.2 (fun h => by have := h.1; omega)) (fun k h => ⟨by have := h.1; omega, ?_⟩), below_setCs0 (g := w.heap.size) (o := 0) (vs := [.slice ac nc.1.length cc, .slice bc nc.2.length dc, .slice (some ⟨g1, 0, none⟩) p.length co, .int .i64 0, .int .i64 0, .int .i64 (-1), .int .i64 0, .slice ae 0 ce, .slice none 0 0]) HKK.out.2.1 (Nat.le_refl _)⟩
   have h2 := h.2
   exact Nat.lt_of_lt_of_le h2 (Nat.le_trans s9 (Nat.le_of_eq (setCs_size [.slice ac nc.1.length cc, .slice bc nc.2.length dc, .slice (some ⟨g1, 0, none⟩) p.length co, .int .i64 0, .int .i64 0, .int .i64 (-1), .int .i64 0, .slice ae 0 ce, .slice none 0 0] 0 w2 (g := w.heap.size)).symm))
end Go.Proofs.YthnfkacboijneaaGreatDoor
