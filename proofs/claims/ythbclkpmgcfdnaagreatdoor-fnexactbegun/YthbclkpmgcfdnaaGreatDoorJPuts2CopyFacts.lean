
/- Puts, CopyFacts. -/
import Derived.Test.YthbclkpmgcfdnaaGreatDoorJStoreEnd4UForm
import Derived.Test.YthbclkpmgcfdnaaGreatDoorWays2
import Derived.Test.YthbclkpmgcfdnaaGreatDoorFindW
import Derived.Deep.RegionHeld3
/- One way of a store that is owned, put anew. -/
namespace Go.Proofs.YthbclkpmgcfdnaaGreatDoor
open Go.ChangeShapes Go.WideShapes Go.ChangeAt Go.RowKit
set_option linter.unusedVariables false
def set3 (w : World) (g o : Nat) (x y z : Value) : World := ((w.setCell ⟨g, o, none⟩ x).setCell ⟨g, o + 1, none⟩ y).setCell ⟨g, o + 2, none⟩ z
theorem set3_same {w : World} {g o : Nat} {x y z : Value} {cur : Array Value} {t : TypeId} (h : w.heap[g]? = some (.cells cur t (0, 0))) : (set3 w g o x y z).heap[g]? = some (.cells (((cur.setIfInBounds o x).setIfInBounds (o + 1) y).setIfInBounds (o + 2) z) t (0, 0)) := by
  have h1 := heap_setCell_same w g o _ t x h
  have h2 := heap_setCell_same _ g (o + 1) _ t y h1
  exact heap_setCell_same _ g (o + 2) _ t z h2
theorem set3_other {w : World} {g o k : Nat} {x y z : Value} (h : k ≠ g) : (set3 w g o x y z).heap[k]? = w.heap[k]? := by
  unfold set3
  rw [heap_setCell_other _ ⟨g, o + 2, none⟩ k z h, heap_setCell_other _ ⟨g, o + 1, none⟩ k y h, heap_setCell_other _ ⟨g, o, none⟩ k x h]
theorem set3_size {w : World} {g o : Nat} {x y z : Value} : (set3 w g o x y z).heap.size = w.heap.size := by simp [set3]
theorem set3_chg {w : World} {S : Foot} {g o : Nat} {x y z : Value} (h : S g) : Chg S w (set3 w g o x y z) := by
  have hb : Below g w (set3 w g o x y z) := below_setC (below_setC (below_setC (Below.refl g w) (Nat.le_refl _)) (Nat.le_refl _)) (Nat.le_refl _)
  exact ⟨hb.os, hb.tape, hb.output, hb.size, fun k _ hn => set3_other fun e => hn (e ▸ h)⟩
theorem own_put {w w9 : World} {S : Foot} {u c1 c2 c3 : Value} {cs : List (List WayD)} {s j : Nat} {row : List WayD} {old x : WayD} (h : setsR.own w S [u] cs) (hs : cs[s]? = some row) (hj : row[j]? = some old) (mm : MadeR wayR w w9 [c1, c2, c3] x) :
    ∃ g cap g2 cap2, u = .slice (some ⟨g, 0, none⟩) cs.length cap ∧ w.cell? ⟨g, s, none⟩ = some (.slice (some ⟨g2, 0, none⟩) row.length cap2) ∧ S g ∧ S g2 ∧ g ≠ g2 ∧ g2 < w.heap.size ∧
      (∃ cur, w9.heap[g2]? = some (.cells cur 30 (0, 0)) ∧ j * 3 + 2 < cur.size) ∧
      setsR.own (set3 w9 g2 (j * 3) c1 c2 c3) (fun k => Old w S k ∨ (w.heap.size ≤ k ∧ k < w9.heap.size)) [u] (cs.set s (row.set j x)) ∧ Chg (fun k => k = g2) w (set3 w9 g2 (j * 3) c1 c2 c3) := by
  obtain ⟨g, cap, cur, Sj, T, c', hv, hSg, hg, hc, hcl, ho, s1, s2, hd, n1, n2, back⟩ := slown_focus (own_old h) hs
  have e1 : waysR.size = 1 := rfl
  simp only [e1, Nat.mul_one] at hc back
  obtain ⟨u2, rfl⟩ : ∃ u2, c' = [u2] := List.length_eq_one_iff.1 hcl
  obtain ⟨g2, cap2, cur2, Sj2, T2, c2', hv2, hSg2, hg2, hc2, hcl2, ho2, t1, t2, hd2, k1, k2, back2⟩ := slown_focus ho hj
  subst hv2
  subst hv
  have e3 : wayR.size = 3 := rfl
  simp only [e3] at hc2 back2
  have hne : g ≠ g2 := fun e => n1 (e ▸ hSg2)
  have hck : cur[s]? = some (.slice (some ⟨g2, 0, none⟩) row.length cap2) := by simpa using hc 0 (by decide)
  have hl2 := (Array.getElem?_eq_some_iff.1 hg2).1
  have hl := (Array.getElem?_eq_some_iff.1 hg).1
  have G2 := row_keep mm.2 hg2
  have sz := mm.2.size
  have hc2l : c2'.length = 3 := hcl2
  have hj2 : j * 3 + 2 < cur2.size := by
    have := hc2 2 (by decide)
    rw [List.getElem?_eq_getElem (by omega)] at this
    exact (Array.getElem?_eq_some_iff.1 this).1
  have C9 : Chg (fun k => k = g2) w (set3 w9 g2 (j * 3) c1 c2 c3) := by
    have := (chg_below (S := fun k => k = g2) mm.2).trans (set3_chg (S := fun k => k = g2) (o := j * 3) (x := c1) (y := c2) (z := c3) rfl)
    exact this
  refine ⟨g, cap, g2, cap2, rfl, by rw [cell_of_row w g s _ _ (0, 0) hg]; exact hck, hSg.1, (s1 g2 hSg2).1, hne, hl2, ⟨cur2, G2, hj2⟩, ?_, C9⟩
  have B2 : waysR.own (set3 w9 g2 (j * 3) c1 c2 c3) (fun k => Sj k ∨ (w.heap.size ≤ k ∧ k < w9.heap.size)) [.slice (some ⟨g2, 0, none⟩) row.length cap2] (row.set j x) := by
    refine back2 _ (((cur2.setIfInBounds (j * 3) c1).setIfInBounds (j * 3 + 1) c2).setIfInBounds (j * 3 + 2) c3) [c1, c2, c3] x (rng w.heap.size w9.heap.size) _ (set3_same G2) (by simp) ?_ ?_ ?_ (wayR.own_keep mm.1 fun k hk _ => set3_other fun e => by have := hk.1; omega) ?_ ?_ ?_ ?_ ?_
    · intro i hi
      rw [Array.getElem?_setIfInBounds_ne (by omega), Array.getElem?_setIfInBounds_ne (by omega), Array.getElem?_setIfInBounds_ne (by omega)]
    · intro i hi
      have : i = 0 ∨ i = 1 ∨ i = 2 := by omega
      rcases this with rfl | rfl | rfl
      · rw [Array.getElem?_setIfInBounds_ne (by omega), Array.getElem?_setIfInBounds_ne (by omega)]
        simp [show j * 3 < cur2.size from by omega]
      · rw [Array.getElem?_setIfInBounds_ne (by omega)]
        simp [show j * 3 + 1 < cur2.size from by omega]
      · simp [hj2]
    · intro k hk hlk
      exact C9.block k hlk fun e => k2 (e ▸ hk)
    · intro k hk hT
      have := (s1 k (t2 k hT)).2
      have := hk.1
      omega
    · intro hk
      have := hk.1
      omega
    · exact .inl hSg2
    · exact fun k hk => .inr hk
    · exact fun k hk => .inl (t2 k hk)
  refine back _ cur _ _ (fun k => Sj k ∨ (w.heap.size ≤ k ∧ k < w9.heap.size)) _ ((C9.block g hl hne).trans hg) rfl (fun _ _ => rfl) hc ?_ B2 ?_ ?_ ?_ ?_ ?_
  · intro k hk hlk
    exact C9.block k hlk fun e => hd k (e ▸ hSg2) hk
  · rintro k (h | h) hT
    · exact hd k h hT
    · have := (s2 k hT).2; omega
  · rintro (h | h)
    · exact n1 h
    · omega
  · exact .inl hSg
  · rintro k (h | h)
    · exact .inl (s1 k h)
    · exact .inr h
  · exact fun k hk => .inl (s2 k hk)
end Go.Proofs.YthbclkpmgcfdnaaGreatDoor
/- One way of a store that is owned, put anew by the program. Conditions: a way that reads as told, of a length that a machine can hold. -/
namespace Go.Proofs.YthbclkpmgcfdnaaGreatDoor
open Go.ChangeShapes Go.WideShapes Go.ChangeAt Go.RowKit
set_option linter.unusedVariables false
theorem set3_cell {w : World} {g b o k : Nat} {u x y z : Value} (hne : b ≠ g) (h : w.cell? ⟨b, k, none⟩ = some u) : (((w.setCell ⟨g, o, none⟩ x).setCell ⟨g, o + 1, none⟩ y).setCell ⟨g, o + 2, none⟩ z).cell? ⟨b, k, none⟩ = some u := cs1 hne (cs1 hne (cs1 hne h))
/- An owned store, in any later world: what 'own_put' tells, told ahead of the new way. -/
theorem own_put_at {w : World} {S : Foot} {u : Value} {cs : List (List WayD)} {s j : Nat} {row : List WayD} {old : WayD} (h : setsR.own w S [u] cs) (hs : cs[s]? = some row) (hj : row[j]? = some old) :
    ∃ g cap g2 cap2, u = .slice (some ⟨g, 0, none⟩) cs.length cap ∧ w.cell? ⟨g, s, none⟩ = some (.slice (some ⟨g2, 0, none⟩) row.length cap2) ∧ S g ∧ S g2 ∧ g ≠ g2 ∧ g < w.heap.size ∧ g2 < w.heap.size ∧
      ∀ w9 c1 c2 c3 x, MadeR wayR w w9 [c1, c2, c3] x → (∃ cur, w9.heap[g2]? = some (.cells cur 30 (0, 0)) ∧ j * 3 + 2 < cur.size) ∧
        setsR.own (set3 w9 g2 (j * 3) c1 c2 c3) (fun k => Old w S k ∨ (w.heap.size ≤ k ∧ k < w9.heap.size)) [u] (cs.set s (row.set j x)) ∧ Chg (fun k => k = g2) w (set3 w9 g2 (j * 3) c1 c2 c3) := by
  obtain ⟨g, cap, cur, Sj, T, c', hv, hSg, hg, hc, hcl, ho, s1, s2, hd, n1, n2, back⟩ := slown_focus (own_old h) hs
  have e1 : waysR.size = 1 := rfl
  simp only [e1, Nat.mul_one] at hc
  obtain ⟨u2, rfl⟩ : ∃ u2, c' = [u2] := List.length_eq_one_iff.1 hcl
  obtain ⟨g2, cap2, cur2, Sj2, T2, c2', hv2, hSg2, hg2, _⟩ := slown_focus ho hj
  subst hv2
  subst hv
  have hck : cur[s]? = some (.slice (some ⟨g2, 0, none⟩) row.length cap2) := by simpa using hc 0 (by decide)
  have hcell : w.cell? ⟨g, s, none⟩ = some (.slice (some ⟨g2, 0, none⟩) row.length cap2) := by rw [cell_of_row w g s _ _ (0, 0) hg]; exact hck
  refine ⟨g, cap, g2, cap2, rfl, hcell, hSg.1, (s1 g2 hSg2).1, fun e => n1 (e ▸ hSg2), (Array.getElem?_eq_some_iff.1 hg).1, (Array.getElem?_eq_some_iff.1 hg2).1, fun w9 c1 c2 c3 x mm => ?_⟩
  obtain ⟨g', cap', g2', cap2', e1, hcell', _, _, _, _, hcur, hown, hchg⟩ := own_put h hs hj mm
  simp only [Value.slice.injEq, Option.some.injEq, Addr.mk.injEq, and_true, true_and] at e1
  obtain ⟨rfl, -⟩ := e1
  rw [hcell] at hcell'
  simp only [Option.some.injEq, Value.slice.injEq, Addr.mk.injEq, and_true, true_and] at hcell'
  obtain ⟨rfl, -⟩ := hcell'
  exact ⟨hcur, hown, hchg⟩

set_option maxRecDepth 8000 in
set_option maxHeartbeats 4000000 in
theorem implPut_row (S : Foot) (u v2 : Value) (cs : List (List WayD)) (s j : Nat) (row : List WayD) (old : WayD) (l st : Int) (d : List Int) (ad : Option Addr) (cpw : Nat) (w : World) (h : setsR.own w S [u] cs) (hs : cs[s]? = some row) (hj : row[j]? = some old)
    (m1 : cs.length ≤ 1048576) (m2 : row.length ≤ 1048576) (i1 : In64 l) (i2 : In64 st) (hd : SlRd intR w ad d) (hm : d.length ≤ 1048576) :
    Calls Tryz.prog 152 #[.agg #[u, v2], .agg #[.int .i64 (s : Int), .int .i64 (j : Int)], .agg #[.int .i64 l, .int .i64 st, .slice ad d.length cpw]] w fun e w' => e = .returned (.tuple #[]) ∧
      setsR.own w' (fun k => Old w S k ∨ (w.heap.size ≤ k ∧ k < w'.heap.size)) [u] (cs.set s (row.set j (l, st, d))) ∧ ∃ g cap g2 cap2, u = .slice (some ⟨g, 0, none⟩) cs.length cap ∧ w.cell? ⟨g, s, none⟩ = some (.slice (some ⟨g2, 0, none⟩) row.length cap2) ∧ g ≠ g2 ∧ Old w S g2 ∧ Chg (fun k => k = g2) w w' := by
  have hsl : s < cs.length := (List.getElem?_eq_some_iff.1 hs).1
  have hjl : j < row.length := (List.getElem?_eq_some_iff.1 hj).1
  have hsl' : (s : Int) < (cs.length : Int) := by omega
  have hjl' : (j : Int) < (row.length : Int) := by omega
  have B0 := below_step (below_step (box_below w (.cells #[u, v2] 27)) (box_below _ (.cells #[.int .i64 (s : Int), .int .i64 (j : Int)] 143))) (box_below _ (.cells #[.int .i64 l, .int .i64 st, .slice ad d.length cpw] 30))
  go_enter Tryz.func152, Tryz.ntmps152
  go_wp2_with fail
  have X0 := heap_on (.cells #[.int .i64 l, .int .i64 st, .slice ad d.length cpw] 30) (heap_on (.cells #[.int .i64 (s : Int), .int .i64 (j : Int)] 143) (heap_at w (.cells #[u, v2] 27)))
  have Y0 := heap_on (.cells #[.int .i64 l, .int .i64 st, .slice ad d.length cpw] 30) (heap_at (w.alloc (.cells #[u, v2] 27)) (.cells #[.int .i64 (s : Int), .int .i64 (j : Int)] 143))
  have Z0 := heap_at ((w.alloc (.cells #[u, v2] 27)).alloc (.cells #[.int .i64 (s : Int), .int .i64 (j : Int)] 143)) (.cells #[.int .i64 l, .int .i64 st, .slice ad d.length cpw] 30)
  rw [alloc_len] at Y0
  rw [alloc_len, alloc_len] at Z0
  generalize ((w.alloc (.cells #[u, v2] 27)).alloc (.cells #[.int .i64 (s : Int), .int .i64 (j : Int)] 143)).alloc (.cells #[.int .i64 l, .int .i64 st, .slice ad d.length cpw] 30) = W0 at B0 X0 Y0 Z0 ⊢
  obtain ⟨g, cap, g2, cap2, rfl, hcell, hSg, hSg2, hne, hgl, hg2l, st9⟩ := own_put_at (own_old h) hs hj
  have H' : setsR.own W0.drew (Old w S) [.slice (some ⟨g, 0, none⟩) cs.length cap] cs := setsR.own_keep (own_old h) (keeps_below B0.drew)
  obtain ⟨g', cap', g2', cap2', e1, hcell', -, -, -, -, -, st8⟩ := own_put_at H' hs hj
  simp only [Value.slice.injEq, Option.some.injEq, Addr.mk.injEq, and_true, true_and] at e1
  obtain ⟨rfl, -⟩ := e1
  have hcq : W0.drew.cell? ⟨g, s, none⟩ = some (.slice (some ⟨g2, 0, none⟩) row.length cap2) := cell_keep B0.drew hcell hgl
  rw [hcq] at hcell'
  simp only [Option.some.injEq, Value.slice.injEq, Addr.mk.injEq, and_true, true_and] at hcell'
  obtain ⟨rfl, -⟩ := hcell'
  have ST : Hid _ := st8
  have HX : Hid _ := And.intro X0 (And.intro Y0 Z0)
  have HD : Hid (SlRd intR W0.drew ad d) := slrd_keep hd fun k hk => B0.drew.block k hk
  have hcq0 : W0.cell? ⟨g, s, none⟩ = some (.slice (some ⟨g2, 0, none⟩) row.length cap2) := hcq
  obtain ⟨x0, x1⟩ := cells_two X0
  obtain ⟨y0, y1⟩ := cells_two Y0
  obtain ⟨z0, z1, z2⟩ := cells_3 Z0
  have n0 : w.heap.size ≠ g2 := by have := hSg2.2; omega
  have n1 : w.heap.size + 1 ≠ g2 := by have := hSg2.2; omega
  have n2 : w.heap.size + 1 + 1 ≠ g2 := by have := hSg2.2; omega
  have HB : Hid _ := B0
  have HI : Hid (In64 l ∧ In64 st) := ⟨i1, i2⟩
  have HG : Hid (g < w.heap.size ∧ Old w S g2 ∧ w.cell? ⟨g, s, none⟩ = some (.slice (some ⟨g2, 0, none⟩) row.length cap2)) := ⟨hgl, hSg2, hcell⟩
  clear X0 Y0 Z0 st8 st9 H' hcq hcell hd h hs hj hsl hjl B0 i1 i2 hgl hg2l hSg hSg2
  go_region_held3 (fun wx => wx.cell? ⟨w.heap.size, 0, none⟩ = some (.slice (some ⟨g, 0, none⟩) cs.length cap) ∧ wx.cell? ⟨w.heap.size + 1, 0, none⟩ = some (.int .i64 (s : Int)) ∧ wx.cell? ⟨w.heap.size + 1, 1, none⟩ = some (.int .i64 (j : Int)) ∧ wx.cell? ⟨g, s, none⟩ = some (.slice (some ⟨g2, 0, none⟩) row.length cap2) ∧ wx.cell? ⟨w.heap.size + 1 + 1, 0, none⟩ = some (.int .i64 l) ∧ wx.cell? ⟨w.heap.size + 1 + 1, 1, none⟩ = some (.int .i64 st) ∧ wx.cell? ⟨w.heap.size + 1 + 1, 2, none⟩ = some (.slice ad d.length cpw)) (first | (go_keep; done) | (exact ⟨set3_cell n0 x0', set3_cell n1 y0', set3_cell n1 y1', set3_cell hne q0', set3_cell n2 z0', set3_cell n2 z1', set3_cell n2 z2'⟩)) (first | (go_at_call 106; refine (wayCopied_any l st d ad cpw _ HI.out.1 HI.out.2 HD.out hm).mono ?_; rintro e w9 ⟨av, cv, rfl, mm⟩; obtain ⟨⟨cur, hcur, hcs⟩, OW, CH⟩ := ST.out w9 _ _ _ _ mm; obtain ⟨X, Y, Z⟩ := HX.out; replace X := row_keep (w := W0.drew) mm.2 X; replace Y := row_keep (w := W0.drew) mm.2 Y; replace Z := row_keep (w := W0.drew) mm.2 Z; obtain ⟨x0', x1'⟩ := cells_two X; obtain ⟨y0', y1'⟩ := cells_two Y; obtain ⟨z0', z1', z2'⟩ := cells_3 Z; have q0' := cell_keep (w := W0.drew) mm.2 (by exact hcq0) (by have := HB.out.size; have := HG.out.1; exact Nat.lt_of_lt_of_le (by omega) (Nat.le_refl W0.heap.size)); have c0 : w9.cell? ⟨g2, j * 3, none⟩ = cur[j * 3]? := cell_of_row w9 g2 (j * 3) _ _ (0, 0) hcur; have c1 : w9.cell? ⟨g2, j * 3 + 1, none⟩ = cur[j * 3 + 1]? := cell_of_row w9 g2 (j * 3 + 1) _ _ (0, 0) hcur; have c2 : w9.cell? ⟨g2, j * 3 + 2, none⟩ = cur[j * 3 + 2]? := cell_of_row w9 g2 (j * 3 + 2) _ _ (0, 0) hcur; rw [Array.getElem?_eq_getElem (by omega)] at c0 c1 c2; have f0' := frozen_of_row w9 g2 (j * 3) _ _ hcur; have f1' := frozen_of_row w9 g2 (j * 3 + 1) _ _ hcur; have f2' := frozen_of_row w9 g2 (j * 3 + 2) _ _ hcur; have mms : W0.heap.size ≤ w9.heap.size := mm.2.size))
  all_goals
    refine bodyPost_end (v := .tuple #[]) (by simp [results, Tryz.results152, go_sem]) rfl ⟨rfl, setsR.own_mono OW ?_, ?_⟩
    · rintro k (h | h)
      · exact .inl h.1
      · exact .inr ⟨by have := HB.out.size; have : W0.heap.size ≤ k := h.1; omega, by have := h.2; have e := set3_size (w := w9) (g := g2) (o := j * 3) (x := .int .i64 l) (y := .int .i64 st) (z := .slice av d.length cv); unfold set3 at e; omega⟩
    · exact ⟨g, cap, g2, cap2, rfl, HG.out.2.2, hne, HG.out.2.1, Chg.trans (chg_below HB.out.drew) CH⟩
theorem implPutWay_any (S : Foot) (u v2 : Value) (cs : List (List WayD)) (s j : Nat) (row : List WayD) (old : WayD) (l st : Int) (d : List Int) (ad : Option Addr) (cpw : Nat) (w : World) (h : setsR.own w S [u] cs) (hs : cs[s]? = some row) (hj : row[j]? = some old)
    (m1 : cs.length ≤ 1048576) (m2 : row.length ≤ 1048576) (i1 : In64 l) (i2 : In64 st) (hd : SlRd intR w ad d) (hm : d.length ≤ 1048576) :
    Calls Tryz.prog 152 #[.agg #[u, v2], .agg #[.int .i64 (s : Int), .int .i64 (j : Int)], .agg #[.int .i64 l, .int .i64 st, .slice ad d.length cpw]] w fun e w' => e = .returned (.tuple #[]) ∧
      setsR.own w' (fun k => Old w S k ∨ (w.heap.size ≤ k ∧ k < w'.heap.size)) [u] (cs.set s (row.set j (l, st, d))) ∧ Chg (Old w S) w w' := by
  refine (implPut_row S u v2 cs s j row old l st d ad cpw w h hs hj m1 m2 i1 i2 hd hm).mono ?_
  rintro e w' ⟨h1, h2, g, cap, g2, cap2, -, -, -, h6, h7⟩
  exact ⟨h1, h2, h7.mono fun k hk => by have e : k = g2 := hk; rw [e]; exact h6⟩
end Go.Proofs.YthbclkpmgcfdnaaGreatDoor
/- The program's copy of a store: what is owned between its steps. No call here. -/
namespace Go.Proofs.YthbclkpmgcfdnaaGreatDoor
open Go.ChangeShapes Go.WideShapes Go.ChangeAt Go.RowKit
set_option linter.unusedVariables false
def zeroW : WayD := (0, 0, [])
/- The sets whose first k ways are copied, m ways a set. -/
def copyAt (m k : Nat) (cs : List (List WayD)) : List (List WayD) := cs.mapIdx fun i row => row.mapIdx fun j u => if i * m + j < k then u else zeroW
theorem copyAt_len (m k : Nat) (cs : List (List WayD)) : (copyAt m k cs).length = cs.length := by simp [copyAt]
theorem copyAt_get {m k s : Nat} {cs : List (List WayD)} {row : List WayD} (h : cs[s]? = some row) : (copyAt m k cs)[s]? = some (row.mapIdx fun j u => if s * m + j < k then u else zeroW) := by
  unfold copyAt
  rw [List.getElem?_mapIdx, h]
  rfl
theorem copyAt_zero (m : Nat) (cs : List (List WayD)) : copyAt m 0 cs = cs.map fun row => List.replicate row.length zeroW := by
  unfold copyAt
  apply List.ext_getElem?
  intro i
  rw [List.getElem?_mapIdx, List.getElem?_map]
  cases h : cs[i]? with
  | none => rfl
  | some row =>
    simp only [Option.map_some, Option.some.injEq]
    apply List.ext_getElem?
    intro j
    rw [List.getElem?_mapIdx, List.getElem?_replicate]
    by_cases hj : j < row.length
    · simp [hj]
    · simp [hj]
theorem copyAt_all {m : Nat} {cs : List (List WayD)} (hm : ∀ row ∈ cs, row.length = m) : copyAt m (cs.length * m) cs = cs := by
  unfold copyAt
  apply List.ext_getElem?
  intro i
  rw [List.getElem?_mapIdx]
  cases h : cs[i]? with
  | none => rfl
  | some row =>
    have hil := (List.getElem?_eq_some_iff.1 h).1
    have hrl := hm row (List.mem_of_getElem? h)
    simp only [Option.map_some, Option.some.injEq]
    apply List.ext_getElem?
    intro j
    rw [List.getElem?_mapIdx]
    cases hu : row[j]? with
    | none => rfl
    | some u =>
      have hjl := (List.getElem?_eq_some_iff.1 hu).1
      have h1 : i * m + m ≤ cs.length * m := by
        have := Nat.mul_le_mul_right m (show i + 1 ≤ cs.length from hil)
        rw [Nat.add_mul, Nat.one_mul] at this
        exact this
      simp [show i * m + j < cs.length * m from by omega]
theorem copyAt_step {m s j : Nat} {cs : List (List WayD)} {row : List WayD} {u : WayD} (hm : ∀ row ∈ cs, row.length = m) (hs : cs[s]? = some row) (hu : row[j]? = some u) :
    (copyAt m (s * m + j) cs).set s ((row.mapIdx fun j' u' => if s * m + j' < s * m + j then u' else zeroW).set j u) = copyAt m (s * m + j + 1) cs := by
  have hjl := (List.getElem?_eq_some_iff.1 hu).1
  have hsl := (List.getElem?_eq_some_iff.1 hs).1
  have hrm := hm row (List.mem_of_getElem? hs)
  apply List.ext_getElem?
  intro i
  by_cases his : s = i
  · subst his
    rw [List.getElem?_set_self (by rw [copyAt_len]; exact hsl), copyAt_get hs]
    congr 1
    apply List.ext_getElem?
    intro j'
    by_cases hj : j = j'
    · subst hj
      rw [List.getElem?_set_self (by simpa using hjl), List.getElem?_mapIdx, hu]
      simp
    · rw [List.getElem?_set_ne hj, List.getElem?_mapIdx, List.getElem?_mapIdx]
      cases row[j']? with
      | none => rfl
      | some u' =>
        simp only [Option.map_some, Option.some.injEq]
        by_cases h1 : s * m + j' < s * m + j
        · rw [if_pos h1, if_pos (by omega)]
        · rw [if_neg h1, if_neg (by omega)]
  · rw [List.getElem?_set_ne his]
    cases h : cs[i]? with
    | none =>
      have := List.getElem?_eq_none_iff.1 h
      rw [List.getElem?_eq_none_iff.2 (by rw [copyAt_len]; exact this), List.getElem?_eq_none_iff.2 (by rw [copyAt_len]; exact this)]
    | some row' =>
      rw [copyAt_get h, copyAt_get h]
      congr 1
      apply List.ext_getElem?
      intro j'
      rw [List.getElem?_mapIdx, List.getElem?_mapIdx]
      cases hu' : row'[j']? with
      | none => rfl
      | some u' =>
        have hj' := (List.getElem?_eq_some_iff.1 hu').1
        have hrm' := hm row' (List.mem_of_getElem? h)
        simp only [Option.map_some, Option.some.injEq]
        rcases Nat.lt_or_gt_of_ne his with hlt | hgt
        · have h1 : s * m + m ≤ i * m := by
            have := Nat.mul_le_mul_right m (show s + 1 ≤ i from hlt)
            rw [Nat.add_mul, Nat.one_mul] at this
            exact this
          rw [if_neg (by omega), if_neg (by omega)]
        · have h1 : i * m + m ≤ s * m := by
            have := Nat.mul_le_mul_right m (show i + 1 ≤ s from hgt)
            rw [Nat.add_mul, Nat.one_mul] at this
            exact this
          rw [if_pos (by omega), if_pos (by omega)]
theorem flat3_get (x y z : Value) : ∀ (n i : Nat), (List.replicate n [x, y, z]).flatten[i]? = if i < n * 3 then [x, y, z][i % 3]? else none
  | 0, i => by simp
  | n + 1, i => by
    rw [List.replicate_succ, List.flatten_cons, List.getElem?_append]
    by_cases h : i < 3
    · rw [if_pos (by simpa using h), if_pos (by omega), Nat.mod_eq_of_lt h]
    · rw [if_neg (by simpa using h), flat3_get x y z n]
      have e : (i - [x, y, z].length) % 3 = i % 3 := by
        show (i - 3) % 3 = i % 3
        omega
      rw [e]
      by_cases h2 : i < (n + 1) * 3
      · rw [if_pos h2, if_pos (by show i - 3 < n * 3; omega)]
      · rw [if_neg h2, if_neg (by show ¬ (i - 3 < n * 3); omega)]
theorem made_three (n : Nat) (x y z : Value) : (madeCells #[x, y, z] (n * 3)).toList = (List.replicate n [x, y, z]).flatten := by
  apply List.ext_getElem?
  intro i
  rw [flat3_get]
  unfold madeCells
  by_cases h : i < n * 3
  · have h3 : i % 3 < 3 := Nat.mod_lt _ (by decide)
    rcases (by omega : i % 3 = 0 ∨ i % 3 = 1 ∨ i % 3 = 2) with e | e | e <;> simp [h, e]
  · simp [h]
theorem lown_zeros {w : World} {S : Foot} : ∀ n, lown wayR w S (List.replicate n [.int .i64 0, .int .i64 0, .slice none 0 0]).flatten (List.replicate n zeroW)
  | 0 => rfl
  | n + 1 => ⟨[.int .i64 0, .int .i64 0, .slice none 0 0], (List.replicate n [.int .i64 0, .int .i64 0, .slice none 0 0]).flatten, fun _ => False, S, by rw [List.replicate_succ, List.flatten_cons], own_way (by constructor <;> decide) (by constructor <;> decide) (own_nothing _ _), lown_zeros n, fun _ h => h.elim, Sub.refl _, fun _ h _ => h⟩
theorem zways_at {W : World} {S : Foot} {g n : Nat} (hh : W.heap[g]? = some (.cells (madeCells #[.int .i64 0, .int .i64 0, .slice none 0 0] (n * 3)) 30 (0, 0))) (hS : S g) (hm : n ≤ maxLen) : waysR.own W S [.slice (some ⟨g, 0, none⟩) n n] (List.replicate n zeroW) := by
  have e1 : n * wayR.size = n * 3 := rfl
  have hl : (List.replicate n [Value.int .i64 0, .int .i64 0, .slice none 0 0]).flatten.length = n * 3 := by simp
  refine ⟨_, (List.replicate n [.int .i64 0, .int .i64 0, .slice none 0 0]).flatten, fun _ => False, rfl, ⟨by rw [hl, List.length_replicate, e1], .inr ⟨g, n, _, by simp, Nat.zero_le _, hh, by simp, hm, by rw [size_madeCells, e1], ?_⟩⟩, fun x hx => ?_, fun _ h => h.elim, lown_zeros n⟩
  · rw [made_three, List.length_replicate, e1, List.take_of_length_le (by rw [hl]; exact Nat.le_refl _)]
  · simp [Value.ownBlock] at hx
    subst hx
    exact ⟨hS, fun h => h⟩
structure Lies (s t pa cb : Nat) (Tf : Foot) : Prop where
  p1 : s + 2 ≤ pa
  p2 : pa < t
  c1 : s + 2 ≤ cb
  c2 : cb < t
  ne : pa ≠ cb
  ts : Sub Tf (rng (s + 2) t)
  tp : ¬ Tf pa
  tc : ¬ Tf cb
def Rooms (t pa : Nat) (w : World) : Foot := fun k => (k = pa ∨ t ≤ k) ∧ k < w.heap.size
def CopyI (w : World) (t pa cb n : Nat) (Tf : Foot) (box : Obj) (v : Value) (ts : List Int) (xss : List (List WayD)) (wr : World) : Prop :=
  setsR.own wr (Rooms t pa wr) [.slice (some ⟨pa, 0, none⟩) n n] xss ∧
  wr.heap[cb]? = some (.cells #[.slice (some ⟨pa, 0, none⟩) n n, v] 27 (0, 0)) ∧
  wr.heap[w.heap.size + 1]? = some (.cells #[.slice none 0 0, .slice none 0 0] 27 (0, 0)) ∧ wr.heap[w.heap.size]? = some box ∧
  intsR.own wr Tf [v] ts ∧ Below w.heap.size w wr ∧ t ≤ wr.heap.size
theorem copy_next {w wr wr' : World} {t pa cb n : Nat} {Tf : Foot} {box : Obj} {v : Value} {ts : List Int} {xss : List (List WayD)} (h : CopyI w t pa cb n Tf box v ts xss wr) (hb : Below wr.heap.size wr wr') : CopyI w t pa cb n Tf box v ts xss wr' := by
  obtain ⟨h1, h2, h3, h4, h5, h6, h7⟩ := h
  have := hb.size
  exact ⟨setsR.own_mono (setsR.own_keep h1 (keeps_below hb)) fun k hk => ⟨hk.1, by have := hk.2; omega⟩, row_keep hb h2, row_keep hb h3, row_keep hb h4, intsR.own_keep h5 (keeps_below hb), below_step h6 hb, by omega⟩
/- What a change within the rooms leaves. -/
theorem copy_chg {w wr wr' : World} {t pa cb n : Nat} {Tf : Foot} {box : Obj} {v : Value} {ts : List Int} {xss yss : List (List WayD)} {S : Foot} (L : Lies w.heap.size t pa cb Tf) (h : CopyI w t pa cb n Tf box v ts xss wr) (hc : Chg S wr wr') (hS : Sub S (Rooms t pa wr))
    (ho : setsR.own wr' (Rooms t pa wr') [.slice (some ⟨pa, 0, none⟩) n n] yss) : CopyI w t pa cb n Tf box v ts yss wr' := by
  obtain ⟨h1, h2, h3, h4, h5, h6, h7⟩ := h
  obtain ⟨p1, p2, c1, c2, ne, ts', tp, tc⟩ := L
  have := hc.size
  have nS : ∀ x, x ≠ pa → x < t → ¬ S x := fun x hx hl hs => by
    rcases (hS x hs).1 with h | h
    · exact hx h
    · omega
  refine ⟨ho, (hc.block _ (by omega) (nS cb (Ne.symm ne) c2)).trans h2, (hc.block _ (by omega) (nS _ (by omega) (by omega))).trans h3, (hc.block _ (by omega) (nS _ (by omega) (by omega))).trans h4, own_chg h5 hc (fun x hx hs => nS x (fun e => tp (e ▸ hx)) (ts' x hx).2 hs), hc.below h6 (fun x hs => ?_) (by omega), by omega⟩
  rcases (hS x hs).1 with h | h <;> omega
theorem copy_put {w wr wr' : World} {t pa cb n : Nat} {Tf : Foot} {box : Obj} {v : Value} {ts : List Int} {xss yss : List (List WayD)} (L : Lies w.heap.size t pa cb Tf) (h : CopyI w t pa cb n Tf box v ts xss wr)
    (ho : setsR.own wr' (fun k => Old wr (Rooms t pa wr) k ∨ (wr.heap.size ≤ k ∧ k < wr'.heap.size)) [.slice (some ⟨pa, 0, none⟩) n n] yss) (hc : Chg (Old wr (Rooms t pa wr)) wr wr') : CopyI w t pa cb n Tf box v ts yss wr' := by
  have hs := hc.size
  have ht := h.2.2.2.2.2.2
  exact copy_chg L h hc (fun k hk => hk.1) (setsR.own_mono ho fun k hk => by
    rcases hk with hk | hk
    · exact ⟨hk.1.1, by have := hk.2; omega⟩
    · exact ⟨.inr (by omega), hk.2⟩)
theorem copy_row2 {w wr : World} {t pa cb n k r : Nat} {Tf : Foot} {box : Obj} {v : Value} {ts : List Int} {xss : List (List WayD)} {old : List WayD} (L : Lies w.heap.size t pa cb Tf) (h : CopyI w t pa cb n Tf box v ts xss wr) (hx : xss[k]? = some old) (hr : r ≤ maxLen) :
    (∃ u, wr.cell? ⟨pa, k, none⟩ = some u) ∧ wr.frozen? ⟨pa, k, none⟩ = false ∧ pa < wr.heap.size ∧
      CopyI w t pa cb n Tf box v ts (xss.set k (List.replicate r zeroW)) ((wr.setCell ⟨pa, k, none⟩ (.slice (some ⟨wr.heap.size, 0, none⟩) r r)).alloc (.cells (madeCells #[.int .i64 0, .int .i64 0, .slice none 0 0] (r * 3)) 30)) := by
  have h0 := h
  obtain ⟨h1, -, -, -, -, -, h7⟩ := h0
  obtain ⟨g, cap, cur, Sj, T, c, hv, hSg, hg, hc, hcl, ho, s1, s2, hd, n1, n2, back⟩ := slown_focus h1 hx
  simp only [Value.slice.injEq, Option.some.injEq, Addr.mk.injEq, and_true] at hv
  obtain ⟨rfl, hn, hcap⟩ := hv
  have e1 : waysR.size = 1 := rfl
  simp only [e1, Nat.mul_one] at hc back
  obtain ⟨u, rfl⟩ : ∃ u, c = [u] := List.length_eq_one_iff.1 hcl
  have hck : cur[k]? = some u := by simpa using hc 0 (by decide)
  have hpl := (Array.getElem?_eq_some_iff.1 hg).1
  have kl := (Array.getElem?_eq_some_iff.1 hck).1
  have hs0 : (wr.setCell ⟨pa, k, none⟩ (.slice (some ⟨wr.heap.size, 0, none⟩) r r)).heap.size = wr.heap.size := by simp
  have G0 := heap_setCell_same wr pa k _ _ (.slice (some ⟨wr.heap.size, 0, none⟩) r r) hg
  have G1 := heap_on (.cells (madeCells #[.int .i64 0, .int .i64 0, .slice none 0 0] (r * 3)) 30) G0
  have Z : ((wr.setCell ⟨pa, k, none⟩ (.slice (some ⟨wr.heap.size, 0, none⟩) r r)).alloc (.cells (madeCells #[.int .i64 0, .int .i64 0, .slice none 0 0] (r * 3)) 30)).heap[wr.heap.size]? = some (.cells (madeCells #[.int .i64 0, .int .i64 0, .slice none 0 0] (r * 3)) 30) := by
    have := heap_at (wr.setCell ⟨pa, k, none⟩ (.slice (some ⟨wr.heap.size, 0, none⟩) r r)) (.cells (madeCells #[.int .i64 0, .int .i64 0, .slice none 0 0] (r * 3)) 30)
    rw [hs0] at this
    exact this
  have hsz : ((wr.setCell ⟨pa, k, none⟩ (.slice (some ⟨wr.heap.size, 0, none⟩) r r)).alloc (.cells (madeCells #[.int .i64 0, .int .i64 0, .slice none 0 0] (r * 3)) 30)).heap.size = wr.heap.size + 1 := by simp
  have hchg : Chg (fun x => x = pa) wr ((wr.setCell ⟨pa, k, none⟩ (.slice (some ⟨wr.heap.size, 0, none⟩) r r)).alloc (.cells (madeCells #[.int .i64 0, .int .i64 0, .slice none 0 0] (r * 3)) 30)) := by
    have hb2 : Below pa wr _ := below_setC (g := pa) (o := k) (v := (.slice (some ⟨wr.heap.size, 0, none⟩) r r)) (Below.refl pa _) (Nat.le_refl _)
    exact (⟨hb2.os, hb2.tape, hb2.output, hb2.size, fun x _ hn => heap_setCell_other _ ⟨pa, k, none⟩ x _ hn⟩ : Chg (fun x => x = pa) wr (wr.setCell ⟨pa, k, none⟩ (.slice (some ⟨wr.heap.size, 0, none⟩) r r))).trans (chg_below (S := fun x => x = pa) (box_below _ (.cells (madeCells #[.int .i64 0, .int .i64 0, .slice none 0 0] (r * 3)) 30)))
  refine ⟨⟨u, by rw [cell_of_row wr pa k _ _ (0, 0) hg]; exact hck⟩, frozen_of_row wr pa k _ _ hg, hpl, copy_chg L h hchg (fun x hx => by have e : x = pa := hx; rw [e]; exact hSg) ?_⟩
  refine back _ (cur.setIfInBounds k (.slice (some ⟨wr.heap.size, 0, none⟩) r r)) [.slice (some ⟨wr.heap.size, 0, none⟩) r r] _ (fun x => x = wr.heap.size) _ G1 (by simp) ?_ ?_ ?_ (zways_at Z rfl hr) ?_ (fun e => by omega) ?_ ?_ ?_
  · intro i hi
    rw [Array.getElem?_setIfInBounds_ne (by omega)]
  · intro i hi
    have : i = 0 := by omega
    subst this
    simp [kl]
  · intro x hx hl
    exact hchg.block x hl fun e => n2 (by have e' : x = pa := e; rw [← e']; exact hx)
  · intro x hx hT
    have e : x = wr.heap.size := hx
    have := (s2 x hT).2
    omega
  · exact ⟨.inl rfl, by rw [hsz]; omega⟩
  · intro x hx
    have e : x = wr.heap.size := hx
    exact ⟨.inr (by omega), by rw [hsz]; omega⟩
  · intro x hx
    have := s2 x hx
    exact ⟨this.1, by have := this.2; rw [hsz]; omega⟩
end Go.Proofs.YthbclkpmgcfdnaaGreatDoor
