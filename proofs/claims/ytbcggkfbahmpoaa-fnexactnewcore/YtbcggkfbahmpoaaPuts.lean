
import Derived.Test.YtbcggkfbahmpoaaAppAny
import Derived.Test.YtbcggkfbahmpoaaWays2
import Derived.Test.YtbcggkfbahmpoaaFindW
import Derived.Deep.RegionHeld3
/- One way of a store that is owned, put anew. -/
namespace Go.Proofs.Ytbcggkfbahmpoaa
open Go.ChangeShapes Go.WideShapes Go.ChangeAt Go.RowKit
set_option linter.unusedVariables false

def set3 (w : World) (g o : Nat) (x y z : Value) : World := ((w.setCell ⟨g, o, none⟩ x).setCell ⟨g, o + 1, none⟩ y).setCell ⟨g, o + 2, none⟩ z
theorem set3_same {w : World} {g o : Nat} {x y z : Value} {cur : Array Value} {t : TypeId} (h : w.heap[g]? = some (.cells cur t (0, 0))) : (set3 w g o x y z).heap[g]? = some (.cells (((cur.setIfInBounds o x).setIfInBounds (o + 1) y).setIfInBounds (o + 2) z) t (0, 0)) := by
  have h1 := heap_setCell_same w g o _ t x h
  have h2 := heap_setCell_same _ g (o + 1) _ t y h1
  exact heap_setCell_same _ g (o + 2) _ t z h2
theorem set3_other {w : World} {g o k : Nat} {x y z : Value} (h : k ≠ g) : (set3 w g o x y z).heap[k]? = w.heap[k]? := by
  unfold set3
  rw [heap_setCell_other _ ⟨g, o + 2, none⟩ k z h, heap_setCell_other _ ⟨g, o + 1, none⟩ k y h, heap_setCell_other _ ⟨g, o, none⟩ k x h]
theorem set3_size {w : World} {g o : Nat} {x y z : Value} : (set3 w g o x y z).heap.size = w.heap.size := by simp [set3]
theorem set3_chg {w : World} {S : Foot} {g o : Nat} {x y z : Value} (h : S g) : Chg S w (set3 w g o x y z) := by
  have hb : Below g w (set3 w g o x y z) := below_setC (below_setC (below_setC (Below.refl g w) (Nat.le_refl _)) (Nat.le_refl _)) (Nat.le_refl _)
  exact ⟨hb.os, hb.tape, hb.output, hb.size, fun k _ hn => set3_other fun e => hn (e ▸ h)⟩

theorem own_put {w w9 : World} {S : Foot} {u c1 c2 c3 : Value} {cs : List (List WayD)} {s j : Nat} {row : List WayD} {old x : WayD} (h : setsR.own w S [u] cs) (hs : cs[s]? = some row) (hj : row[j]? = some old) (mm : MadeR wayR w w9 [c1, c2, c3] x) :
    ∃ g cap g2 cap2, u = .slice (some ⟨g, 0, none⟩) cs.length cap ∧ w.cell? ⟨g, s, none⟩ = some (.slice (some ⟨g2, 0, none⟩) row.length cap2) ∧ S g ∧ S g2 ∧ g ≠ g2 ∧ g2 < w.heap.size ∧
      (∃ cur, w9.heap[g2]? = some (.cells cur 37 (0, 0)) ∧ j * 3 + 2 < cur.size) ∧
      setsR.own (set3 w9 g2 (j * 3) c1 c2 c3) (fun k => Old w S k ∨ (w.heap.size ≤ k ∧ k < w9.heap.size)) [u] (cs.set s (row.set j x)) ∧ Chg (fun k => k = g2) w (set3 w9 g2 (j * 3) c1 c2 c3) := by
  obtain ⟨g, cap, cur, Sj, T, c', hv, hSg, hg, hc, hcl, ho, s1, s2, hd, n1, n2, back⟩ := slown_focus (own_old h) hs
  have e1 : waysR.size = 1 := rfl
  simp only [e1, Nat.mul_one] at hc back
  obtain ⟨u2, rfl⟩ : ∃ u2, c' = [u2] := List.length_eq_one_iff.1 hcl
  obtain ⟨g2, cap2, cur2, Sj2, T2, c2', hv2, hSg2, hg2, hc2, hcl2, ho2, t1, t2, hd2, k1, k2, back2⟩ := slown_focus ho hj
  subst hv2
  subst hv
  have e3 : wayR.size = 3 := rfl
  simp only [e3] at hc2 back2
  have hne : g ≠ g2 := fun e => n1 (e ▸ hSg2)
  have hck : cur[s]? = some (.slice (some ⟨g2, 0, none⟩) row.length cap2) := by simpa using hc 0 (by decide)
  have hl2 := (Array.getElem?_eq_some_iff.1 hg2).1
  have hl := (Array.getElem?_eq_some_iff.1 hg).1
  have G2 := row_keep mm.2 hg2
  have sz := mm.2.size
  have hc2l : c2'.length = 3 := hcl2
  have hj2 : j * 3 + 2 < cur2.size := by
    have := hc2 2 (by decide)
    rw [List.getElem?_eq_getElem (by omega)] at this
    exact (Array.getElem?_eq_some_iff.1 this).1
  have C9 : Chg (fun k => k = g2) w (set3 w9 g2 (j * 3) c1 c2 c3) := by
    have := (chg_below (S := fun k => k = g2) mm.2).trans (set3_chg (S := fun k => k = g2) (o := j * 3) (x := c1) (y := c2) (z := c3) rfl)
    exact this
  refine ⟨g, cap, g2, cap2, rfl, by rw [cell_of_row w g s _ _ (0, 0) hg]; exact hck, hSg.1, (s1 g2 hSg2).1, hne, hl2, ⟨cur2, G2, hj2⟩, ?_, C9⟩
  have B2 : waysR.own (set3 w9 g2 (j * 3) c1 c2 c3) (fun k => Sj k ∨ (w.heap.size ≤ k ∧ k < w9.heap.size)) [.slice (some ⟨g2, 0, none⟩) row.length cap2] (row.set j x) := by
    refine back2 _ (((cur2.setIfInBounds (j * 3) c1).setIfInBounds (j * 3 + 1) c2).setIfInBounds (j * 3 + 2) c3) [c1, c2, c3] x (rng w.heap.size w9.heap.size) _ (set3_same G2) (by simp) ?_ ?_ ?_ (wayR.own_keep mm.1 fun k hk _ => set3_other fun e => by have := hk.1; omega) ?_ ?_ ?_ ?_ ?_
    · intro i hi
      rw [Array.getElem?_setIfInBounds_ne (by omega), Array.getElem?_setIfInBounds_ne (by omega), Array.getElem?_setIfInBounds_ne (by omega)]
    · intro i hi
      have : i = 0 ∨ i = 1 ∨ i = 2 := by omega
      rcases this with rfl | rfl | rfl
      · rw [Array.getElem?_setIfInBounds_ne (by omega), Array.getElem?_setIfInBounds_ne (by omega)]
        simp [show j * 3 < cur2.size from by omega]
      · rw [Array.getElem?_setIfInBounds_ne (by omega)]
        simp [show j * 3 + 1 < cur2.size from by omega]
      · simp [hj2]
    · intro k hk hlk
      exact C9.block k hlk fun e => k2 (e ▸ hk)
    · intro k hk hT
      have := (s1 k (t2 k hT)).2
      have := hk.1
      omega
    · intro hk
      have := hk.1
      omega
    · exact .inl hSg2
    · exact fun k hk => .inr hk
    · exact fun k hk => .inl (t2 k hk)
  refine back _ cur _ _ (fun k => Sj k ∨ (w.heap.size ≤ k ∧ k < w9.heap.size)) _ ((C9.block g hl hne).trans hg) rfl (fun _ _ => rfl) hc ?_ B2 ?_ ?_ ?_ ?_ ?_
  · intro k hk hlk
    exact C9.block k hlk fun e => hd k (e ▸ hSg2) hk
  · rintro k (h | h) hT
    · exact hd k h hT
    · have := (s2 k hT).2; omega
  · rintro (h | h)
    · exact n1 h
    · omega
  · exact .inl hSg
  · rintro k (h | h)
    · exact .inl (s1 k h)
    · exact .inr h
  · exact fun k hk => .inl (s2 k hk)
end Go.Proofs.Ytbcggkfbahmpoaa

/- One way of a store that is owned, put anew by the program. Conditions: a way that reads as told, of a length that a machine can hold. -/
namespace Go.Proofs.Ytbcggkfbahmpoaa
open Go.ChangeShapes Go.WideShapes Go.ChangeAt Go.RowKit
set_option linter.unusedVariables false

theorem set3_cell {w : World} {g b o k : Nat} {u x y z : Value} (hne : b ≠ g) (h : w.cell? ⟨b, k, none⟩ = some u) : (((w.setCell ⟨g, o, none⟩ x).setCell ⟨g, o + 1, none⟩ y).setCell ⟨g, o + 2, none⟩ z).cell? ⟨b, k, none⟩ = some u := cs1 hne (cs1 hne (cs1 hne h))

/- An owned store, in any later world: what 'own_put' tells, told ahead of the new way. -/
theorem own_put_at {w : World} {S : Foot} {u : Value} {cs : List (List WayD)} {s j : Nat} {row : List WayD} {old : WayD} (h : setsR.own w S [u] cs) (hs : cs[s]? = some row) (hj : row[j]? = some old) :
    ∃ g cap g2 cap2, u = .slice (some ⟨g, 0, none⟩) cs.length cap ∧ w.cell? ⟨g, s, none⟩ = some (.slice (some ⟨g2, 0, none⟩) row.length cap2) ∧ S g ∧ S g2 ∧ g ≠ g2 ∧ g < w.heap.size ∧ g2 < w.heap.size ∧
      ∀ w9 c1 c2 c3 x, MadeR wayR w w9 [c1, c2, c3] x → (∃ cur, w9.heap[g2]? = some (.cells cur 37 (0, 0)) ∧ j * 3 + 2 < cur.size) ∧
        setsR.own (set3 w9 g2 (j * 3) c1 c2 c3) (fun k => Old w S k ∨ (w.heap.size ≤ k ∧ k < w9.heap.size)) [u] (cs.set s (row.set j x)) ∧ Chg (fun k => k = g2) w (set3 w9 g2 (j * 3) c1 c2 c3) := by
  obtain ⟨g, cap, cur, Sj, T, c', hv, hSg, hg, hc, hcl, ho, s1, s2, hd, n1, n2, back⟩ := slown_focus (own_old h) hs
  have e1 : waysR.size = 1 := rfl
  simp only [e1, Nat.mul_one] at hc
  obtain ⟨u2, rfl⟩ : ∃ u2, c' = [u2] := List.length_eq_one_iff.1 hcl
  obtain ⟨g2, cap2, cur2, Sj2, T2, c2', hv2, hSg2, hg2, _⟩ := slown_focus ho hj
  subst hv2
  subst hv
  have hck : cur[s]? = some (.slice (some ⟨g2, 0, none⟩) row.length cap2) := by simpa using hc 0 (by decide)
  have hcell : w.cell? ⟨g, s, none⟩ = some (.slice (some ⟨g2, 0, none⟩) row.length cap2) := by rw [cell_of_row w g s _ _ (0, 0) hg]; exact hck
  refine ⟨g, cap, g2, cap2, rfl, hcell, hSg.1, (s1 g2 hSg2).1, fun e => n1 (e ▸ hSg2), (Array.getElem?_eq_some_iff.1 hg).1, (Array.getElem?_eq_some_iff.1 hg2).1, fun w9 c1 c2 c3 x mm => ?_⟩
  obtain ⟨g', cap', g2', cap2', e1, hcell', _, _, _, _, hcur, hown, hchg⟩ := own_put h hs hj mm
  simp only [Value.slice.injEq, Option.some.injEq, Addr.mk.injEq, and_true, true_and] at e1
  obtain ⟨rfl, -⟩ := e1
  rw [hcell] at hcell'
  simp only [Option.some.injEq, Value.slice.injEq, Addr.mk.injEq, and_true, true_and] at hcell'
  obtain ⟨rfl, -⟩ := hcell'
  exact ⟨hcur, hown, hchg⟩


end Go.Proofs.Ytbcggkfbahmpoaa
