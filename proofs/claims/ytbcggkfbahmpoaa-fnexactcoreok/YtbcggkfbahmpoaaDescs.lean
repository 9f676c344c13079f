
/- Descs (numbers and one list) as they lie in memory; the contracts of the laws' own helpers over one and over lists of them: how great, a copy, alike. Conditions: lengths that a machine can hold. -/
import Derived.Test.YtbcggkfbahmpoaaJLinesBoxesAppGenOwned
namespace Go.Proofs.Ytbcggkfbahmpoaa
open Go.ChangeShapes Go.WideShapes Go.ChangeAt Go.RowKit
set_option linter.unusedVariables false

abbrev DescD := Bool × Int × Int × List Int
abbrev descR : Rep DescD := prodR boolR (prodR intR (prodR intR intsR))
abbrev descM : Mk DescD := prodM boolM (prodM intM (prodM intM intsM))
abbrev descsM : Mk (List DescD) := slM descM
theorem desc_rd {w : World} {cs : List Value} {u : DescD} (h : descR.rd w cs u) :
    ∃ a cap, cs = [.bool u.1, .int .i64 u.2.1, .int .i64 u.2.2.1, .slice a u.2.2.2.length cap] ∧ In64 u.2.1 ∧ In64 u.2.2.1 ∧ u.2.2.2.length ≤ cap ∧ cap ≤ maxLen ∧ SlRd intR w a u.2.2.2 := by
  obtain ⟨c0, e0, rfl, rfl, c1, e1, rfl, ⟨rfl, i1⟩, c2, e2, rfl, ⟨rfl, i2⟩, ⟨a, cap, rfl, h1, h2, h3⟩⟩ := h
  exact ⟨a, cap, rfl, i1, i2, h1, h2, h3⟩
theorem desc_own {w : World} {S : Foot} {cs : List Value} {u : DescD} (h : descR.own w S cs u) :
    ∃ v, cs = [.bool u.1, .int .i64 u.2.1, .int .i64 u.2.2.1, v] ∧ In64 u.2.1 ∧ In64 u.2.2.1 ∧ intsR.own w S [v] u.2.2.2 := by
  obtain ⟨c0, e0, S0, T0, rfl, rfl, ⟨c1, e1, S1, T1, rfl, ⟨rfl, i1⟩, ⟨c2, e2, S2, T2, rfl, ⟨rfl, i2⟩, h9, p2, q2, d2⟩, p1, q1, d1⟩, p0, q0, d0⟩ := h
  have hl := intsR.rd_len (intsR.own_rd h9)
  obtain ⟨v, rfl⟩ : ∃ v, e2 = [v] := List.length_eq_one_iff.1 hl
  exact ⟨v, rfl, i1, i2, intsR.own_mono h9 (((q2).trans q1).trans q0)⟩
theorem own_desc {w : World} {S : Foot} {f1 f2 : Int} {f0 : Bool} {d : List Int} {v : Value} (i1 : In64 f1) (i2 : In64 f2) (h : intsR.own w S [v] d) : descR.own w S [.bool f0, .int .i64 f1, .int .i64 f2, v] (f0, f1, f2, d) :=
  ⟨[_], [_, _, _], fun _ => False, S, rfl, rfl, ⟨[_], [_, _], fun _ => False, S, rfl, ⟨rfl, i1⟩, ⟨[_], [_], fun _ => False, S, rfl, ⟨rfl, i2⟩, h, fun _ h => h.elim, Sub.refl _, fun _ h _ => h⟩, fun _ h => h.elim, Sub.refl _, fun _ h _ => h⟩, fun _ h => h.elim, Sub.refl _, fun _ h _ => h⟩
theorem bk_desc (u : DescD) : descM.bk u = intsM.bk u.2.2.2 := by
  show 0 + (0 + (0 + (intsM.bk u.2.2.2))) = _
  omega
theorem cells_4 {w : World} {g : Nat} {x0 x1 x2 x3 : Value} {t : TypeId} (h : w.heap[g]? = some (.cells #[x0, x1, x2, x3] t (0, 0))) :
    w.cell? ⟨g, 0, none⟩ = some x0 ∧ w.cell? ⟨g, 1, none⟩ = some x1 ∧ w.cell? ⟨g, 2, none⟩ = some x2 ∧ w.cell? ⟨g, 3, none⟩ = some x3 :=
  ⟨by rw [cell_of_row w g 0 _ t (0, 0) h]; rfl, by rw [cell_of_row w g 1 _ t (0, 0) h]; rfl, by rw [cell_of_row w g 2 _ t (0, 0) h]; rfl, by rw [cell_of_row w g 3 _ t (0, 0) h]; rfl⟩
theorem froz_4 {w : World} {g : Nat} {cs : Array Value} {t : TypeId} (h : w.heap[g]? = some (.cells cs t (0, 0))) : w.frozen? ⟨g, 0, none⟩ = false ∧ w.frozen? ⟨g, 1, none⟩ = false ∧ w.frozen? ⟨g, 2, none⟩ = false ∧ w.frozen? ⟨g, 3, none⟩ = false :=
  ⟨frozen_of_row w g 0 _ t h, frozen_of_row w g 1 _ t h, frozen_of_row w g 2 _ t h, frozen_of_row w g 3 _ t h⟩
theorem put_4 {w : World} {g : Nat} {x0 y0 x1 y1 x2 y2 x3 y3 : Value} {t : TypeId} (h : w.heap[g]? = some (.cells #[x0, x1, x2, x3] t (0, 0))) :
    ((((w.setCell ⟨g, 0, none⟩ y0).setCell ⟨g, 1, none⟩ y1).setCell ⟨g, 2, none⟩ y2).setCell ⟨g, 3, none⟩ y3).heap[g]? = some (.cells #[y0, y1, y2, y3] t (0, 0)) := by
  have h0 : (w.setCell ⟨g, 0, none⟩ y0).heap[g]? = some (.cells #[y0, x1, x2, x3] t (0, 0)) := heap_setCell_same _ g 0 _ t y0 h
  have h1 : ((w.setCell ⟨g, 0, none⟩ y0).setCell ⟨g, 1, none⟩ y1).heap[g]? = some (.cells #[y0, y1, x2, x3] t (0, 0)) := heap_setCell_same _ g 1 _ t y1 h0
  have h2 : (((w.setCell ⟨g, 0, none⟩ y0).setCell ⟨g, 1, none⟩ y1).setCell ⟨g, 2, none⟩ y2).heap[g]? = some (.cells #[y0, y1, y2, x3] t (0, 0)) := heap_setCell_same _ g 2 _ t y2 h1
  have h3 : ((((w.setCell ⟨g, 0, none⟩ y0).setCell ⟨g, 1, none⟩ y1).setCell ⟨g, 2, none⟩ y2).setCell ⟨g, 3, none⟩ y3).heap[g]? = some (.cells #[y0, y1, y2, y3] t (0, 0)) := heap_setCell_same _ g 3 _ t y3 h2
  exact h3






end Go.Proofs.Ytbcggkfbahmpoaa
