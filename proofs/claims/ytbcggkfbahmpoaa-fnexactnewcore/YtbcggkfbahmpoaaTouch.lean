
/- One tree of a store set anew, of the program. Condition: a tree that is right, a store that is owned. -/
import Derived.Test.YtbcggkfbahmpoaaLastOp
import Derived.Test.YtbcggkfbahmpoaaDropImpl
namespace Go.Proofs.Ytbcggkfbahmpoaa
open Go.ChangeShapes Go.WideShapes Go.ChangeAt Go.RowKit Go.Shelf
set_option linter.unusedVariables false

theorem tou_ok {t n y : Int} (h : treeB t n = true) (h0 : 0 ≤ y) (h1 : y < n) : treeB (touI t n y) n = true := by
  simp only [treeB, decide_eq_true_eq] at h
  rcases h with ⟨rfl, rfl⟩ | ⟨rfl, a, b⟩ | ⟨rfl, a, b⟩
  · obtain rfl : y = 0 := by omega
    decide
  · rcases (by omega : t = 0 ∨ t = 1) with rfl | rfl <;> rcases (by omega : y = 0 ∨ y = 1) with rfl | rfl <;> decide
  · rcases (by omega : t = 0 ∨ t = 1 ∨ t = 2 ∨ t = 3 ∨ t = 4 ∨ t = 5 ∨ t = 6 ∨ t = 7) with rfl | rfl | rfl | rfl | rfl | rfl | rfl | rfl <;> rcases (by omega : y = 0 ∨ y = 1 ∨ y = 2 ∨ y = 3) with rfl | rfl | rfl | rfl <;> decide
theorem tree_in64 {t n : Int} (h : treeB t n = true) : In64 t := by
  simp only [treeB, decide_eq_true_eq] at h
  constructor <;> omega
theorem tu_tou {t n y : Int} (h : treeB t n = true) (h0 : 0 ≤ y) (h1 : y < n) : tuI t n y = touI t n y := by
  unfold tuI
  rw [h, if_pos]
  simp [betw]
  omega

theorem own_num {w : World} {S : Foot} {v : Value} {xs : List Int} {j : Nat} {x : Int} (h : intsR.own w S [v] xs) (hx : xs[j]? = some x) :
    ∃ g cap, v = .slice (some ⟨g, 0, none⟩) xs.length cap ∧ S g ∧ g < w.heap.size ∧ w.cell? ⟨g, j, none⟩ = some (.int .i64 x) ∧
      ∀ w1 y, Below w.heap.size w w1 → In64 y → w1.cell? ⟨g, j, none⟩ = some (.int .i64 x) ∧ w1.frozen? ⟨g, j, none⟩ = false ∧ intsR.own (w1.setCell ⟨g, j, none⟩ (.int .i64 y)) S [v] (xs.set j y) ∧ Chg (fun k => k = g) w (w1.setCell ⟨g, j, none⟩ (.int .i64 y)) := by
  obtain ⟨g, cap, cur, Sj, T, c, hv, hSg, hg, hc, hcl, ho, s1, s2, hd, n1, n2, back⟩ := slown_focus h hx
  have e1 : intR.size = 1 := rfl
  simp only [e1, Nat.mul_one] at hc back
  have hcx : c = [.int .i64 x] := ho.1
  subst hcx
  have hck : cur[j]? = some (.int .i64 x) := by simpa using hc 0 (by decide)
  have kl := (Array.getElem?_eq_some_iff.1 hck).1
  have hgl := (Array.getElem?_eq_some_iff.1 hg).1
  refine ⟨g, cap, hv, hSg, hgl, by rw [cell_of_row w g j _ _ (0, 0) hg]; exact hck, fun w1 y hb hy => ?_⟩
  have hg1 := row_keep hb hg
  have hch : Chg (fun k => k = g) w (w1.setCell ⟨g, j, none⟩ (.int .i64 y)) :=
    (chg_below (S := fun k => k = g) hb).trans (chg_grown (grown_at w1 g j _) rfl)
  refine ⟨by rw [cell_of_row w1 g j _ _ (0, 0) hg1]; exact hck, frozen_of_row w1 g j _ _ hg1, ?_, hch⟩
  refine back _ (cur.setIfInBounds j (.int .i64 y)) [.int .i64 y] y (fun _ => False) S (heap_setCell_same w1 g j _ _ _ hg1) (by simp) ?_ ?_ ?_ ⟨rfl, hy⟩ (fun _ hk _ => hk) (fun hk => hk) hSg (fun _ hk => hk.elim) s2
  · intro i hi
    rw [Array.getElem?_setIfInBounds_ne (by omega)]
  · intro i hi
    have : i = 0 := by omega
    subst this
    simp [kl]
  · intro k hk hl
    exact hch.block k hl fun e => n2 (by have e' : k = g := e; rw [← e']; exact hk)

end Go.Proofs.Ytbcggkfbahmpoaa
