
/- Whether all ways of a store are right, of the program: by the iterator over all ways. Condition: a store of the right shape. -/
import Derived.Test.YtpfgggjcaogkkaaShape
namespace Go.Proofs.Ytpfgggjcaogkkaa
open Go.ChangeShapes Go.WideShapes Go.ChangeAt Go.RowKit Go.Shelf
set_option linter.unusedVariables false
attribute [local go_sem] Oper.semAt_some

def wayK (c : CacheD) (m k : Nat) : WayD := (c.1.getD (k / m) []).getD (k % m) emptyW
def UptoOk (c : CacheD) (m k : Nat) : Prop :=
  ∀ j, j < k → clearB (wayK c m j) = true ∨ (fullB isL (wayK c m j) = true ∧ (wayK c m j).1 % (c.1.length : Int) = (j / m : Nat) ∧ ∀ i, i < j → (wayK c m i).1 ≠ (wayK c m j).1)
open Classical in
noncomputable def seenB (c : CacheD) (m k : Nat) (x : Nat) : Bool := decide (∃ j, j < k ∧ (wayK c m j).1 = (x : Int))
open Classical in
noncomputable def waysB (c : CacheD) (m : Nat) : Bool := decide (UptoOk c m (c.1.length * m))
theorem waysB_yes {c : CacheD} {m : Nat} (h : UptoOk c m (c.1.length * m)) : waysB c m = true := by simp [waysB, h]
theorem waysB_no {c : CacheD} {m : Nat} (h : ¬ UptoOk c m (c.1.length * m)) : waysB c m = false := by simp [waysB, h]

theorem upto_next {c : CacheD} {m k : Nat} (h : UptoOk c m k) (hn : clearB (wayK c m k) = true ∨ (fullB isL (wayK c m k) = true ∧ (wayK c m k).1 % (c.1.length : Int) = (k / m : Nat) ∧ ∀ i, i < k → (wayK c m i).1 ≠ (wayK c m k).1)) : UptoOk c m (k + 1) := fun j hj => by
  by_cases he : j < k
  · exact h j he
  · have : j = k := by omega
    subst this
    exact hn
theorem upto_not {c : CacheD} {m k : Nat} (hk : k < c.1.length * m) (hc : clearB (wayK c m k) = false) (hn : ¬ (fullB isL (wayK c m k) = true ∧ (wayK c m k).1 % (c.1.length : Int) = (k / m : Nat) ∧ ∀ i, i < k → (wayK c m i).1 ≠ (wayK c m k).1)) : waysB c m = false := waysB_no fun h => by
  rcases h k hk with h | h
  · rw [hc] at h
    cases h
  · exact hn h
theorem seen_zero {c : CacheD} {m x : Nat} : seenB c m 0 x = false := by simp [seenB]
theorem seen_same {c : CacheD} {m k x : Nat} (h : clearB (wayK c m k) = true) : seenB c m (k + 1) x = seenB c m k x := by
  have : (∃ j, j < k + 1 ∧ (wayK c m j).1 = (x : Int)) ↔ ∃ j, j < k ∧ (wayK c m j).1 = (x : Int) := by
    constructor
    · rintro ⟨j, hj, e⟩
      by_cases he : j < k
      · exact ⟨j, he, e⟩
      · have : j = k := by omega
        subst this
        rw [clear_eq h] at e
        simp [emptyW] at e
    · rintro ⟨j, hj, e⟩
      exact ⟨j, by omega, e⟩
  simp only [seenB, this]
theorem seen_next {c : CacheD} {m k x y : Nat} (h : (wayK c m k).1 = (y : Int)) : seenB c m (k + 1) x = (decide (x = y) || seenB c m k x) := by
  have : (∃ j, j < k + 1 ∧ (wayK c m j).1 = (x : Int)) ↔ (x = y ∨ ∃ j, j < k ∧ (wayK c m j).1 = (x : Int)) := by
    constructor
    · rintro ⟨j, hj, e⟩
      by_cases he : j < k
      · exact .inr ⟨j, he, e⟩
      · have : j = k := by omega
        subst this
        rw [h] at e
        left
        omega
    · rintro (rfl | ⟨j, hj, e⟩)
      · exact ⟨k, by omega, h⟩
      · exact ⟨j, by omega, e⟩
  simp only [seenB, this, Bool.decide_or]
theorem seen_iff {c : CacheD} {m k x : Nat} : seenB c m k x = true ↔ ∃ j, j < k ∧ (wayK c m j).1 = (x : Int) := by simp [seenB]

theorem setsAt_below {w w' : World} {b0 off0 s m : Nat} {cc : Nat → SCells} (h : SetsAt w b0 off0 s m cc) (hb : Below w.heap.size w w') (hm : 0 < m) : SetsAt w' b0 off0 s m cc := by
  by_cases hs : 0 < s
  · exact setsAt_keep h (hb.block _ (cell_lt (h 0 hs).1)) (fun i hi => hb.block _ (rowAt_lt (h i hi).2 hm))
  · exact fun i hi => by omega

theorem wayK_get {c : CacheD} {m k : Nat} (hm : 0 < m) (hrow : ∀ row ∈ c.1, row.length = m) (hk : k < c.1.length * m) : ∃ row, c.1[k / m]? = some row ∧ row[k % m]? = some (wayK c m k) := by
  have h1 : k / m < c.1.length := by rw [Nat.div_lt_iff_lt_mul hm]; exact hk
  have h2 : k % m < m := Nat.mod_lt _ hm
  refine ⟨_, List.getElem?_eq_getElem h1, ?_⟩
  have h3 := hrow _ (List.getElem_mem h1)
  have e1 : c.1.getD (k / m) [] = c.1[k / m] := by rw [List.getD_eq_getElem?_getD, List.getElem?_eq_getElem h1]; rfl
  have : k % m < (c.1[k / m]).length := by omega
  rw [List.getElem?_eq_getElem this]
  unfold wayK
  rw [e1, List.getD_eq_getElem?_getD, List.getElem?_eq_getElem this]
  rfl


theorem grown_at (W : World) (g o : Nat) (v : Value) : W.grownBy (W.setCell ⟨g, o, none⟩ v) (some g) := ⟨rfl, rfl, rfl, by simp, fun k _ hk => heap_setCell_other W ⟨g, o, none⟩ k v (fun e => hk (by simp [e]))⟩

end Go.Proofs.Ytpfgggjcaogkkaa
