
/- How much a right store holds, and what is left of one that a line is dropped out of. No program here. -/
import Derived.Test.YtbcggkfbahmpoaaMarks
import Derived.Test.YtbcggkfbahmpoaaFindW
import Derived.Test.YtbcggkfbahmpoaaDropImpl
namespace Go.Proofs.Ytbcggkfbahmpoaa
open Go.RowKit
set_option linter.unusedVariables false

theorem sumbk_le {α : Type} {M : Mk α} {K : Nat} : ∀ {xs : List α}, (∀ x ∈ xs, M.bk x ≤ K) → sumbk M xs ≤ xs.length * K
  | [], _ => by simp [sumbk]
  | x :: xs, h => by
    have h1 := sumbk_le (xs := xs) (fun y hy => h y (List.mem_cons_of_mem _ hy))
    have h2 := h x (List.mem_cons_self ..)
    have h3 : sumbk M (x :: xs) = M.bk x + sumbk M xs := by simp [sumbk]
    rw [h3, List.length_cons, Nat.add_mul]
    omega
theorem ok_bk {c : CacheD} (h : OkC isL treeB c) : cacheM.bk c ≤ 1000 := by
  have h' := h
  obtain ⟨h1, h2, m, hm, h3⟩ := h
  unfold pow3 at h1 hm
  have hw : ∀ row ∈ c.1, waysM.bk row ≤ 12 := fun row hr => by
    obtain ⟨s, hs⟩ := List.getElem?_of_mem hr
    have hl := (h3 s row hs).1
    have hu : ∀ u ∈ row, wayM.bk u ≤ 2 := fun u hu => by
      obtain ⟨j, hj⟩ := List.getElem?_of_mem hu
      have h5 := ok_len h' hs hj
      have h6 : wayM.bk u = 0 + (0 + (u.2.2.length + sumbk intM u.2.2)) := rfl
      have h7 := sumbk_ints u.2.2
      omega
    have h8 := sumbk_le hu
    have h9 : waysM.bk row = row.length + sumbk wayM row := rfl
    have h10 : row.length * 2 ≤ 8 := by omega
    omega
  have h8 := sumbk_le hw
  have hbk : cacheM.bk c = setsM.bk c.1 + intsM.bk c.2 := rfl
  have h6 : setsM.bk c.1 = c.1.length + sumbk waysM c.1 := rfl
  have h7 : intsM.bk c.2 = c.2.length + sumbk intM c.2 := rfl
  have h9 := sumbk_ints c.2
  have h10 : c.1.length * 12 ≤ 48 := by omega
  omega
theorem drop_small (c : CacheD) (line : Int) : cacheM.bk (dropI c line).1 ≤ 1000 := by
  cases hok : okB isL treeB c
  · rw [drop_bad hok]
    decide
  · have hokc := okB_iff.1 hok
    cases hat : atC c line with
    | none =>
      rw [drop_none hokc hat]
      exact ok_bk hokc
    | some i =>
      rw [drop_some hokc hat]
      exact ok_bk (drop_ok hokc hat).1
end Go.Proofs.Ytbcggkfbahmpoaa
