/- Plain facts on who holds a line: rising, who is forgotten is among them no more and all others are. No program in it. -/
import Derived.Test.YtlbolnbchijknaaHoldFacts
import Derived.Test.YtlbolnbchijknaaSetFacts
namespace Go.Proofs.Ytlbolnbchijknaa
open Go.ChangeShapes Go.WideShapes Go.ChangeAt Go.RowKit
set_option linter.unusedVariables false

theorem in_zero (i : Int) : inB 0 i = false := by
  cases hi : itemB i
  · simp [inB, hi]
  · obtain ⟨h0, h1⟩ := itemB_bd hi
    have : ∀ i : Fin 8, inB 0 (i.val : Int) = false := by decide +kernel
    have := this ⟨i.toNat, by omega⟩
    simpa [Int.toNat_of_nonneg h0] using this
theorem ho_has {o s i : Int} (h : whoB o s = true) : decide (i ∈ hoI o s) = ((o == i && betw i 0 3) || inB s i) := by
  have hb := who_bd h
  by_cases ho : 0 ≤ o
  · have hs := who_alone h ho
    subst hs
    rw [in_zero, show hoI o 0 = [o] from if_pos ho]
    rw [Bool.eq_iff_iff]
    simp [betw]
    omega
  · rw [show hoI o s = mems s 8 from if_neg ho, has_mems]
    have : (o == i && betw i 0 3) = false := by
      simp [betw]
      omega
    rw [this]
    rfl
theorem ho_rises {o s : Int} : (hoI o s).Pairwise (· < ·) := by
  unfold hoI
  split
  · simp
  · exact mems_pair s 8
theorem fgS_has_fin : ∀ s : Fin 16, ∀ c : Fin 8, ∀ i : Fin 8, inB (fgS (s.val : Int) (c.val : Int)) (i.val : Int) = (inB (s.val : Int) (i.val : Int) && decide (i ≠ c)) := by decide +kernel
theorem fgS_has {s c i : Int} (h0 : 0 ≤ s) (h1 : s ≤ 15) (i0 : 0 ≤ i) (i1 : i ≤ 7) : inB (fgS s c) i = (inB s i && decide (i ≠ c)) := by
  cases hc : itemB c
  · rw [fgS_out hc]
    have : i ≠ c := fun e => by subst e; simp [itemB] at hc; omega
    simp [this]
  · obtain ⟨c0, c1⟩ := itemB_bd hc
    have := fgS_has_fin ⟨s.toNat, by omega⟩ ⟨c.toNat, by omega⟩ ⟨i.toNat, by omega⟩
    simp only [Int.toNat_of_nonneg h0, Int.toNat_of_nonneg c0, Int.toNat_of_nonneg i0] at this
    rw [this]
    congr 1
    rw [decide_eq_decide]
    simp only [ne_eq, Fin.mk.injEq]
    omega
theorem fg_has {o s c i : Int} (h : whoB o s = true) (i0 : 0 ≤ i) (i1 : i ≤ 3) : decide (i ∈ hoI (fgO o c) (fgS s c)) = (decide (i ∈ hoI o s) && decide (i ≠ c)) := by
  have hb := who_bd h
  rw [ho_has h, ho_has (fg_who c h), fgS_has hb.2.2.1 hb.2.2.2 i0 (by omega)]
  have hi : betw i 0 3 = true := by simp [betw]; omega
  rw [hi, Bool.and_true, Bool.and_true, Bool.and_or_distrib_right]
  congr 1
  unfold fgO ownB
  rw [Bool.eq_iff_iff]
  by_cases hc : (betw c 0 3 && decide (c = o)) = true
  · rw [if_pos hc]
    simp [betw] at hc ⊢
    omega
  · rw [if_neg hc]
    simp [betw] at hc ⊢
    intro e
    omega
theorem for_ok {u : EntryD} (c : Int) (h : entB u = true) : entB (forD u c) = true := by
  have e : forD u c = (fgO u.1 c, fgS u.2.1 c, u.2.2.1, u.2.2.2.1, u.2.2.2.2.1, u.2.2.2.2.2.1, u.2.2.2.2.2.2.1, u.2.2.2.2.2.2.2) := by unfold forD; rw [h]; rfl
  have hu : (whoB u.1 u.2.1 && (if u.2.2.1 then busyB u.2.2.2.1 u.2.2.2.2.1 u.2.2.2.2.2.1 u.2.2.2.2.2.2.1 u.2.2.2.2.2.2.2 else restB u.2.2.2.1 u.2.2.2.2.1 u.2.2.2.2.2.1 u.2.2.2.2.2.2.1 u.2.2.2.2.2.2.2)) = true := h
  rw [e, eb, Bool.and_eq_true]
  rw [Bool.and_eq_true] at hu
  exact ⟨fg_who c hu.1, hu.2⟩
theorem new_ok_ent : entB newE = true := by decide +kernel
/-- What FnEntries asks of one core, by the entry's lists. -/
theorem ent_round {o s c : Int} {k : Nat} (h : whoB o s = true) (hk : k < 4) :
    (decide ((k : Int) ∈ hoI (fgO o c) (fgS s c)) = (decide ((k : Int) ∈ hoI o s) && ((k : Int) != c))) ∧ (decide ((k : Int) ∈ hoI o s) = ((o == (k : Int)) || inB s k)) := by
  constructor
  · rw [fg_has h (by omega) (by omega)]
    congr 1
    rw [Bool.eq_iff_iff]
    simp
  · rw [ho_has h]
    have hi : betw (k : Int) 0 3 = true := by simp [betw]; omega
    rw [hi, Bool.and_true]
end Go.Proofs.Ytlbolnbchijknaa
