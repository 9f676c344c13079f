/- Plain facts on sets of numbers: what With and Without turn, and that members rise and are those that are in. No condition. -/
import Derived.Test.YtlbolnbchijknaaChange
import Derived.Test.YtlbolnbchijknaaMembers
namespace Go.Proofs.Ytlbolnbchijknaa
open Go.RowKit

theorem or_fin : ∀ s : Fin 256, ∀ i : Fin 8, 0 ≤ orI (s.val : Int) (i.val : Int) ∧ orI (s.val : Int) (i.val : Int) ≤ 255 ∧ ∀ k : Fin 8, memB (orI (s.val : Int) (i.val : Int)) (k.val : Int) = (memB (s.val : Int) (k.val : Int) || k == i) := by
  decide +kernel
theorem andNot_fin : ∀ s : Fin 256, ∀ i : Fin 8, 0 ≤ andNotI (s.val : Int) (i.val : Int) ∧ andNotI (s.val : Int) (i.val : Int) ≤ 255 ∧ ∀ k : Fin 8, memB (andNotI (s.val : Int) (i.val : Int)) (k.val : Int) = (memB (s.val : Int) (k.val : Int) && !(k == i)) := by
  decide +kernel

theorem fin_eq (k i : Int) (hk : 0 ≤ k ∧ k ≤ 7) (hi : 0 ≤ i ∧ i ≤ 7) : ((⟨k.toNat, by omega⟩ : Fin 8) == ⟨i.toNat, by omega⟩) = decide (k = i) := by
  rw [Bool.eq_iff_iff]
  simp
  omega

theorem with_in_iff (s i k : Int) (hs : setB s = true) : inB (withI s i) k = (inB s k || (decide (k = i) && itemB i)) := by
  have hsb := setB_bd hs
  cases hi : itemB i
  · simp [withI, hs, hi]
  · have hib := itemB_bd hi
    obtain ⟨o1, o2, o3⟩ := or_fin ⟨s.toNat, by omega⟩ ⟨i.toNat, by omega⟩
    simp only [Int.toNat_of_nonneg hsb.1, Int.toNat_of_nonneg hib.1] at o1 o2 o3
    have hw : withI s i = orI s i := by simp [withI, hs, hi]
    have hset : setB (orI s i) = true := by simp [setB, o1, o2]
    cases hk : itemB k
    · have : k ≠ i := fun e => by rw [e, hi] at hk; cases hk
      simp [inB, hk, this]
    · have hkb := itemB_bd hk
      have := o3 ⟨k.toNat, by omega⟩
      simp only [Int.toNat_of_nonneg hkb.1] at this
      rw [fin_eq k i hkb hib] at this
      simp [inB, hw, hset, hs, hk, this]

theorem without_in_iff (s i k : Int) (hs : setB s = true) : inB (withoutI s i) k = (inB s k && !(decide (k = i))) := by
  have hsb := setB_bd hs
  cases hi : itemB i
  · have hw : withoutI s i = s := by simp [withoutI, hs, hi]
    rw [hw]
    cases hk : itemB k
    · simp [inB, hk]
    · have : k ≠ i := fun e => by rw [e, hi] at hk; cases hk
      simp [this]
  · have hib := itemB_bd hi
    obtain ⟨o1, o2, o3⟩ := andNot_fin ⟨s.toNat, by omega⟩ ⟨i.toNat, by omega⟩
    simp only [Int.toNat_of_nonneg hsb.1, Int.toNat_of_nonneg hib.1] at o1 o2 o3
    have hw : withoutI s i = andNotI s i := by simp [withoutI, hs, hi]
    have hset : setB (andNotI s i) = true := by simp [setB, o1, o2]
    cases hk : itemB k
    · simp [inB, hk]
    · have hkb := itemB_bd hk
      have := o3 ⟨k.toNat, by omega⟩
      simp only [Int.toNat_of_nonneg hkb.1] at this
      rw [fin_eq k i hkb hib] at this
      simp [inB, hw, hset, hs, hk, this]

theorem with_nonneg (s i : Int) : 0 ≤ withI s i ↔ setB s = true := by
  cases hs : setB s
  · simp [withI, hs]
  · have hsb := setB_bd hs
    cases hi : itemB i
    · simp [withI, hs, hi, hsb.1]
    · have hib := itemB_bd hi
      obtain ⟨o1, o2, o3⟩ := or_fin ⟨s.toNat, by omega⟩ ⟨i.toNat, by omega⟩
      simp only [Int.toNat_of_nonneg hsb.1, Int.toNat_of_nonneg hib.1] at o1
      simp [withI, hs, hi, o1]

theorem mem_mems (s : Int) : ∀ (m : Nat) (k : Int), k ∈ mems s m ↔ inB s k = true ∧ 0 ≤ k ∧ k < m
  | 0, k => by simp [mems]
  | m + 1, k => by
    have ih := mem_mems s m k
    cases h : inB s m
    · rw [mems_miss h, ih]
      constructor
      · rintro ⟨a, b, c⟩; exact ⟨a, b, by omega⟩
      · rintro ⟨a, b, c⟩
        refine ⟨a, b, ?_⟩
        by_cases e : k = m
        · rw [e, h] at a; cases a
        · omega
    · rw [mems_hit h, List.mem_append, ih, List.mem_singleton]
      constructor
      · rintro (⟨a, b, c⟩ | rfl)
        · exact ⟨a, b, by omega⟩
        · exact ⟨h, by omega, by omega⟩
      · rintro ⟨a, b, c⟩
        by_cases e : k = m
        · exact .inr e
        · exact .inl ⟨a, b, by omega⟩

theorem has_mems (s k : Int) : decide (k ∈ mems s 8) = inB s k := by
  rw [Bool.eq_iff_iff, decide_eq_true_iff, mem_mems]
  constructor
  · exact fun h => h.1
  · intro h
    have : itemB k = true := by simp [inB] at h; exact h.1.2
    have := itemB_bd this
    exact ⟨h, by omega, by omega⟩

theorem mems_pair (s : Int) : ∀ m : Nat, (mems s m).Pairwise (· < ·)
  | 0 => by simp [mems]
  | m + 1 => by
    have ih := mems_pair s m
    cases h : inB s m
    · rw [mems_miss h]; exact ih
    · rw [mems_hit h, List.pairwise_append]
      refine ⟨ih, by simp, fun a ha b hb => ?_⟩
      rw [List.mem_singleton] at hb
      have := ((mem_mems s m a).1 ha).2.2
      omega

theorem mems_none (s : Int) (hs : setB s = false) : mems s 8 = [] := by
  refine List.eq_nil_iff_forall_not_mem.2 fun k hk => ?_
  have := ((mem_mems s 8 k).1 hk).1
  simp [inB, hs] at this

end Go.Proofs.Ytlbolnbchijknaa
