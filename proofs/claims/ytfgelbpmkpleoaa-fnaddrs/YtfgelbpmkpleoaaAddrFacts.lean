/- Plain facts on lines, words, addresses and sets of a layout. No condition but those that each states. -/
import Derived.Test.YtfgelbpmkpleoaaLayout4
namespace Go.Proofs.Ytfgelbpmkpleoaa

theorem addr_back {c s y l a : Int} (h : 0 ≤ lineI c s y l a) : addrI c s y l (lineI c s y l a) (wordI c s y l a) = a ∧ 0 ≤ wordI c s y l a ∧ wordI c s y l a ≤ 1 ∧ lineI c s y l a < l := by
  cases hb : addrB c s y l a
  · simp [lineI, hb] at h
  · have e1 : lineI c s y l a = a / 2 := by simp [lineI, hb]
    have e2 : wordI c s y l a = a % 2 := by simp [wordI, hb]
    have h0 : 0 ≤ a ∧ a < 2 * l := by simp [addrB] at hb; exact hb.2
    have hl : lineB c s y l (a / 2) = true := by rw [addrB_half _ _ _ _ _ h0.1, hb]
    have hx : betw (a % 2) 0 1 = true := by simp [betw]; omega
    rw [e1, e2]
    refine ⟨?_, by omega, by omega, by omega⟩
    simp only [addrI, hl, hx, Bool.and_self, if_true]
    omega

theorem addr_split {c s y l k x : Int} (h : 0 ≤ addrI c s y l k x) : lineI c s y l (addrI c s y l k x) = k ∧ wordI c s y l (addrI c s y l k x) = x ∧ addrI c s y l k x ≤ 31 := by
  cases hb : lineB c s y l k
  · simp [addrI, hb] at h
  · cases hx : betw x 0 1
    · simp [addrI, hb, hx] at h
    · have e : addrI c s y l k x = 2 * k + x := by simp [addrI, hb, hx]
      have hx' : 0 ≤ x ∧ x ≤ 1 := by simpa [betw] using hx
      have hl : codeI c s y l = 0 ∧ 0 ≤ k ∧ k < l := by simpa [lineB] using hb
      have hc := (code_zero hl.1).1
      have ha : addrB c s y l (2 * k + x) = true := by
        simp only [addrB, decide_eq_true_eq]
        exact ⟨hl.1, by omega, by omega⟩
      rw [e]
      simp only [lineI, wordI, ha, if_true]
      omega

theorem set_mod {c s y l k : Int} (h : 0 ≤ setI c s y l k) : setI c s y l k < s ∧ (k - setI c s y l k).tmod s = 0 ∧ 0 < s ∧ s ≤ 4 ∧ setI c s y l k ≤ k ∧ k ≤ 15 := by
  cases hb : lineB c s y l k
  · simp [setI, hb] at h
  · obtain ⟨h1, h2, h3, h4⟩ := lineB_true hb
    have e : setI c s y l k = k % s := by simp [setI, hb]
    rw [e]
    rcases h4 with rfl | rfl | rfl
    · rw [Int.tmod_eq_emod_of_nonneg (by omega)]; omega
    · rw [Int.tmod_eq_emod_of_nonneg (by omega)]; omega
    · rw [Int.tmod_eq_emod_of_nonneg (by omega)]; omega

end Go.Proofs.Ytfgelbpmkpleoaa
