/- Plain facts on trees: what was touched is not who goes; ways that go and are touched come in turn; who goes is not kept. No condition but that it is a tree. -/
import Derived.Test.YtlekomdloiamhaaTree5
namespace Go.Proofs.Ytlekomdloiamhaa
open Go.RowKit

def gI (x n : Int) : Nat → Int
  | 0 => 0
  | j + 1 => orI (gI x n j) (vbI x n (gI x n j))

def tK (t n : Int) : Nat → Int
  | 0 => t
  | j + 1 => tuI (tK t n j) n (viI (tK t n j) n)
def sK (t n : Int) : Nat → List Int
  | 0 => []
  | j + 1 => sK t n j ++ [viI (tK t n j) n]
theorem sK_len (t n : Int) : ∀ j, (sK t n j).length = j
  | 0 => rfl
  | j + 1 => by simp [sK, sK_len t n j]

theorem tf4 : ∀ t : Fin 8, ∀ y : Fin 4, treeB (touI t.val 4 y.val) 4 = true ∧ tuI (touI t.val 4 y.val) 4 y.val = touI t.val 4 y.val ∧ viI (touI t.val 4 y.val) 4 ≠ y.val ∧
    (∀ j : Fin 3, 0 ≤ vbI (touI t.val 4 y.val) 4 (gI (touI t.val 4 y.val) 4 j.val) ∧ vbI (touI t.val 4 y.val) 4 (gI (touI t.val 4 y.val) 4 j.val) ≤ 3 ∧ vbI (touI t.val 4 y.val) 4 (gI (touI t.val 4 y.val) 4 j.val) ≠ y.val) ∧
    vbI (touI t.val 4 y.val) 4 (gI (touI t.val 4 y.val) 4 3) = y.val := by decide +kernel
theorem tf2 : ∀ t : Fin 2, ∀ y : Fin 2, treeB (touI t.val 2 y.val) 2 = true ∧ tuI (touI t.val 2 y.val) 2 y.val = touI t.val 2 y.val ∧ viI (touI t.val 2 y.val) 2 ≠ y.val ∧
    (∀ j : Fin 1, 0 ≤ vbI (touI t.val 2 y.val) 2 (gI (touI t.val 2 y.val) 2 j.val) ∧ vbI (touI t.val 2 y.val) 2 (gI (touI t.val 2 y.val) 2 j.val) ≤ 3 ∧ vbI (touI t.val 2 y.val) 2 (gI (touI t.val 2 y.val) 2 j.val) ≠ y.val) ∧
    vbI (touI t.val 2 y.val) 2 (gI (touI t.val 2 y.val) 2 1) = y.val := by decide +kernel

theorem tree_lo {t n : Int} (h : treeB t n = true) : 0 ≤ t := by
  simp [treeB] at h
  omega

theorem touch_facts {t n y : Int} (h1 : treeB t n = true) (h2 : betw y 0 (n - 1) = true) :
    treeB (touI t n y) n = true ∧ tuI (touI t n y) n y = touI t n y ∧ (1 < n → viI (touI t n y) n ≠ y) ∧
    (∀ j : Nat, (j : Int) + 1 < n → 0 ≤ vbI (touI t n y) n (gI (touI t n y) n j) ∧ vbI (touI t n y) n (gI (touI t n y) n j) ≤ 3 ∧ vbI (touI t n y) n (gI (touI t n y) n j) ≠ y) ∧
    (1 < n → ∀ j : Nat, (j : Int) + 1 = n → vbI (touI t n y) n (gI (touI t n y) n j) = y) := by
  have h5 := h1
  simp [treeB] at h5
  have h6 : 0 ≤ y ∧ y ≤ n - 1 := by simpa [betw] using h2
  rcases tree_pow h1 with rfl | rfl | rfl
  · have e1 : t = 0 := by omega
    have e2 : y = 0 := by omega
    subst e1 e2
    refine ⟨by decide +kernel, by decide +kernel, by omega, fun j hj => by omega, by omega⟩
  · obtain ⟨f1, f2, f3, f4, f5⟩ := tf2 ⟨t.toNat, by omega⟩ ⟨y.toNat, by omega⟩
    simp only [Int.toNat_of_nonneg (show 0 ≤ t by omega), Int.toNat_of_nonneg h6.1] at f1 f2 f3 f4 f5
    refine ⟨f1, f2, fun _ => f3, fun j hj => ?_, fun _ j hj => ?_⟩
    · exact f4 ⟨j, by omega⟩
    · obtain rfl : j = 1 := by omega
      exact f5
  · obtain ⟨f1, f2, f3, f4, f5⟩ := tf4 ⟨t.toNat, by omega⟩ ⟨y.toNat, by omega⟩
    simp only [Int.toNat_of_nonneg (show 0 ≤ t by omega), Int.toNat_of_nonneg h6.1] at f1 f2 f3 f4 f5
    refine ⟨f1, f2, fun _ => f3, fun j hj => ?_, fun _ j hj => ?_⟩
    · exact f4 ⟨j, by omega⟩
    · obtain rfl : j = 3 := by omega
      exact f5

theorem vf4 : ∀ t : Fin 8, (∀ j : Fin 4, treeB (tK t.val 4 j.val) 4 = true ∧ 0 ≤ viI (tK t.val 4 j.val) 4 ∧ viI (tK t.val 4 j.val) 4 < 4 ∧ viI (tK t.val 4 j.val) 4 ∉ sK t.val 4 j.val) ∧
    viI (tK t.val 4 4) 4 = (sK t.val 4 4).getD 0 0 := by decide +kernel
theorem vf2 : ∀ t : Fin 2, (∀ j : Fin 2, treeB (tK t.val 2 j.val) 2 = true ∧ 0 ≤ viI (tK t.val 2 j.val) 2 ∧ viI (tK t.val 2 j.val) 2 < 2 ∧ viI (tK t.val 2 j.val) 2 ∉ sK t.val 2 j.val) ∧
    viI (tK t.val 2 2) 2 = (sK t.val 2 2).getD 0 0 := by decide +kernel
theorem vf1 : (∀ j : Fin 1, treeB (tK 0 1 j.val) 1 = true ∧ 0 ≤ viI (tK 0 1 j.val) 1 ∧ viI (tK 0 1 j.val) 1 < 1 ∧ viI (tK 0 1 j.val) 1 ∉ sK 0 1 j.val) ∧
    viI (tK 0 1 1) 1 = (sK 0 1 1).getD 0 0 := by decide +kernel

theorem turn_facts {t n : Int} (h1 : treeB t n = true) :
    (∀ j : Nat, (j : Int) < n → 0 ≤ viI (tK t n j) n ∧ viI (tK t n j) n < n ∧ viI (tK t n j) n ∉ sK t n j) ∧ (∀ j : Nat, (j : Int) = n → viI (tK t n j) n = (sK t n j).getD 0 0) := by
  have h5 := h1
  simp [treeB] at h5
  rcases tree_pow h1 with rfl | rfl | rfl
  · have e1 : t = 0 := by omega
    subst e1
    obtain ⟨f1, f2⟩ := vf1
    refine ⟨fun j hj => (f1 ⟨j, by omega⟩).2, fun j hj => ?_⟩
    obtain rfl : j = 1 := by omega
    exact f2
  · obtain ⟨f1, f2⟩ := vf2 ⟨t.toNat, by omega⟩
    simp only [Int.toNat_of_nonneg (show 0 ≤ t by omega)] at f1 f2
    refine ⟨fun j hj => (f1 ⟨j, by omega⟩).2, fun j hj => ?_⟩
    obtain rfl : j = 2 := by omega
    exact f2
  · obtain ⟨f1, f2⟩ := vf4 ⟨t.toNat, by omega⟩
    simp only [Int.toNat_of_nonneg (show 0 ≤ t by omega)] at f1 f2
    refine ⟨fun j hj => (f1 ⟨j, by omega⟩).2, fun j hj => ?_⟩
    obtain rfl : j = 4 := by omega
    exact f2

theorem kf4 : ∀ t : Fin 8, ∀ k : Fin 256, (vbI t.val 4 k.val = -1 ∧ (k.val : Int).tmod 16 = 15) ∨ (0 ≤ vbI t.val 4 k.val ∧ vbI t.val 4 k.val < 4 ∧ inB k.val (vbI t.val 4 k.val) = false) := by decide +kernel
theorem kf2 : ∀ t : Fin 2, ∀ k : Fin 256, (vbI t.val 2 k.val = -1 ∧ (k.val : Int).tmod 4 = 3) ∨ (0 ≤ vbI t.val 2 k.val ∧ vbI t.val 2 k.val < 2 ∧ inB k.val (vbI t.val 2 k.val) = false) := by decide +kernel
theorem kf1 : ∀ k : Fin 256, (vbI 0 1 k.val = -1 ∧ (k.val : Int).tmod 2 = 1) ∨ (0 ≤ vbI 0 1 k.val ∧ vbI 0 1 k.val < 1 ∧ inB k.val (vbI 0 1 k.val) = false) := by decide +kernel

/- What VictimBut tells: three ways. -/
theorem but_ways (t n k : Int) :
    (0 ≤ vbI t n k ∧ vbI t n k < n ∧ inB k (vbI t n k) = false) ∨
    (vbI t n k = -1 ∧ (treeB t n = false ∨ (treeB t n = true ∧ (k < 0 ∨ (0 ≤ k ∧ 255 < k))) ∨ (treeB t n = true ∧ 0 ≤ k ∧ k ≤ 255 ∧ ((n = 1 ∧ k.tmod 2 = 1) ∨ (n = 2 ∧ k.tmod 4 = 3) ∨ (n = 4 ∧ k.tmod 16 = 15))))) := by
  cases h1 : treeB t n
  · exact .inr ⟨by simp [vbI, h1], .inl rfl⟩
  cases h2 : setB k
  · refine .inr ⟨by simp [vbI, h2], .inr (.inl ⟨rfl, ?_⟩)⟩
    simp [setB] at h2
    omega
  have h5 := h1
  simp [treeB] at h5
  have hk := setB_bd h2
  rcases tree_pow h1 with rfl | rfl | rfl
  · have e1 : t = 0 := by omega
    subst e1
    have := kf1 ⟨k.toNat, by omega⟩
    simp only [Int.toNat_of_nonneg hk.1] at this
    rcases this with ⟨a, b⟩ | h
    · exact .inr ⟨a, .inr (.inr ⟨rfl, hk.1, hk.2, .inl ⟨rfl, b⟩⟩)⟩
    · exact .inl h
  · have := kf2 ⟨t.toNat, by omega⟩ ⟨k.toNat, by omega⟩
    simp only [Int.toNat_of_nonneg (show 0 ≤ t by omega), Int.toNat_of_nonneg hk.1] at this
    rcases this with ⟨a, b⟩ | h
    · exact .inr ⟨a, .inr (.inr ⟨rfl, hk.1, hk.2, .inr (.inl ⟨rfl, b⟩)⟩)⟩
    · exact .inl h
  · have := kf4 ⟨t.toNat, by omega⟩ ⟨k.toNat, by omega⟩
    simp only [Int.toNat_of_nonneg (show 0 ≤ t by omega), Int.toNat_of_nonneg hk.1] at this
    rcases this with ⟨a, b⟩ | h
    · exact .inr ⟨a, .inr (.inr ⟨rfl, hk.1, hk.2, .inr (.inr ⟨rfl, b⟩)⟩)⟩
    · exact .inl h

end Go.Proofs.Ytlekomdloiamhaa
