
/- The contracts of lines and words of an address, of the program and of its specification. No condition. -/
import Derived.Test.YtbcggkfbahmpoaaLayout2
namespace Go.Proofs.Ytbcggkfbahmpoaa
open Go.ChangeShapes Go.WideShapes Go.ChangeAt Go.RowKit

theorem box4 {w w1 : World} {v0 v1 v2 v3 : Value} {t : TypeId} (h : Below (w.alloc (.cells #[v0, v1, v2, v3] t)).heap.size (w.alloc (.cells #[v0, v1, v2, v3] t)) w1) :
    w1.cell? ⟨w.heap.size, 0, none⟩ = some v0 ∧ w1.cell? ⟨w.heap.size, 1, none⟩ = some v1 ∧ w1.cell? ⟨w.heap.size, 2, none⟩ = some v2 ∧ w1.cell? ⟨w.heap.size, 3, none⟩ = some v3 :=
  ⟨box_cell h 0, box_cell h 1, box_cell h 2, box_cell h 3⟩

theorem addrB_eq {c s y l a : Int} (h : codeI c s y l = 0) : addrB c s y l a = betw a 0 (2 * l - 1) := by
  unfold addrB betw
  simp only [h, true_and]
  rw [Bool.eq_iff_iff]
  simp
  omega
theorem lineB_eq {c s y l a : Int} (h : codeI c s y l = 0) : lineB c s y l a = betw a 0 (l - 1) := by
  unfold lineB betw
  simp only [h, true_and]
  rw [Bool.eq_iff_iff]
  simp
  omega
theorem addrB_ne {c s y l a : Int} (h : ¬ codeI c s y l = 0) : addrB c s y l a = false := by simp [addrB, h]
theorem lineB_ne {c s y l a : Int} (h : ¬ codeI c s y l = 0) : lineB c s y l a = false := by simp [lineB, h]

theorem addrB_half (c s y l a : Int) (h : 0 ≤ a) : lineB c s y l (a / 2) = addrB c s y l a := by
  unfold addrB lineB
  rw [Bool.eq_iff_iff]
  simp
  intro _
  omega
theorem half_of {a : Int} (h : a < 9223372036854775808) (h0 : 0 ≤ a) : wrap64 (a.tdiv 2) = a / 2 := by
  rw [Int.tdiv_eq_ediv_of_nonneg h0]
  unfold wrap64
  omega
theorem addrB_neg (c s y l a : Int) (h : ¬ 0 ≤ a) : addrB c s y l a = false := by
  unfold addrB
  simp
  omega

end Go.Proofs.Ytbcggkfbahmpoaa
