
/- The contracts of the leaf functions of the sets of numbers. No condition. -/
import Derived.Test.YtpfgggjcaogkkaaNums
import Derived.WalkKit
import Derived.ProofKit
import Derived.OpenShut
namespace Go.Proofs.Ytpfgggjcaogkkaa
open Go.ChangeShapes Go.WideShapes Go.ChangeAt Go.RowKit

def setB (s : Int) : Bool := decide (0 ≤ s ∧ s ≤ 255)
def itemB (i : Int) : Bool := decide (0 ≤ i ∧ i ≤ 7)





theorem pow_small (i : Int) (h1 : 0 ≤ i) (h2 : i ≤ 7) : wrap64 (2 ^ i.toNat) = 2 ^ i.toNat := by
  have h : i = 0 ∨ i = 1 ∨ i = 2 ∨ i = 3 ∨ i = 4 ∨ i = 5 ∨ i = 6 ∨ i = 7 := by omega
  rcases h with rfl | rfl | rfl | rfl | rfl | rfl | rfl | rfl <;> decide +kernel


def memB (s i : Int) : Bool := (s / 2 ^ i.toNat) % 2 == 1
def inB (s i : Int) : Bool := setB s && itemB i && memB s i

theorem and_fin : ∀ s : Fin 256, ∀ i : Fin 8, (bits BinOp.and IntKind.i64 (s.val : Int) (2 ^ (i.val : Int).toNat) != 0) = memB (s.val : Int) (i.val : Int) := by
  decide +kernel
theorem and_mem (s i : Int) (h7 : 0 ≤ s) (h8 : s ≤ 255) (h5 : 0 ≤ i) (h6 : i ≤ 7) :
    (bits BinOp.and IntKind.i64 s (2 ^ i.toNat) != 0) = memB s i := by
  have := and_fin ⟨s.toNat, by omega⟩ ⟨i.toNat, by omega⟩
  simpa [Int.toNat_of_nonneg h7, Int.toNat_of_nonneg h5] using this
theorem tmod_mem (s i : Int) (h7 : 0 ≤ s) : ((s / 2 ^ i.toNat).tmod 2 == 1) = memB s i := by
  unfold memB
  rw [Int.tmod_eq_emod_of_nonneg (Int.ediv_nonneg h7 (Int.pow_nonneg (by decide)))]

theorem setB_bd {s : Int} (h : setB s = true) : 0 ≤ s ∧ s ≤ 255 := by simpa [setB] using h
theorem itemB_bd {i : Int} (h : itemB i = true) : 0 ≤ i ∧ i ≤ 7 := by simpa [itemB] using h




end Go.Proofs.Ytpfgggjcaogkkaa
