
/- The contracts of lines, words, sets and addresses, of the program and of its specification. No condition. -/
import Derived.Test.YtbcggkfbahmpoaaLayout
import Derived.Deep.QuietTactic
import Derived.BigQuiet
import Derived.WalkSmall
namespace Go.Proofs.Ytbcggkfbahmpoaa
open Go.ChangeShapes Go.WideShapes Go.ChangeAt Go.RowKit

theorem code_zero {c s y l : Int} (h : codeI c s y l = 0) : (1 ≤ l ∧ l ≤ 16) ∧ (s = 1 ∨ s = 2 ∨ s = 4) := by
  unfold codeI at h
  cases h1 : betw c 1 4 <;> cases h2 : powB s <;> cases h3 : powB y <;> cases h4 : betw l 1 16 <;> simp [h1, h2, h3, h4] at h
  simp [betw] at h4
  simp [powB] at h2
  exact ⟨h4, h2⟩

def lineB (c s y l k : Int) : Bool := decide (codeI c s y l = 0 ∧ 0 ≤ k ∧ k < l)
def addrB (c s y l k : Int) : Bool := decide (codeI c s y l = 0 ∧ 0 ≤ k ∧ k < 2 * l)
def lineI (c s y l a : Int) : Int := if addrB c s y l a then a / 2 else -1
def wordNoI (c s y l a : Int) : Int := if addrB c s y l a then a % 2 else -1
def setI (c s y l k : Int) : Int := if lineB c s y l k then k % s else -1
def addrI (c s y l k x : Int) : Int := if lineB c s y l k && betw x 0 1 then 2 * k + x else -1

theorem box_cell {w w1 : World} {cs : Array Value} {t : TypeId} (h : Below (w.alloc (.cells cs t)).heap.size (w.alloc (.cells cs t)) w1) (j : Nat) : w1.cell? ⟨w.heap.size, j, none⟩ = cs[j]? := by
  rw [h.cell (by simp), cell_of_row (w.alloc (.cells cs t)) w.heap.size j cs t (0, 0) (heap_alloc_new w _)]

end Go.Proofs.Ytbcggkfbahmpoaa
