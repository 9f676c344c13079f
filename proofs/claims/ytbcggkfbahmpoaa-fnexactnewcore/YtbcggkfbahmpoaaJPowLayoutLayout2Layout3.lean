import Derived.Test.YtbcggkfbahmpoaaJListsOwnNumsCopies
import Derived.Test.YtbcggkfbahmpoaaJLines6OpsOpLLinesOk
import Derived.Below
import Derived.Deep.QuietTactic
import Derived.BigQuiet
import Derived.WalkSmall

/- The contracts of the functions that ask for 1, 2 or 4. No condition. -/
namespace Go.Proofs.Ytbcggkfbahmpoaa
open Go.ChangeShapes Go.WideShapes Go.ChangeAt Go.RowKit

def powB (n : Int) : Bool := decide (n = 1 ∨ n = 2 ∨ n = 4)

set_option maxHeartbeats 400000 in
theorem sizeOk_any (n : Int) (w : World) :
    Calls Try.prog 69 #[.int .i64 n] w fun e w' => e = .returned (.bool (powB n)) ∧ w' = w := by
  go_enter Try.func69, Try.ntmps69
  go_wp2
  all_goals go_ret
  all_goals refine ⟨ret_bool ?_, rfl⟩
  all_goals first | (simp_all [powB]; done) | (rw [Bool.eq_iff_iff]; simp [powB]; omega)

set_option maxHeartbeats 400000 in
theorem l2Pow_any (n : Int) (w : World) :
    Calls Try.prog 52 #[.int .i64 n] w fun e w' => e = .returned (.bool (powB n)) ∧ w' = w := by
  go_enter Try.func52, Try.ntmps52
  go_wp2
  all_goals go_ret
  all_goals refine ⟨ret_bool ?_, rfl⟩
  all_goals first | (simp_all [powB]; done) | (rw [Bool.eq_iff_iff]; simp [powB]; omega)

end Go.Proofs.Ytbcggkfbahmpoaa


/- The contracts of the layout: codes, lines, words, sets, addresses, of the program and of its specification. No condition. -/
namespace Go.Proofs.Ytbcggkfbahmpoaa
open Go.ChangeShapes Go.WideShapes Go.ChangeAt Go.RowKit

def codeI (c s y l : Int) : Int := if betw c 1 4 then (if powB s then (if powB y then (if betw l 1 16 then 0 else 4) else 3) else 2) else 1

end Go.Proofs.Ytbcggkfbahmpoaa


/- The contracts of lines, words, sets and addresses, of the program and of its specification. No condition. -/
namespace Go.Proofs.Ytbcggkfbahmpoaa
open Go.ChangeShapes Go.WideShapes Go.ChangeAt Go.RowKit

theorem code_zero {c s y l : Int} (h : codeI c s y l = 0) : (1 ≤ l ∧ l ≤ 16) ∧ (s = 1 ∨ s = 2 ∨ s = 4) := by
  unfold codeI at h
  cases h1 : betw c 1 4 <;> cases h2 : powB s <;> cases h3 : powB y <;> cases h4 : betw l 1 16 <;> simp [h1, h2, h3, h4] at h
  simp [betw] at h4
  simp [powB] at h2
  exact ⟨h4, h2⟩

def lineB (c s y l k : Int) : Bool := decide (codeI c s y l = 0 ∧ 0 ≤ k ∧ k < l)
def addrB (c s y l k : Int) : Bool := decide (codeI c s y l = 0 ∧ 0 ≤ k ∧ k < 2 * l)
def lineI (c s y l a : Int) : Int := if addrB c s y l a then a / 2 else -1
def wordNoI (c s y l a : Int) : Int := if addrB c s y l a then a % 2 else -1
def setI (c s y l k : Int) : Int := if lineB c s y l k then k % s else -1
def addrI (c s y l k x : Int) : Int := if lineB c s y l k && betw x 0 1 then 2 * k + x else -1

theorem box_cell {w w1 : World} {cs : Array Value} {t : TypeId} (h : Below (w.alloc (.cells cs t)).heap.size (w.alloc (.cells cs t)) w1) (j : Nat) : w1.cell? ⟨w.heap.size, j, none⟩ = cs[j]? := by
  rw [h.cell (by simp), cell_of_row (w.alloc (.cells cs t)) w.heap.size j cs t (0, 0) (heap_alloc_new w _)]

end Go.Proofs.Ytbcggkfbahmpoaa


/- The contracts of lines and words of an address, of the program and of its specification. No condition. -/
namespace Go.Proofs.Ytbcggkfbahmpoaa
open Go.ChangeShapes Go.WideShapes Go.ChangeAt Go.RowKit

theorem box4 {w w1 : World} {v0 v1 v2 v3 : Value} {t : TypeId} (h : Below (w.alloc (.cells #[v0, v1, v2, v3] t)).heap.size (w.alloc (.cells #[v0, v1, v2, v3] t)) w1) :
    w1.cell? ⟨w.heap.size, 0, none⟩ = some v0 ∧ w1.cell? ⟨w.heap.size, 1, none⟩ = some v1 ∧ w1.cell? ⟨w.heap.size, 2, none⟩ = some v2 ∧ w1.cell? ⟨w.heap.size, 3, none⟩ = some v3 :=
  ⟨box_cell h 0, box_cell h 1, box_cell h 2, box_cell h 3⟩

theorem addrB_eq {c s y l a : Int} (h : codeI c s y l = 0) : addrB c s y l a = betw a 0 (2 * l - 1) := by
  unfold addrB betw
  simp only [h, true_and]
  rw [Bool.eq_iff_iff]
  simp
  omega
theorem lineB_eq {c s y l a : Int} (h : codeI c s y l = 0) : lineB c s y l a = betw a 0 (l - 1) := by
  unfold lineB betw
  simp only [h, true_and]
  rw [Bool.eq_iff_iff]
  simp
  omega
theorem addrB_ne {c s y l a : Int} (h : ¬ codeI c s y l = 0) : addrB c s y l a = false := by simp [addrB, h]
theorem lineB_ne {c s y l a : Int} (h : ¬ codeI c s y l = 0) : lineB c s y l a = false := by simp [lineB, h]

theorem addrB_half (c s y l a : Int) (h : 0 ≤ a) : lineB c s y l (a / 2) = addrB c s y l a := by
  unfold addrB lineB
  rw [Bool.eq_iff_iff]
  simp
  intro _
  omega
theorem half_of {a : Int} (h : a < 9223372036854775808) (h0 : 0 ≤ a) : wrap64 (a.tdiv 2) = a / 2 := by
  rw [Int.tdiv_eq_ediv_of_nonneg h0]
  unfold wrap64
  omega
theorem addrB_neg (c s y l a : Int) (h : ¬ 0 ≤ a) : addrB c s y l a = false := by
  unfold addrB
  simp
  omega

end Go.Proofs.Ytbcggkfbahmpoaa
