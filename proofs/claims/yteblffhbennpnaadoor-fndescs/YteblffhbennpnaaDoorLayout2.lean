
/- The contracts of lines, words, sets and addresses, of the program and of its specification. No condition. -/
import Derived.Test.YteblffhbennpnaaDoorLayout
import Derived.Deep.QuietTactic
import Derived.BigQuiet
import Derived.WalkSmall
namespace Go.Proofs.YteblffhbennpnaaDoor
open Go.ChangeShapes Go.WideShapes Go.ChangeAt Go.RowKit

theorem code_zero {c s y l : Int} (h : codeI c s y l = 0) : (1 ≤ l ∧ l ≤ 16) ∧ (s = 1 ∨ s = 2 ∨ s = 4) := by
  unfold codeI at h
  cases h1 : betw c 1 4 <;> cases h2 : powB s <;> cases h3 : powB y <;> cases h4 : betw l 1 16 <;> simp [h1, h2, h3, h4] at h
  simp [betw] at h4
  simp [powB] at h2
  exact ⟨h4, h2⟩

def lineB (c s y l k : Int) : Bool := decide (codeI c s y l = 0 ∧ 0 ≤ k ∧ k < l)
def addrB (c s y l k : Int) : Bool := decide (codeI c s y l = 0 ∧ 0 ≤ k ∧ k < 2 * l)
def lineI (c s y l a : Int) : Int := if addrB c s y l a then a / 2 else -1
def wordNoI (c s y l a : Int) : Int := if addrB c s y l a then a % 2 else -1
def setI (c s y l k : Int) : Int := if lineB c s y l k then k % s else -1
def addrI (c s y l k x : Int) : Int := if lineB c s y l k && betw x 0 1 then 2 * k + x else -1

theorem box_cell {w w1 : World} {cs : Array Value} {t : TypeId} (h : Below (w.alloc (.cells cs t)).heap.size (w.alloc (.cells cs t)) w1) (j : Nat) : w1.cell? ⟨w.heap.size, j, none⟩ = cs[j]? := by
  rw [h.cell (by simp), cell_of_row (w.alloc (.cells cs t)) w.heap.size j cs t (0, 0) (heap_alloc_new w _)]

set_option maxHeartbeats 400000 in
theorem hasLine_any (c s y l k : Int) (w : World) :
    Calls Tryd.prog 55 #[.agg #[.int .i64 c, .int .i64 s, .int .i64 y, .int .i64 l], .int .i64 k] w fun e w' => e = .returned (.bool (lineB c s y l k)) ∧ Below w.heap.size w w' := by
  have B := (Below.refl w.heap.size w).alloc (Nat.le_refl _)
  by_cases h0 : codeI c s y l = 0
  · obtain ⟨hl, hs⟩ := code_zero h0
    have h0' : (codeI c s y l == 0) = true := by simp [h0]
    have HL : Hid (lineB c s y l k = betw k 0 (l - 1)) := by
      unfold Hid lineB betw
      simp only [h0, true_and]
      rw [Bool.eq_iff_iff]
      simp
      omega
    clear h0 hs
    go_enter Tryd.func55, Tryd.ntmps55
    go_wp2_with fail
    refine (implCode_any _ _ _ _ _).mono ?_
    rintro e w1 ⟨rfl, b1⟩
    have c3 := (box_cell b1 3)
    simp only [List.getElem?_toArray, List.getElem?_cons_succ, List.getElem?_cons_zero] at c3
    go_wp2_with (go_at_call 69; refine (between_any _ _ _ _).mono ?_; rintro e w' ⟨rfl, rfl⟩)
    go_ret
    exact ⟨ret_bool HL.out.symm, below_step (B _) b1⟩
  · have h0' : (codeI c s y l == 0) = false := by simp [h0]
    have HL : Hid (lineB c s y l k = false) := by
      unfold Hid lineB
      simp [h0]
    clear h0
    go_enter Tryd.func55, Tryd.ntmps55
    go_wp2_with (go_at_call 52; refine (implCode_any _ _ _ _ _).mono ?_; rintro e w1 ⟨rfl, b1⟩)
    go_ret
    exact ⟨ret_bool HL.out.symm, below_step (B _) b1⟩

end Go.Proofs.YteblffhbennpnaaDoor
