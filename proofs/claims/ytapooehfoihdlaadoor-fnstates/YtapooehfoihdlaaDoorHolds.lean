/- The table of what states say of one's own, as it lies in memory; the contracts of Asks, of the program and of its specification, and of how many hold a line. -/
import Derived.Test.YtapooehfoihdlaaDoorNexts
import Derived.Test.YtapooehfoihdlaaDoorBits
import Derived.BigRegion
import Derived.Deep.QuietTactic
import Derived.BigQuiet
namespace Go.Proofs.YtapooehfoihdlaaDoor
open Go.ChangeShapes Go.WideShapes Go.RowKit
open Go.Maps (Keyed)
set_option linter.unusedVariables false

def holdC : Array Value := #[.bool false, .bool false, .bool false, .bool true, .bool false, .bool false, .bool true, .bool true, .bool false, .bool true, .bool true, .bool true]
/-- The table lies in its block. -/
def Hold (w : World) : Prop := ∃ t fz, w.heap[0]? = some (.cells holdC t fz)
theorem Hold.lt {w : World} (h : Hold w) : 0 < w.heap.size := by obtain ⟨t, fz, h⟩ := h; exact (Array.getElem?_eq_some_iff.1 h).1
theorem Hold.below {w w' : World} {m : Nat} (h : Hold w) (hB : Below m w w') (hm : 0 < m) : Hold w' := by
  obtain ⟨t, fz, h⟩ := h
  exact ⟨t, fz, (hB.block 0 hm).trans h⟩
theorem Hold.to {w w' : World} (h : Hold w) (hB : Below w.heap.size w w') : Hold w' := h.below hB h.lt
theorem Hold.grown {w w' : World} {b : Nat} (h : Hold w) (hg : w.grownBy w' (some b)) (hb : 0 < b) : Hold w' := by
  have hl := h.lt
  obtain ⟨t, fz, h⟩ := h
  exact ⟨t, fz, (hg.block 0 hl (by simp; omega)).trans h⟩
theorem Hold.drewN {w : World} (h : Hold w) (q : Nat) : Hold (w.drewN q) := h
theorem Hold.cells {w : World} (h : Hold w) :
    w.cell? ⟨0, 0, none⟩ = some (.bool false) ∧ w.cell? ⟨0, 1, none⟩ = some (.bool false) ∧ w.cell? ⟨0, 2, none⟩ = some (.bool false) ∧
    w.cell? ⟨0, 3, none⟩ = some (.bool true) ∧ w.cell? ⟨0, 4, none⟩ = some (.bool false) ∧ w.cell? ⟨0, 5, none⟩ = some (.bool false) ∧
    w.cell? ⟨0, 6, none⟩ = some (.bool true) ∧ w.cell? ⟨0, 7, none⟩ = some (.bool true) ∧ w.cell? ⟨0, 8, none⟩ = some (.bool false) ∧
    w.cell? ⟨0, 9, none⟩ = some (.bool true) ∧ w.cell? ⟨0, 10, none⟩ = some (.bool true) ∧ w.cell? ⟨0, 11, none⟩ = some (.bool true) := by
  obtain ⟨t, fz, h⟩ := h
  refine ⟨?_, ?_, ?_, ?_, ?_, ?_, ?_, ?_, ?_, ?_, ?_, ?_⟩ <;> (rw [cell_of_row w 0 _ _ _ _ h]; rfl)

abbrev hk (a b c : Bool) : Value := .agg #[.bool a, .bool b, .bool c]
theorem holdRow : (49 : TypeId) < Tryd.prog.types.size := of_decide_eq_true (by kernel_rfl)
theorem holdWide : (match Tryd.prog.underlying 49 with | some (.array _ _) | some (.struct _) => true | _ => false) = true := by kernel_rfl
theorem holdLaw : WideMaps.KeyLaw Tryd.prog 49 := deep_law_laid laidOutB_ok (m := 2) (by omega) holdRow (by kernel_rfl) holdWide
theorem holdKeyed : Keyed Tryd.prog 49 := Keyed.of_law holdLaw
theorem hk_key (a b c : Bool) : ∃ l, keyOf Tryd.prog 49 (hk a b c) = some l :=
  Option.isSome_iff_exists.1 (by cases a <;> cases b <;> cases c <;> kernel_rfl)

def readI (s : Int) : Int := if s = 0 then 1 else 0
def writeI (s : Int) : Int := if s < 2 then 2 else 0
def asksI (s : Int) (wr : Bool) : Int := if betw s 0 3 then (if wr then writeI s else readI s) else -1
theorem state4 {s : Int} (h : betw s 0 3 = true) : s = 0 ∨ s = 1 ∨ s = 2 ∨ s = 3 := by simp [betw] at h; omega

set_option maxHeartbeats 400000 in
theorem asksToRead_any (s : Int) (w : World) (h : Hold w) (hs : betw s 0 3 = true) :
    Calls Tryd.prog 33 #[.int .i64 s] w fun x w' => x = .returned (.int .i64 (readI s)) ∧ w' = w := by
  obtain ⟨c0, c1, c2, c3, c4, c5, c6, c7, c8, c9, c10, c11⟩ := h.cells
  rcases state4 hs with rfl | rfl | rfl | rfl
  all_goals
    clear hs
    go_enter Tryd.func33, Tryd.ntmps33
    go_wp2
    go_ret
    exact ⟨rfl, rfl⟩

set_option maxHeartbeats 400000 in
theorem asksToWrite_any (s : Int) (w : World) (h : Hold w) (hs : betw s 0 3 = true) :
    Calls Tryd.prog 32 #[.int .i64 s] w fun x w' => x = .returned (.int .i64 (writeI s)) ∧ w' = w := by
  obtain ⟨c0, c1, c2, c3, c4, c5, c6, c7, c8, c9, c10, c11⟩ := h.cells
  rcases state4 hs with rfl | rfl | rfl | rfl
  all_goals
    clear hs
    go_enter Tryd.func32, Tryd.ntmps32
    go_wp2
    go_ret
    exact ⟨rfl, rfl⟩

set_option maxHeartbeats 400000 in
theorem stateOk_any (s : Int) (w : World) :
    Calls Tryd.prog 27 #[.int .i64 s] w fun x w' => x = .returned (.bool (betw s 0 3)) ∧ w' = w := by
  go_enter Tryd.func27, Tryd.ntmps27
  go_wp2_with fail
  refine (between_any _ _ _ _).mono ?_
  rintro _ w1 ⟨rfl, rfl⟩
  go_wp2
  go_ret
  exact ⟨rfl, rfl⟩

set_option maxHeartbeats 400000 in
theorem implAsks_any (s : Int) (wr : Bool) (w : World) (h : Hold w) :
    Calls Tryd.prog 14 #[.int .i64 s, .bool wr] w fun x w' => x = .returned (.int .i64 (asksI s wr)) ∧ w' = w := by
  by_cases hs : betw s 0 3 = true
  · cases wr
    · go_enter Tryd.func14, Tryd.ntmps14
      go_wp2_with fail
      refine (stateOk_any _ _).mono ?_
      rintro _ w1 ⟨rfl, rfl⟩
      rw [hs]
      go_wp2_with fail
      refine (asksToRead_any _ _ h hs).mono ?_
      rintro _ w1 ⟨rfl, rfl⟩
      go_wp2
      go_ret
      exact ⟨by simp [asksI, hs], rfl⟩
    · go_enter Tryd.func14, Tryd.ntmps14
      go_wp2_with fail
      refine (stateOk_any _ _).mono ?_
      rintro _ w1 ⟨rfl, rfl⟩
      rw [hs]
      go_wp2_with fail
      refine (asksToWrite_any _ _ h hs).mono ?_
      rintro _ w1 ⟨rfl, rfl⟩
      go_wp2
      go_ret
      exact ⟨by simp [asksI, hs], rfl⟩
  · have hs' : betw s 0 3 = false := by simpa using hs
    go_enter Tryd.func14, Tryd.ntmps14
    go_wp2_with fail
    refine (stateOk_any _ _).mono ?_
    rintro _ w1 ⟨rfl, rfl⟩
    rw [hs']
    go_wp2
    go_ret
    exact ⟨by simp [asksI, hs'], rfl⟩

set_option maxHeartbeats 400000 in
theorem specAsks_any (s : Int) (wr : Bool) (w : World) :
    Calls Tryd.prog 17 #[.int .i64 s, .bool wr] w fun x w' => x = .returned (.int .i64 (asksI s wr)) ∧ w' = w := by
  by_cases hs : betw s 0 3 = true
  · rcases state4 hs with rfl | rfl | rfl | rfl
    all_goals
      cases wr
      all_goals
        go_enter Tryd.func17, Tryd.ntmps17
        go_wp2_with fail
        refine (l1In_any _ _ _ _).mono ?_
        rintro _ w1 ⟨rfl, rfl⟩
        rw [hs]
        go_wp2
        go_ret
        exact ⟨rfl, rfl⟩
  · have hs' : betw s 0 3 = false := by simpa using hs
    go_enter Tryd.func17, Tryd.ntmps17
    go_wp2_with fail
    refine (l1In_any _ _ _ _).mono ?_
    rintro _ w1 ⟨rfl, rfl⟩
    rw [hs']
    go_wp2
    go_ret
    exact ⟨by simp [asksI, hs'], rfl⟩
end Go.Proofs.YtapooehfoihdlaaDoor
