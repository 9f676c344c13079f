
/- The contracts of lines, of the specification: what LineOk, WordAt, Put and Masked answer; lists are new memory. Conditions: lists of at most 2^20 numbers. -/
import Derived.Test.YtcnnojfkpkmdmaaLines
namespace Go.Proofs.Ytcnnojfkpkmdmaa
open Go.ChangeShapes Go.WideShapes Go.ChangeAt Go.RowKit

set_option maxHeartbeats 400000 in
theorem l3Word_any (k : Int) (w : World) : Calls Try.prog 61 #[.int .i64 k] w fun e w' => e = .returned (.bool (okW k)) ∧ w' = w := by
  go_enter Try.func61, Try.ntmps61
  go_wp2_with (go_at_call 30; refine (l1In_any _ _ _ _).mono ?_; rintro e w' ⟨rfl, rfl⟩)
  go_ret
  exact ⟨rfl, rfl⟩

set_option maxHeartbeats 400000 in
theorem specLineOk_not (a : Option Addr) (n cap : Nat) (w : World) (hn : n ≠ 2) :
    Calls Try.prog 45 #[.slice a n cap] w fun e w' => e = .returned (.bool false) ∧ w' = w := by
  have hn' : ((n : Int) == 2) = false := by simp; omega
  go_enter Try.func45, Try.ntmps45
  go_wp2
  go_ret
  exact ⟨rfl, rfl⟩

set_option maxHeartbeats 400000 in
theorem specLineOk_two (a : Option Addr) (x y : Int) (cap : Nat) (w : World) (h : Reads w a [x, y]) :
    Calls Try.prog 45 #[.slice a 2 cap] w fun e w' => e = .returned (.bool (okW x && okW y)) ∧ w' = w := by
  obtain ⟨b, off, rfl, c0, c1⟩ := reads_two h
  clear h
  cases hx : okW x <;> cases hy : okW y
  all_goals
    go_enter Try.func45, Try.ntmps45
    go_wp2_with (go_at_call 61; refine (l3Word_any _ _).mono ?_; rintro e w' ⟨rfl, rfl⟩)
    go_ret
    exact ⟨rfl, rfl⟩

theorem specLineOk_any (a : Option Addr) (xs : List Int) (cap : Nat) (w : World) (h : Reads w a xs) :
    Calls Try.prog 45 #[.slice a xs.length cap] w fun e w' => e = .returned (.bool (isL xs)) ∧ w' = w := by
  match xs with
  | [x, y] => exact specLineOk_two a x y cap w h
  | [] => exact specLineOk_not a 0 cap w (by simp)
  | [_] => exact specLineOk_not a 1 cap w (by simp)
  | _ :: _ :: _ :: r => exact specLineOk_not a (r.length + 1 + 1 + 1) cap w (by omega)

theorem specLineOk_yes (a : Option Addr) (x y : Int) (cap : Nat) (w : World) (h : Reads w a [x, y]) (hx : okW x = true) (hy : okW y = true) :
    Calls Try.prog 45 #[.slice a 2 cap] w fun e w' => e = .returned (.bool true) ∧ w' = w := by
  refine (specLineOk_two a x y cap w h).mono ?_
  rintro e w' ⟨rfl, rfl⟩
  exact ⟨by rw [hx, hy]; rfl, rfl⟩


theorem made_put {w w1 : World} {g cap : Nat} {zs : List Int} (h : OwnI w.heap.size w1 g cap zs) (hb : Below w.heap.size w w1) (k : Nat) (u : Int) :
    Made w (w1.setCell ⟨g, k, none⟩ (.int .i64 u)) (.slice (some ⟨g, 0, none⟩) zs.length cap) (zs.set k u) := by
  have hl := h.lt g rfl
  have S := World.ownsRow.stored h k (.int .i64 u)
  refine ⟨g, cap, by simp, hl.1, by simpa using hl.2, ?_, hb.grown S.2 hb.size (by intro j hj; cases hj; exact hl.1)⟩
  have := S.1
  unfold OwnI
  rw [List.length_set, List.map_set]
  exact this

theorem owni_cells {B g cap : Nat} {w : World} {x y : Int} (h : OwnI B w g cap [x, y]) :
    w.cell? ⟨g, 0, none⟩ = some (.int .i64 x) ∧ w.cell? ⟨g, 1, none⟩ = some (.int .i64 y) ∧ w.frozen? ⟨g, 0, none⟩ = false ∧ w.frozen? ⟨g, 1, none⟩ = false :=
  ⟨by rw [World.ownsRow.cellAt h 0 (by simp)]; rfl, by rw [World.ownsRow.cellAt h 1 (by simp)]; rfl, World.ownsRow.frozenAt h 0, World.ownsRow.frozenAt h 1⟩


end Go.Proofs.Ytcnnojfkpkmdmaa
