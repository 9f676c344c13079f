/- The contracts of the two words that a list gives, of the program: a line, or none. No condition. -/
import Derived.Test.YtmldilmiihafoaaJBitsLinesClassesWays2
import Derived.BigRegion
namespace Go.Proofs.Ytmldilmiihafoaa
open Go.ChangeShapes Go.WideShapes Go.ChangeAt Go.RowKit

theorem froz_two {w : World} {g : Nat} {cs : Array Value} {t : TypeId} (h : w.heap[g]? = some (.cells cs t (0, 0))) :
    w.frozen? ⟨g, 0, none⟩ = false ∧ w.frozen? ⟨g, 1, none⟩ = false := ⟨frozen_of_row w g 0 _ t h, frozen_of_row w g 1 _ t h⟩
theorem reads_two {w : World} {a : Option Addr} {x y : Int} (h : Reads w a [x, y]) : ∃ b off, a = some ⟨b, off, none⟩ ∧ w.cell? ⟨b, off, none⟩ = some (.int .i64 x) ∧ w.cell? ⟨b, off + 1, none⟩ = some (.int .i64 y) := by
  rcases h with h | ⟨b, off, ha, hc⟩
  · simp at h
  · exact ⟨b, off, ha, hc 0 (by simp), hc 1 (by simp)⟩

set_option maxHeartbeats 400000 in
theorem wordsOf_not (a : Option Addr) (n cap : Nat) (w : World) (hn : n ≠ 2) :
    Calls Try.prog 106 #[.slice a n cap] w fun e w' => e = .returned (.tuple #[.agg #[.int .i64 0, .int .i64 0], .bool false]) ∧ Below w.heap.size w w' := by
  have B := (Below.refl w.heap.size w).alloc (Nat.le_refl _)
  have hn' : ((n : Int) == 2) = false := by simp; omega
  go_enter Try.func106, Try.ntmps106
  go_wp2
  refine bodyPost_ret (v := .tuple #[.agg #[.int .i64 0, .int .i64 0], .bool false]) (by simp [results, Try.results106, go_sem]) rfl ⟨rfl, B _⟩

set_option maxHeartbeats 1000000 in
theorem wordsOf_two (a : Option Addr) (x y : Int) (cap : Nat) (w : World) (h : Reads w a [x, y]) :
    Calls Try.prog 106 #[.slice a 2 cap] w fun e w' => e = .returned (.tuple #[.agg #[.int .i64 x, .int .i64 y], .bool (okW x && okW y)]) ∧ Below w.heap.size w w' := by
  have B := (Below.refl w.heap.size w).alloc (Nat.le_refl _)
  obtain ⟨b, off, rfl, c0, c1⟩ := reads_two h
  have l0 := World.block_lt_of_cell? w _ c0
  go_enter Try.func106, Try.ntmps106
  go_wp2
  go_region
  go_wp2
  have R : ((w.alloc (.cells #[.int .i64 0, .int .i64 0] 116)).alloc (.cells #[.int .i64 x, .int .i64 y] 116)).drew.heap[w.heap.size]? = some (.cells #[.int .i64 0, .int .i64 0] 116 (0, 0)) := by
    show ((w.alloc (.cells #[.int .i64 0, .int .i64 0] 116)).alloc (.cells #[.int .i64 x, .int .i64 y] 116)).heap[w.heap.size]? = _
    rw [Below.heap_alloc _ _ _ (by simp)]
    exact heap_alloc_new w _
  have X : ((w.alloc (.cells #[.int .i64 0, .int .i64 0] 116)).alloc (.cells #[.int .i64 x, .int .i64 y] 116)).drew.heap[w.heap.size + 1]? = some (.cells #[.int .i64 x, .int .i64 y] 116 (0, 0)) := by
    rw [← alloc_len w (.cells #[.int .i64 0, .int .i64 0] 116)]
    exact heap_alloc_new (w.alloc (.cells #[.int .i64 0, .int .i64 0] 116)) _
  have BB := (((B (.cells #[.int .i64 0, .int .i64 0] 116)).alloc (by simp) (.cells #[.int .i64 x, .int .i64 y] 116)).drew).drew
  clear c0 c1 h
  generalize ((w.alloc (.cells #[.int .i64 0, .int .i64 0] 116)).alloc (.cells #[.int .i64 x, .int .i64 y] 116)).drew = W at R X BB ⊢
  obtain ⟨q0, q1⟩ := cell_two R
  obtain ⟨f0, f1⟩ := froz_two R
  obtain ⟨y0, y1⟩ := cell_two X
  go_region_with (go_at_call 114
                  refine (twoOk_any x y _).mono ?_
                  rintro e w' ⟨rfl, hb⟩
                  replace R := row_keep hb R
                  replace X := row_keep hb X
                  replace BB := BB.trans (hb.mono BB.size)
                  clear q0 q1 hb y0 y1 f0 f1
                  obtain ⟨q0, q1⟩ := cell_two R
                  obtain ⟨f0, f1⟩ := froz_two R
                  obtain ⟨y0, y1⟩ := cell_two X)
  all_goals
    go_wp2
    refine bodyPost_ret (v := .tuple #[.agg #[.int .i64 x, .int .i64 y], .bool (okW x && okW y)]) (by simp [results, Try.results106, go_sem, q0, q1]) rfl ⟨rfl, ?_⟩
    exact (BB.setCell (Nat.le_refl _) _).setCell (Nat.le_refl _) _

def isL : List Int → Bool
  | [x, y] => okW x && okW y
  | _ => false

theorem isL_cases (xs : List Int) : isL xs = false ∨ ∃ x y, xs = [x, y] ∧ okW x = true ∧ okW y = true := by
  match xs with
  | [] => exact .inl rfl
  | [_] => exact .inl rfl
  | [x, y] =>
    cases h1 : okW x
    · exact .inl (by simp [isL, h1])
    · cases h2 : okW y
      · exact .inl (by simp [isL, h2])
      · exact .inr ⟨x, y, rfl, h1, h2⟩
  | _ :: _ :: _ :: _ => exact .inl rfl

theorem wordsOf_no (a : Option Addr) (xs : List Int) (cap : Nat) (w : World) (h : Reads w a xs) (hn : isL xs = false) :
    Calls Try.prog 106 #[.slice a xs.length cap] w fun e w' => ∃ x y : Int, e = .returned (.tuple #[.agg #[.int .i64 x, .int .i64 y], .bool false]) ∧ Below w.heap.size w w' := by
  match xs with
  | [x, y] =>
    refine (wordsOf_two a x y cap w h).mono ?_
    rintro e w' ⟨rfl, b⟩
    exact ⟨x, y, by simp only [isL] at hn; rw [hn], b⟩
  | [] => exact (wordsOf_not a 0 cap w (by simp)).mono fun e w' h => ⟨0, 0, h⟩
  | [_] => exact (wordsOf_not a 1 cap w (by simp)).mono fun e w' h => ⟨0, 0, h⟩
  | _ :: _ :: _ :: r => exact (wordsOf_not a (r.length + 1 + 1 + 1) cap w (by omega)).mono fun e w' h => ⟨0, 0, h⟩

theorem wordsOf_any (a : Option Addr) (xs : List Int) (cap : Nat) (w : World) (h : Reads w a xs) :
    Calls Try.prog 106 #[.slice a xs.length cap] w fun e w' => ∃ x y : Int, e = .returned (.tuple #[.agg #[.int .i64 x, .int .i64 y], .bool (isL xs)]) ∧ Below w.heap.size w w' := by
  match xs with
  | [x, y] =>
    refine (wordsOf_two a x y cap w h).mono ?_
    rintro e w' ⟨rfl, b⟩
    exact ⟨x, y, rfl, b⟩
  | [] => exact (wordsOf_not a 0 cap w (by simp)).mono fun e w' h => ⟨0, 0, h⟩
  | [_] => exact (wordsOf_not a 1 cap w (by simp)).mono fun e w' h => ⟨0, 0, h⟩
  | _ :: _ :: _ :: r => exact (wordsOf_not a (r.length + 1 + 1 + 1) cap w (by omega)).mono fun e w' h => ⟨0, 0, h⟩

theorem wordsOf_yes (a : Option Addr) (x y : Int) (cap : Nat) (w : World) (h : Reads w a [x, y]) (hx : okW x = true) (hy : okW y = true) :
    Calls Try.prog 106 #[.slice a 2 cap] w fun e w' => e = .returned (.tuple #[.agg #[.int .i64 x, .int .i64 y], .bool true]) ∧ Below w.heap.size w w' := by
  refine (wordsOf_two a x y cap w h).mono ?_
  rintro e w' ⟨rfl, b⟩
  exact ⟨by rw [hx, hy]; rfl, b⟩

end Go.Proofs.Ytmldilmiihafoaa
