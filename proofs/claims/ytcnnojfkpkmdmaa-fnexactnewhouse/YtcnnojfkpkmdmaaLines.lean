
import Derived.Test.YtcnnojfkpkmdmaaBits
import Derived.Test.YtcnnojfkpkmdmaaCopies
import Derived.LoopN
import Derived.Deep.RegionWith
import Derived.BigRegion
/- The contracts of lines: two words as an array that is compared, of the program and of its specification. No condition. -/
namespace Go.Proofs.Ytcnnojfkpkmdmaa
open Go.ChangeShapes Go.WideShapes Go.ChangeAt Go.RowKit

def press (x : Int) : Int := min (max x 0) 9999
def okW (x : Int) : Bool := betw x 0 9999

set_option maxHeartbeats 1000000 in
theorem pressed_any (a b : Int) (w : World) :
    Calls Try.prog 86 #[.agg #[.int .i64 a, .int .i64 b]] w fun e w' => e = .returned (.agg #[.int .i64 (press a), .int .i64 (press b)]) ∧ Below w.heap.size w w' := by
  have B := (Below.refl w.heap.size w).alloc (Nat.le_refl _)
  go_enter Try.func86, Try.ntmps86
  go_wp2
  refine wp_loop_rounds 3 ?_
  rw [rounds_succ]
  go_wp2
  all_goals rw [rounds_succ]
  all_goals go_wp2
  all_goals rw [rounds_succ]
  all_goals go_wp2
  all_goals
    refine bodyPost_ret (v := .agg #[.int .i64 (press a), .int .i64 (press b)]) ?_ rfl ⟨rfl, ?_⟩
    · simp [results, Try.results86, go_sem]; first | done | (unfold press; omega) | (constructor <;> unfold press <;> omega)
    · exact (B _).alloc (by simp) _

theorem alloc_len (w : World) (o : Obj) : (w.alloc o).heap.size = w.heap.size + 1 := by simp
theorem cell_two {w : World} {g : Nat} {x y : Value} {t : TypeId} (h : w.heap[g]? = some (.cells #[x, y] t (0, 0))) :
    w.cell? ⟨g, 0, none⟩ = some x ∧ w.cell? ⟨g, 1, none⟩ = some y :=
  ⟨by rw [cell_of_row w g 0 _ t (0, 0) h]; rfl, by rw [cell_of_row w g 1 _ t (0, 0) h]; rfl⟩
theorem row_keep {w w' : World} {g : Nat} {o : Obj} (hb : Below w.heap.size w w') (h : w.heap[g]? = some o) : w'.heap[g]? = some o :=
  (hb.block g (Array.getElem?_eq_some_iff.1 h).1).trans h

theorem two_eq (a b c d : Int) (w : World) : (Op.equalIn 10000 83 (.agg #[.int .i64 a, .int .i64 b]) (.agg #[.int .i64 c, .int .i64 d])).run Try.prog w = .ok (a == c && b == d) w := by
  have u3 := Try.underlying2
  have a3 := Try.isAgg2
  have z3 := Try.sizeOf2
  rw [show (10000 : Nat) = 9999 + 1 from rfl, Op.equalIn]
  simp only [Sem.run_bind, run_underlying Try.underlying83, Result.andThen_ok]
  simp only [Std.Legacy.Range.forIn_eq_forIn_range', Std.Legacy.Range.size, Nat.sub_zero, Nat.add_sub_cancel, Nat.div_one, List.range'_succ, List.range'_zero, List.forIn_cons, List.forIn_nil]
  go_simp
  by_cases h1 : a = c <;> by_cases h2 : b = d <;> simp [h1, h2]

theorem press_eq (x : Int) : (x == press x) = okW x := by
  rw [Bool.eq_iff_iff]; simp [press, okW, betw]; omega

set_option maxHeartbeats 400000 in
theorem twoOk_any (a b : Int) (w : World) :
    Calls Try.prog 83 #[.agg #[.int .i64 a, .int .i64 b]] w fun e w' => e = .returned (.bool (okW a && okW b)) ∧ Below w.heap.size w w' := by
  have B := (Below.refl w.heap.size w).alloc (Nat.le_refl _)
  go_enter Try.func83, Try.ntmps83
  go_wp2
  have R := heap_alloc_new w (.cells #[.int .i64 a, .int .i64 b] 83)
  have BB := (B (.cells #[.int .i64 a, .int .i64 b] 83)).drew
  generalize w.alloc (.cells #[.int .i64 a, .int .i64 b] 83) = W at R BB ⊢
  obtain ⟨q0, q1⟩ := cell_two R
  have E := two_eq a b (press a) (press b)
  go_region_with (go_at_call 86
                  refine (pressed_any a b _).mono ?_
                  rintro e w' ⟨rfl, hb⟩
                  replace R := row_keep hb R
                  replace BB := BB.trans (hb.mono BB.size)
                  clear q0 q1 hb
                  obtain ⟨q0, q1⟩ := cell_two R)
  all_goals
    go_wp2
    go_ret
    exact ⟨ret_bool (by rw [press_eq, press_eq]), BB⟩


end Go.Proofs.Ytcnnojfkpkmdmaa

/- The contracts of the two words that a list gives, of the program: a line, or none. No condition. -/
namespace Go.Proofs.Ytcnnojfkpkmdmaa
open Go.ChangeShapes Go.WideShapes Go.ChangeAt Go.RowKit

theorem froz_two {w : World} {g : Nat} {cs : Array Value} {t : TypeId} (h : w.heap[g]? = some (.cells cs t (0, 0))) :
    w.frozen? ⟨g, 0, none⟩ = false ∧ w.frozen? ⟨g, 1, none⟩ = false := ⟨frozen_of_row w g 0 _ t h, frozen_of_row w g 1 _ t h⟩
theorem reads_two {w : World} {a : Option Addr} {x y : Int} (h : Reads w a [x, y]) : ∃ b off, a = some ⟨b, off, none⟩ ∧ w.cell? ⟨b, off, none⟩ = some (.int .i64 x) ∧ w.cell? ⟨b, off + 1, none⟩ = some (.int .i64 y) := by
  rcases h with h | ⟨b, off, ha, hc⟩
  · simp at h
  · exact ⟨b, off, ha, hc 0 (by simp), hc 1 (by simp)⟩

set_option maxHeartbeats 400000 in
theorem wordsOf_not (a : Option Addr) (n cap : Nat) (w : World) (hn : n ≠ 2) :
    Calls Try.prog 73 #[.slice a n cap] w fun e w' => e = .returned (.tuple #[.agg #[.int .i64 0, .int .i64 0], .bool false]) ∧ Below w.heap.size w w' := by
  have B := (Below.refl w.heap.size w).alloc (Nat.le_refl _)
  have hn' : ((n : Int) == 2) = false := by simp; omega
  go_enter Try.func73, Try.ntmps73
  go_wp2
  refine bodyPost_ret (v := .tuple #[.agg #[.int .i64 0, .int .i64 0], .bool false]) (by simp [results, Try.results73, go_sem]) rfl ⟨rfl, B _⟩

set_option maxHeartbeats 1000000 in
theorem wordsOf_two (a : Option Addr) (x y : Int) (cap : Nat) (w : World) (h : Reads w a [x, y]) :
    Calls Try.prog 73 #[.slice a 2 cap] w fun e w' => e = .returned (.tuple #[.agg #[.int .i64 x, .int .i64 y], .bool (okW x && okW y)]) ∧ Below w.heap.size w w' := by
  have B := (Below.refl w.heap.size w).alloc (Nat.le_refl _)
  obtain ⟨b, off, rfl, c0, c1⟩ := reads_two h
  have l0 := World.block_lt_of_cell? w _ c0
  go_enter Try.func73, Try.ntmps73
  go_wp2
  go_region
  go_wp2
  have R : ((w.alloc (.cells #[.int .i64 0, .int .i64 0] 83)).alloc (.cells #[.int .i64 x, .int .i64 y] 83)).drew.heap[w.heap.size]? = some (.cells #[.int .i64 0, .int .i64 0] 83 (0, 0)) := by
    show ((w.alloc (.cells #[.int .i64 0, .int .i64 0] 83)).alloc (.cells #[.int .i64 x, .int .i64 y] 83)).heap[w.heap.size]? = _
    rw [Below.heap_alloc _ _ _ (by simp)]
    exact heap_alloc_new w _
  have X : ((w.alloc (.cells #[.int .i64 0, .int .i64 0] 83)).alloc (.cells #[.int .i64 x, .int .i64 y] 83)).drew.heap[w.heap.size + 1]? = some (.cells #[.int .i64 x, .int .i64 y] 83 (0, 0)) := by
    rw [← alloc_len w (.cells #[.int .i64 0, .int .i64 0] 83)]
    exact heap_alloc_new (w.alloc (.cells #[.int .i64 0, .int .i64 0] 83)) _
  have BB := (((B (.cells #[.int .i64 0, .int .i64 0] 83)).alloc (by simp) (.cells #[.int .i64 x, .int .i64 y] 83)).drew).drew
  clear c0 c1 h
  generalize ((w.alloc (.cells #[.int .i64 0, .int .i64 0] 83)).alloc (.cells #[.int .i64 x, .int .i64 y] 83)).drew = W at R X BB ⊢
  obtain ⟨q0, q1⟩ := cell_two R
  obtain ⟨f0, f1⟩ := froz_two R
  obtain ⟨y0, y1⟩ := cell_two X
  go_region_with (go_at_call 83
                  refine (twoOk_any x y _).mono ?_
                  rintro e w' ⟨rfl, hb⟩
                  replace R := row_keep hb R
                  replace X := row_keep hb X
                  replace BB := BB.trans (hb.mono BB.size)
                  clear q0 q1 hb y0 y1 f0 f1
                  obtain ⟨q0, q1⟩ := cell_two R
                  obtain ⟨f0, f1⟩ := froz_two R
                  obtain ⟨y0, y1⟩ := cell_two X)
  all_goals
    go_wp2
    refine bodyPost_ret (v := .tuple #[.agg #[.int .i64 x, .int .i64 y], .bool (okW x && okW y)]) (by simp [results, Try.results73, go_sem, q0, q1]) rfl ⟨rfl, ?_⟩
    exact (BB.setCell (Nat.le_refl _) _).setCell (Nat.le_refl _) _

def isL : List Int → Bool
  | [x, y] => okW x && okW y
  | _ => false

theorem isL_cases (xs : List Int) : isL xs = false ∨ ∃ x y, xs = [x, y] ∧ okW x = true ∧ okW y = true := by
  match xs with
  | [] => exact .inl rfl
  | [_] => exact .inl rfl
  | [x, y] =>
    cases h1 : okW x
    · exact .inl (by simp [isL, h1])
    · cases h2 : okW y
      · exact .inl (by simp [isL, h2])
      · exact .inr ⟨x, y, rfl, h1, h2⟩
  | _ :: _ :: _ :: _ => exact .inl rfl

theorem wordsOf_no (a : Option Addr) (xs : List Int) (cap : Nat) (w : World) (h : Reads w a xs) (hn : isL xs = false) :
    Calls Try.prog 73 #[.slice a xs.length cap] w fun e w' => ∃ x y : Int, e = .returned (.tuple #[.agg #[.int .i64 x, .int .i64 y], .bool false]) ∧ Below w.heap.size w w' := by
  match xs with
  | [x, y] =>
    refine (wordsOf_two a x y cap w h).mono ?_
    rintro e w' ⟨rfl, b⟩
    exact ⟨x, y, by simp only [isL] at hn; rw [hn], b⟩
  | [] => exact (wordsOf_not a 0 cap w (by simp)).mono fun e w' h => ⟨0, 0, h⟩
  | [_] => exact (wordsOf_not a 1 cap w (by simp)).mono fun e w' h => ⟨0, 0, h⟩
  | _ :: _ :: _ :: r => exact (wordsOf_not a (r.length + 1 + 1 + 1) cap w (by omega)).mono fun e w' h => ⟨0, 0, h⟩

theorem wordsOf_any (a : Option Addr) (xs : List Int) (cap : Nat) (w : World) (h : Reads w a xs) :
    Calls Try.prog 73 #[.slice a xs.length cap] w fun e w' => ∃ x y : Int, e = .returned (.tuple #[.agg #[.int .i64 x, .int .i64 y], .bool (isL xs)]) ∧ Below w.heap.size w w' := by
  match xs with
  | [x, y] =>
    refine (wordsOf_two a x y cap w h).mono ?_
    rintro e w' ⟨rfl, b⟩
    exact ⟨x, y, rfl, b⟩
  | [] => exact (wordsOf_not a 0 cap w (by simp)).mono fun e w' h => ⟨0, 0, h⟩
  | [_] => exact (wordsOf_not a 1 cap w (by simp)).mono fun e w' h => ⟨0, 0, h⟩
  | _ :: _ :: _ :: r => exact (wordsOf_not a (r.length + 1 + 1 + 1) cap w (by omega)).mono fun e w' h => ⟨0, 0, h⟩

theorem wordsOf_yes (a : Option Addr) (x y : Int) (cap : Nat) (w : World) (h : Reads w a [x, y]) (hx : okW x = true) (hy : okW y = true) :
    Calls Try.prog 73 #[.slice a 2 cap] w fun e w' => e = .returned (.tuple #[.agg #[.int .i64 x, .int .i64 y], .bool true]) ∧ Below w.heap.size w w' := by
  refine (wordsOf_two a x y cap w h).mono ?_
  rintro e w' ⟨rfl, b⟩
  exact ⟨by rw [hx, hy]; rfl, b⟩

end Go.Proofs.Ytcnnojfkpkmdmaa

/- The contracts of lines, of the program: what LineOk, WordAt, Put and Masked answer; lists are new memory. No condition. -/
namespace Go.Proofs.Ytcnnojfkpkmdmaa
open Go.ChangeShapes Go.WideShapes Go.ChangeAt Go.RowKit

def wordI (xs : List Int) (k : Int) : Int := if isL xs then (if betw k 0 1 then xs.getD k.toNat 0 else -1) else -1
def putL (xs : List Int) (k v : Int) : List Int := if isL xs then (if betw k 0 1 then (if okW v then xs.set k.toNat v else xs) else xs) else []
def putB (xs : List Int) (k v : Int) : Bool := isL xs && (betw k 0 1 && okW v)
def maskL (xs ys : List Int) (m : Int) : List Int :=
  if isL xs && isL ys && betw m 0 3 then [if m % 2 = 1 then ys.getD 0 0 else xs.getD 0 0, if m / 2 % 2 = 1 then ys.getD 1 0 else xs.getD 1 0] else []

theorem isL_yes {x y : Int} (hx : okW x = true) (hy : okW y = true) : isL [x, y] = true := by simp [isL, hx, hy]
theorem betw_two {k : Int} (h : betw k 0 1 = true) : k = 0 ∨ k = 1 := by simp [betw] at h; omega
theorem betw_four {k : Int} (h : betw k 0 3 = true) : k = 0 ∨ k = 1 ∨ k = 2 ∨ k = 3 := by simp [betw] at h; omega



set_option maxHeartbeats 400000 in
theorem maskOk_any (k : Int) (w : World) : Calls Try.prog 77 #[.int .i64 k] w fun e w' => e = .returned (.bool (betw k 0 3)) ∧ w' = w := by
  go_enter Try.func77, Try.ntmps77
  go_wp2_with (go_at_call 53; refine (between_any _ _ _ _).mono ?_; rintro e w' ⟨rfl, rfl⟩)
  go_ret
  exact ⟨rfl, rfl⟩

set_option maxHeartbeats 400000 in
theorem implLineOk_any (a : Option Addr) (xs : List Int) (cap : Nat) (w : World) (h : Reads w a xs) :
    Calls Try.prog 62 #[.slice a xs.length cap] w fun e w' => e = .returned (.bool (isL xs)) ∧ Below w.heap.size w w' := by
  rcases isL_cases xs with hn | ⟨x, y, rfl, hx, hy⟩
  · go_enter Try.func62, Try.ntmps62
    go_wp2_with fail
    refine (wordsOf_no _ xs _ _ h hn).mono ?_
    rintro e w1 ⟨x, y, rfl, b1⟩
    go_wp2
    go_ret
    exact ⟨by rw [hn]; rfl, b1.alloc b1.size _⟩
  · have hh := isL_yes hx hy
    go_enter Try.func62, Try.ntmps62
    go_wp2_with fail
    refine (wordsOf_yes _ x y _ _ h hx hy).mono ?_
    rintro e w1 ⟨rfl, b1⟩
    go_wp2
    go_ret
    exact ⟨by rw [hh]; rfl, b1.alloc b1.size _⟩


end Go.Proofs.Ytcnnojfkpkmdmaa
