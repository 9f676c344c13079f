import Derived.Test.YtbcggkfbahmpoaaJOwn5OpensBaseClassesBits
import Derived.Test.YtbcggkfbahmpoaaJListsOwnNumsCopies
import Derived.LoopN
import Derived.Deep.RegionWith
import Derived.BigRegion
import Derived.Deep.QuietTactic
import Derived.WalkKit
import Derived.Maps.AppendAt

/- The contracts of lines: two words as an array that is compared, of the program and of its specification. No condition. -/
namespace Go.Proofs.Ytbcggkfbahmpoaa
open Go.ChangeShapes Go.WideShapes Go.ChangeAt Go.RowKit

def press (x : Int) : Int := min (max x 0) 9999
def okW (x : Int) : Bool := betw x 0 9999

set_option maxHeartbeats 1000000 in
theorem pressed_any (a b : Int) (w : World) :
    Calls Try.prog 99 #[.agg #[.int .i64 a, .int .i64 b]] w fun e w' => e = .returned (.agg #[.int .i64 (press a), .int .i64 (press b)]) ∧ Below w.heap.size w w' := by
  have B := (Below.refl w.heap.size w).alloc (Nat.le_refl _)
  go_enter Try.func99, Try.ntmps99
  go_wp2
  refine wp_loop_rounds 3 ?_
  rw [rounds_succ]
  go_wp2
  all_goals rw [rounds_succ]
  all_goals go_wp2
  all_goals rw [rounds_succ]
  all_goals go_wp2
  all_goals
    refine bodyPost_ret (v := .agg #[.int .i64 (press a), .int .i64 (press b)]) ?_ rfl ⟨rfl, ?_⟩
    · simp [results, Try.results99, go_sem]; first | done | (unfold press; omega) | (constructor <;> unfold press <;> omega)
    · exact (B _).alloc (by simp) _

theorem alloc_len (w : World) (o : Obj) : (w.alloc o).heap.size = w.heap.size + 1 := by simp
theorem cell_two {w : World} {g : Nat} {x y : Value} {t : TypeId} (h : w.heap[g]? = some (.cells #[x, y] t (0, 0))) :
    w.cell? ⟨g, 0, none⟩ = some x ∧ w.cell? ⟨g, 1, none⟩ = some y :=
  ⟨by rw [cell_of_row w g 0 _ t (0, 0) h]; rfl, by rw [cell_of_row w g 1 _ t (0, 0) h]; rfl⟩
theorem row_keep {w w' : World} {g : Nat} {o : Obj} (hb : Below w.heap.size w w') (h : w.heap[g]? = some o) : w'.heap[g]? = some o :=
  (hb.block g (Array.getElem?_eq_some_iff.1 h).1).trans h

theorem two_eq (a b c d : Int) (w : World) : (Op.equalIn 10000 114 (.agg #[.int .i64 a, .int .i64 b]) (.agg #[.int .i64 c, .int .i64 d])).run Try.prog w = .ok (a == c && b == d) w := by
  have u3 := Try.underlying2
  have a3 := Try.isAgg2
  have z3 := Try.sizeOf2
  rw [show (10000 : Nat) = 9999 + 1 from rfl, Op.equalIn]
  simp only [Sem.run_bind, run_underlying Try.underlying114, Result.andThen_ok]
  simp only [Std.Legacy.Range.forIn_eq_forIn_range', Std.Legacy.Range.size, Nat.sub_zero, Nat.add_sub_cancel, Nat.div_one, List.range'_succ, List.range'_zero, List.forIn_cons, List.forIn_nil]
  go_simp
  by_cases h1 : a = c <;> by_cases h2 : b = d <;> simp [h1, h2]

theorem press_eq (x : Int) : (x == press x) = okW x := by
  rw [Bool.eq_iff_iff]; simp [press, okW, betw]; omega

set_option maxHeartbeats 400000 in
theorem twoOk_any (a b : Int) (w : World) :
    Calls Try.prog 98 #[.agg #[.int .i64 a, .int .i64 b]] w fun e w' => e = .returned (.bool (okW a && okW b)) ∧ Below w.heap.size w w' := by
  have B := (Below.refl w.heap.size w).alloc (Nat.le_refl _)
  go_enter Try.func98, Try.ntmps98
  go_wp2
  have R := heap_alloc_new w (.cells #[.int .i64 a, .int .i64 b] 114)
  have BB := (B (.cells #[.int .i64 a, .int .i64 b] 114)).drew
  generalize w.alloc (.cells #[.int .i64 a, .int .i64 b] 114) = W at R BB ⊢
  obtain ⟨q0, q1⟩ := cell_two R
  have E := two_eq a b (press a) (press b)
  go_region_with (go_at_call 99
                  refine (pressed_any a b _).mono ?_
                  rintro e w' ⟨rfl, hb⟩
                  replace R := row_keep hb R
                  replace BB := BB.trans (hb.mono BB.size)
                  clear q0 q1 hb
                  obtain ⟨q0, q1⟩ := cell_two R)
  all_goals
    go_wp2
    go_ret
    exact ⟨ret_bool (by rw [press_eq, press_eq]), BB⟩


end Go.Proofs.Ytbcggkfbahmpoaa

/- The contracts of the two words that a list gives, of the program: a line, or none. No condition. -/
namespace Go.Proofs.Ytbcggkfbahmpoaa
open Go.ChangeShapes Go.WideShapes Go.ChangeAt Go.RowKit

theorem froz_two {w : World} {g : Nat} {cs : Array Value} {t : TypeId} (h : w.heap[g]? = some (.cells cs t (0, 0))) :
    w.frozen? ⟨g, 0, none⟩ = false ∧ w.frozen? ⟨g, 1, none⟩ = false := ⟨frozen_of_row w g 0 _ t h, frozen_of_row w g 1 _ t h⟩
theorem reads_two {w : World} {a : Option Addr} {x y : Int} (h : Reads w a [x, y]) : ∃ b off, a = some ⟨b, off, none⟩ ∧ w.cell? ⟨b, off, none⟩ = some (.int .i64 x) ∧ w.cell? ⟨b, off + 1, none⟩ = some (.int .i64 y) := by
  rcases h with h | ⟨b, off, ha, hc⟩
  · simp at h
  · exact ⟨b, off, ha, hc 0 (by simp), hc 1 (by simp)⟩

set_option maxHeartbeats 400000 in
theorem wordsOf_not (a : Option Addr) (n cap : Nat) (w : World) (hn : n ≠ 2) :
    Calls Try.prog 96 #[.slice a n cap] w fun e w' => e = .returned (.tuple #[.agg #[.int .i64 0, .int .i64 0], .bool false]) ∧ Below w.heap.size w w' := by
  have B := (Below.refl w.heap.size w).alloc (Nat.le_refl _)
  have hn' : ((n : Int) == 2) = false := by simp; omega
  go_enter Try.func96, Try.ntmps96
  go_wp2
  refine bodyPost_ret (v := .tuple #[.agg #[.int .i64 0, .int .i64 0], .bool false]) (by simp [results, Try.results96, go_sem]) rfl ⟨rfl, B _⟩

set_option maxHeartbeats 1000000 in
theorem wordsOf_two (a : Option Addr) (x y : Int) (cap : Nat) (w : World) (h : Reads w a [x, y]) :
    Calls Try.prog 96 #[.slice a 2 cap] w fun e w' => e = .returned (.tuple #[.agg #[.int .i64 x, .int .i64 y], .bool (okW x && okW y)]) ∧ Below w.heap.size w w' := by
  have B := (Below.refl w.heap.size w).alloc (Nat.le_refl _)
  obtain ⟨b, off, rfl, c0, c1⟩ := reads_two h
  have l0 := World.block_lt_of_cell? w _ c0
  go_enter Try.func96, Try.ntmps96
  go_wp2
  go_region
  go_wp2
  have R : ((w.alloc (.cells #[.int .i64 0, .int .i64 0] 114)).alloc (.cells #[.int .i64 x, .int .i64 y] 114)).drew.heap[w.heap.size]? = some (.cells #[.int .i64 0, .int .i64 0] 114 (0, 0)) := by
    show ((w.alloc (.cells #[.int .i64 0, .int .i64 0] 114)).alloc (.cells #[.int .i64 x, .int .i64 y] 114)).heap[w.heap.size]? = _
    rw [Below.heap_alloc _ _ _ (by simp)]
    exact heap_alloc_new w _
  have X : ((w.alloc (.cells #[.int .i64 0, .int .i64 0] 114)).alloc (.cells #[.int .i64 x, .int .i64 y] 114)).drew.heap[w.heap.size + 1]? = some (.cells #[.int .i64 x, .int .i64 y] 114 (0, 0)) := by
    rw [← alloc_len w (.cells #[.int .i64 0, .int .i64 0] 114)]
    exact heap_alloc_new (w.alloc (.cells #[.int .i64 0, .int .i64 0] 114)) _
  have BB := (((B (.cells #[.int .i64 0, .int .i64 0] 114)).alloc (by simp) (.cells #[.int .i64 x, .int .i64 y] 114)).drew).drew
  clear c0 c1 h
  generalize ((w.alloc (.cells #[.int .i64 0, .int .i64 0] 114)).alloc (.cells #[.int .i64 x, .int .i64 y] 114)).drew = W at R X BB ⊢
  obtain ⟨q0, q1⟩ := cell_two R
  obtain ⟨f0, f1⟩ := froz_two R
  obtain ⟨y0, y1⟩ := cell_two X
  go_region_with (go_at_call 98
                  refine (twoOk_any x y _).mono ?_
                  rintro e w' ⟨rfl, hb⟩
                  replace R := row_keep hb R
                  replace X := row_keep hb X
                  replace BB := BB.trans (hb.mono BB.size)
                  clear q0 q1 hb y0 y1 f0 f1
                  obtain ⟨q0, q1⟩ := cell_two R
                  obtain ⟨f0, f1⟩ := froz_two R
                  obtain ⟨y0, y1⟩ := cell_two X)
  all_goals
    go_wp2
    refine bodyPost_ret (v := .tuple #[.agg #[.int .i64 x, .int .i64 y], .bool (okW x && okW y)]) (by simp [results, Try.results96, go_sem, q0, q1]) rfl ⟨rfl, ?_⟩
    exact (BB.setCell (Nat.le_refl _) _).setCell (Nat.le_refl _) _

def isL : List Int → Bool
  | [x, y] => okW x && okW y
  | _ => false

theorem isL_cases (xs : List Int) : isL xs = false ∨ ∃ x y, xs = [x, y] ∧ okW x = true ∧ okW y = true := by
  match xs with
  | [] => exact .inl rfl
  | [_] => exact .inl rfl
  | [x, y] =>
    cases h1 : okW x
    · exact .inl (by simp [isL, h1])
    · cases h2 : okW y
      · exact .inl (by simp [isL, h2])
      · exact .inr ⟨x, y, rfl, h1, h2⟩
  | _ :: _ :: _ :: _ => exact .inl rfl

theorem wordsOf_no (a : Option Addr) (xs : List Int) (cap : Nat) (w : World) (h : Reads w a xs) (hn : isL xs = false) :
    Calls Try.prog 96 #[.slice a xs.length cap] w fun e w' => ∃ x y : Int, e = .returned (.tuple #[.agg #[.int .i64 x, .int .i64 y], .bool false]) ∧ Below w.heap.size w w' := by
  match xs with
  | [x, y] =>
    refine (wordsOf_two a x y cap w h).mono ?_
    rintro e w' ⟨rfl, b⟩
    exact ⟨x, y, by simp only [isL] at hn; rw [hn], b⟩
  | [] => exact (wordsOf_not a 0 cap w (by simp)).mono fun e w' h => ⟨0, 0, h⟩
  | [_] => exact (wordsOf_not a 1 cap w (by simp)).mono fun e w' h => ⟨0, 0, h⟩
  | _ :: _ :: _ :: r => exact (wordsOf_not a (r.length + 1 + 1 + 1) cap w (by omega)).mono fun e w' h => ⟨0, 0, h⟩

theorem wordsOf_any (a : Option Addr) (xs : List Int) (cap : Nat) (w : World) (h : Reads w a xs) :
    Calls Try.prog 96 #[.slice a xs.length cap] w fun e w' => ∃ x y : Int, e = .returned (.tuple #[.agg #[.int .i64 x, .int .i64 y], .bool (isL xs)]) ∧ Below w.heap.size w w' := by
  match xs with
  | [x, y] =>
    refine (wordsOf_two a x y cap w h).mono ?_
    rintro e w' ⟨rfl, b⟩
    exact ⟨x, y, rfl, b⟩
  | [] => exact (wordsOf_not a 0 cap w (by simp)).mono fun e w' h => ⟨0, 0, h⟩
  | [_] => exact (wordsOf_not a 1 cap w (by simp)).mono fun e w' h => ⟨0, 0, h⟩
  | _ :: _ :: _ :: r => exact (wordsOf_not a (r.length + 1 + 1 + 1) cap w (by omega)).mono fun e w' h => ⟨0, 0, h⟩

theorem wordsOf_yes (a : Option Addr) (x y : Int) (cap : Nat) (w : World) (h : Reads w a [x, y]) (hx : okW x = true) (hy : okW y = true) :
    Calls Try.prog 96 #[.slice a 2 cap] w fun e w' => e = .returned (.tuple #[.agg #[.int .i64 x, .int .i64 y], .bool true]) ∧ Below w.heap.size w w' := by
  refine (wordsOf_two a x y cap w h).mono ?_
  rintro e w' ⟨rfl, b⟩
  exact ⟨by rw [hx, hy]; rfl, b⟩

end Go.Proofs.Ytbcggkfbahmpoaa

/- The contracts of lines, of the program: what LineOk, WordAt, Put and Masked answer; lists are new memory. No condition. -/
namespace Go.Proofs.Ytbcggkfbahmpoaa
open Go.ChangeShapes Go.WideShapes Go.ChangeAt Go.RowKit

def wordI (xs : List Int) (k : Int) : Int := if isL xs then (if betw k 0 1 then xs.getD k.toNat 0 else -1) else -1
def putL (xs : List Int) (k v : Int) : List Int := if isL xs then (if betw k 0 1 then (if okW v then xs.set k.toNat v else xs) else xs) else []
def putB (xs : List Int) (k v : Int) : Bool := isL xs && (betw k 0 1 && okW v)
def maskL (xs ys : List Int) (m : Int) : List Int :=
  if isL xs && isL ys && betw m 0 3 then [if m % 2 = 1 then ys.getD 0 0 else xs.getD 0 0, if m / 2 % 2 = 1 then ys.getD 1 0 else xs.getD 1 0] else []

theorem isL_yes {x y : Int} (hx : okW x = true) (hy : okW y = true) : isL [x, y] = true := by simp [isL, hx, hy]
theorem betw_two {k : Int} (h : betw k 0 1 = true) : k = 0 ∨ k = 1 := by simp [betw] at h; omega
theorem betw_four {k : Int} (h : betw k 0 3 = true) : k = 0 ∨ k = 1 ∨ k = 2 ∨ k = 3 := by simp [betw] at h; omega




set_option maxHeartbeats 400000 in
theorem implLineOk_any (a : Option Addr) (xs : List Int) (cap : Nat) (w : World) (h : Reads w a xs) :
    Calls Try.prog 83 #[.slice a xs.length cap] w fun e w' => e = .returned (.bool (isL xs)) ∧ Below w.heap.size w w' := by
  rcases isL_cases xs with hn | ⟨x, y, rfl, hx, hy⟩
  · go_enter Try.func83, Try.ntmps83
    go_wp2_with fail
    refine (wordsOf_no _ xs _ _ h hn).mono ?_
    rintro e w1 ⟨x, y, rfl, b1⟩
    go_wp2
    go_ret
    exact ⟨by rw [hn]; rfl, b1.alloc b1.size _⟩
  · have hh := isL_yes hx hy
    go_enter Try.func83, Try.ntmps83
    go_wp2_with fail
    refine (wordsOf_yes _ x y _ _ h hx hy).mono ?_
    rintro e w1 ⟨rfl, b1⟩
    go_wp2
    go_ret
    exact ⟨by rw [hh]; rfl, b1.alloc b1.size _⟩


end Go.Proofs.Ytbcggkfbahmpoaa


/- Small laws on blocks and cells that every struct wants. No program here. -/
namespace Go.Proofs.Ytbcggkfbahmpoaa
open Go.ChangeShapes Go.WideShapes Go.ChangeAt Go.RowKit
set_option linter.unusedVariables false

theorem box_below (w : World) (o : Obj) : Below w.heap.size w (w.alloc o) := (Below.refl _ w).alloc (Nat.le_refl _) o
theorem heap_at (w : World) (o : Obj) : (w.alloc o).heap[w.heap.size]? = some o := heap_alloc_new w o
theorem heap_on {w : World} {k : Nat} {x : Obj} (o : Obj) (h : w.heap[k]? = some x) : (w.alloc o).heap[k]? = some x := (Below.heap_alloc w o k (Array.getElem?_eq_some_iff.1 h).1).trans h
theorem be_drewN {B : Nat} {a w : World} (h : Below B a w) (n : Nat) : Below B a (w.drewN n) := ⟨h.os, h.tape, h.output, h.size, h.block⟩
theorem cell_keep {w w' : World} {D b o : Nat} {u : Value} (hb : Below D w w') (h : w.cell? ⟨b, o, none⟩ = some u) (hl : b < D) : w'.cell? ⟨b, o, none⟩ = some u :=
  (World.cell?_of_block (w := w) (a := ⟨b, o, none⟩) (hb.block b hl)).trans h
theorem cell_lt {w : World} {b o : Nat} {u : Value} (h : w.cell? ⟨b, o, none⟩ = some u) : b < w.heap.size := World.block_lt_of_cell? w _ h
theorem own_setC {α : Type} {R : Rep α} {w : World} {S : Foot} {cs : List Value} {x : α} {g o : Nat} {v : Value} (h : R.own w S cs x) (hg : ¬ S g) : R.own (w.setCell ⟨g, o, none⟩ v) S cs x :=
  R.own_keep h fun k hk _ => heap_setCell_other w ⟨g, o, none⟩ k v (fun e => hg (by have e' : k = g := e; rw [← e']; exact hk))
theorem below_setC {w w' : World} {B g o : Nat} {v : Value} (h : Below B w w') (hg : B ≤ g) : Below B w (w'.setCell ⟨g, o, none⟩ v) := h.setCell (p := ⟨g, o, none⟩) hg v
theorem heap_setC {w : World} {g k o : Nat} {v : Value} {x : Obj} (h : w.heap[k]? = some x) (hne : k ≠ g) : (w.setCell ⟨g, o, none⟩ v).heap[k]? = some x := (heap_setCell_other w ⟨g, o, none⟩ k v hne).trans h
theorem run_make_wide {P : Program} (t e : TypeId) (z : Value) (size bytes : Nat) (ht : P.underlying t = some (.slice e)) (hinfo : (P.info? e).map (fun i => (i.zero, i.size, i.bytes)) = some (some z, size, bytes))
    (n : Nat) (hbytes : bytes * n ≤ 281474976710656) (h63 : n ≤ 9223372036854775807) (w : World) :
    (Instr.makeSlice t (.int .i64 (n : Int)) (.int .i64 (n : Int))).run P w = .ok (.slice (some ⟨w.heap.size, 0, none⟩) n n) (w.alloc (.cells (madeCells z.cells (n * size)) e)) := by
  obtain ⟨i, hi, hzz⟩ := Option.map_eq_some_iff.1 hinfo
  simp only [Prod.mk.injEq] at hzz
  obtain ⟨hz, hs, hb⟩ := hzz
  have h2 : (i.bytes : Int) * (n : Int) ≤ 281474976710656 := by rw [hb, ← Int.natCast_mul]; omega
  have := run_make (P := P) w t e i z ht hi hz .i64 .i64 (n : Int) (n : Int) (by omega) (Int.le_refl _) h2 (by omega)
  simpa [hs] using this
theorem sumbk_ge {α : Type} (M : Mk α) (xs : List α) {x : α} {k : Nat} (hx : xs[k]? = some x) : M.bk x ≤ sumbk M xs := by
  have := sumbk_get (M := M) hx
  omega
theorem arr_of {cs : Array Value} {l : List Value} (h : cs.toList = l) : cs = l.toArray := by rw [← h]
theorem bl_drewN {B : Nat} {a w : World} (h : Below B a w) (n : Nat) : Below B a (w.drewN n) := ⟨h.os, h.tape, h.output, h.size, h.block⟩
end Go.Proofs.Ytbcggkfbahmpoaa


/- A row that is owned among others, appended to, of any make. No program here. -/
namespace Go.Proofs.Ytbcggkfbahmpoaa
open Go.ChangeShapes Go.WideShapes Go.ChangeAt Go.RowKit
set_option linter.unusedVariables false

/-- What lies in a world, of a foot. -/
def Old (w : World) (S : Foot) : Foot := fun k => S k ∧ k < w.heap.size
theorem own_old {α : Type} {R : Rep α} {w : World} {S : Foot} {cs : List Value} {x : α} (h : R.own w S cs x) : R.own w (Old w S) cs x :=
  R.own_mono (R.own_tight h) fun k hk => ⟨hk.1, by obtain ⟨_, cur, t, _, hh⟩ := hk; exact (Array.getElem?_eq_some_iff.1 hh).1⟩
theorem old_sub {w : World} {S : Foot} : Sub (Old w S) S := fun _ h => h.1
theorem own_box {α : Type} {R : Rep α} {w : World} {S : Foot} {cs : List Value} {x : α} (o : Obj) (h : R.own w S cs x) : R.own (w.alloc o) S cs x := R.own_keep h fun k _ hl => Below.heap_alloc w o k hl
section
variable {α : Type}
theorem appR_any {e : TypeId} {R : Rep α} {S : Foot} {w w1 w2 : World} {o : Obj} {v v' : Value} {xs : List α} {c : List Value} {x : α} (hty : e ∉ R.tys) (h : (slR e R).own w S [v] xs) (hm : MadeR R w w1 c x)
    (happ : ∀ rows, w.ownsRow 0 e R.size v xs.length rows → w2.ownsRow 0 e R.size v' (xs.length + 1) (rows ++ c)) (hg : (w1.alloc o).grownBy w2 v.ownBlock) (hb : v'.ownBlock = v.ownBlock ∨ ∃ k, v'.ownBlock = some k ∧ w.heap.size ≤ k) :
    (slR e R).own w2 (fun k => Old w S k ∨ w.heap.size ≤ k) [v'] (xs ++ [x]) ∧ Chg (Old w S) w w2 := by
  obtain ⟨v1, rows, S', hv, hr, hgg, hs, hl⟩ := own_old h
  simp only [List.cons.injEq, and_true] at hv
  subst hv
  have hr2 := happ rows hr
  have s1 := hm.2.size
  have s2 : w1.heap.size + 1 ≤ w2.heap.size := by have := hg.size; simpa using this
  have lt := lown_tight hl
  have ot := R.own_tight hm.1
  have keepw : ∀ k, k < w1.heap.size → v.ownBlock ≠ some k → w2.heap[k]? = w1.heap[k]? := fun k hk hne => by
    rw [hg.block k (by simp; omega) (fun e => hne e.symm), Below.heap_alloc w1 o k hk]
  have L2 : lown R w2 (fun k => S' k ∧ ∃ cur t, t ∈ R.tys ∧ w.heap[k]? = some (.cells cur t (0, 0))) rows xs := lown_keep lt fun k hk hlk => by
    rw [keepw k (by omega) (fun e => (hgg k e).2 hk.1), hm.2.block k hlk]
  have O2 : R.own w2 (fun k => rng w.heap.size w1.heap.size k ∧ ∃ cur t, t ∈ R.tys ∧ w1.heap[k]? = some (.cells cur t (0, 0))) c x := R.own_keep ot fun k hk hlk =>
    keepw k hlk (fun e => by have := (hgg k e).1.2; have := hk.1.1; omega)
  refine ⟨⟨v', rows ++ c, (fun k => (S' k ∧ ∃ cur t, t ∈ R.tys ∧ w.heap[k]? = some (.cells cur t (0, 0))) ∨ (rng w.heap.size w1.heap.size k ∧ ∃ cur t, t ∈ R.tys ∧ w1.heap[k]? = some (.cells cur t (0, 0)))), rfl, by rw [List.length_append]; exact hr2, fun g hg' => ?_, ?_, lown_push L2 O2 ?_ (fun k h => .inl h) (fun k h => .inr h)⟩, ?_⟩
  · obtain ⟨cur, hcur⟩ := row_block hr2 hg'
    refine ⟨?_, ?_⟩
    · rcases hb with hb | ⟨k, hk, hk2⟩
      · rw [hb] at hg'
        exact .inl (hgg g hg').1
      · rw [hg'] at hk
        cases hk
        exact .inr hk2
    · rintro (⟨h1, cur', t, ht, hh⟩ | ⟨h1, cur', t, ht, hh⟩)
      · have hlk : g < w.heap.size := (Array.getElem?_eq_some_iff.1 hh).1
        have : w2.heap[g]? = w.heap[g]? := by rw [keepw g (by omega) (fun e => (hgg g e).2 h1), hm.2.block g hlk]
        rw [hcur, hh] at this
        simp at this
        rw [this.2] at hty
        exact hty ht
      · have hlk : g < w1.heap.size := (Array.getElem?_eq_some_iff.1 hh).1
        have : w2.heap[g]? = w1.heap[g]? := keepw g hlk (fun e => by have := (hgg g e).1.2; have := h1.1; omega)
        rw [hcur, hh] at this
        simp at this
        rw [this.2] at hty
        exact hty ht
  · rintro k (⟨h1, _⟩ | ⟨h1, _⟩)
    · exact .inl (hs k h1)
    · exact .inr h1.1
  · rintro k ⟨h1, _⟩ ⟨h2, _⟩
    have := (hs k h1).2
    have := h2.1
    omega
  · have e1 : w2.os = w.os := hg.os.trans hm.2.os
    have e2 : w2.tape = w.tape := hg.tape.trans hm.2.tape
    have e3 : w2.output = w.output := hg.output.trans hm.2.output
    refine ⟨e1, e2, e3, by omega, fun k hk hn => ?_⟩
    rw [keepw k (by omega) (fun e => hn (hgg k e).1), hm.2.block k hk]

end
theorem rows_unique {w : World} {base base' e size n : Nat} {v : Value} {xs ys : List Value} (h : w.ownsRow base e size v n xs) (k : w.ownsRow base' e size v n ys) : xs = ys := by
  rcases h.2 with ⟨rfl, rfl⟩ | ⟨g, cap, cur, rfl, _, hg, _, _, _, ht⟩
  · have h1 := h.1
    have k1 := k.1
    rw [List.eq_nil_of_length_eq_zero (l := xs) (by rw [h1]; omega), List.eq_nil_of_length_eq_zero (l := ys) (by rw [k1]; omega)]
  · rcases k.2 with ⟨h', _⟩ | ⟨g', cap', cur', h', _, hg', _, _, _, ht'⟩
    · simp at h'
    · simp only [Value.slice.injEq, Option.some.injEq, Addr.mk.injEq, and_true, true_and] at h'
      obtain ⟨rfl, rfl⟩ := h'
      rw [hg] at hg'
      simp only [Option.some.injEq, Obj.cells.injEq] at hg'
      rw [← ht, ← ht', hg'.1]

theorem owns_shape {w : World} {base e size n : Nat} {v : Value} {xs : List Value} (h : w.ownsRow base e size v (n + 1) xs) : ∃ g cap, v = .slice (some ⟨g, 0, none⟩) (n + 1) cap := by
  rcases h.2 with ⟨_, h0⟩ | ⟨g, cap, cur, rfl, _⟩
  · omega
  · exact ⟨g, cap, rfl⟩
section
variable {α : Type}
theorem app_made {e : TypeId} {R : Rep α} {w0 w w1 w2 : World} {o : Obj} {v v' : Value} {xs : List α} {c : List Value} {x : α} {rows0 : List Value} (hty : e ∉ R.tys) (h : MadeR (slR e R) w0 w [v] xs) (hm : MadeR R w w1 c x)
    (hr : w.ownsRow w0.heap.size e R.size v xs.length rows0) (hown' : w2.ownsRow w0.heap.size e R.size v' (xs.length + 1) (rows0 ++ c)) (hg : (w1.alloc o).grownBy w2 v.ownBlock) : MadeR (slR e R) w0 w2 [v'] (xs ++ [x]) :=
  appR_step hty h hm (fun rows hr' => by rw [rows_unique hr' hr]; exact hown') hg
theorem made_none {e : TypeId} {R : Rep α} (w : World) : MadeR (slR e R) w (w.alloc (.cells #[] e)) [.slice (some ⟨w.heap.size, 0, none⟩) 0 0] [] := by
  refine ⟨⟨_, [], fun _ => False, rfl, World.ownsRow_lit (base := 0) (e := e) (size := R.size) w #[] 0 (Nat.zero_le _) (Nat.zero_le _) (by simp), fun g hg => ?_, fun _ h => h.elim, rfl⟩, box_below w _⟩
  simp [Value.ownBlock] at hg
  subst hg
  exact ⟨⟨Nat.le_refl _, by simp⟩, fun h => h⟩
end
theorem cells_news (w : World) (cs : List Value) (t : TypeId) : ∀ j u, cs[j]? = some u → (w.alloc (.cells cs.toArray t)).cell? ((⟨w.heap.size, 0, none⟩ : Addr).add j) = some u := by
  intro j u hu
  have X := heap_at w (.cells cs.toArray t)
  rw [show (⟨w.heap.size, 0, none⟩ : Addr).add j = ⟨w.heap.size, j, none⟩ from by simp [Addr.add] <;> omega, cell_of_row _ _ j _ _ (0, 0) X]
  simpa using hu
theorem step_run {P : Program} {ops : Array Oper} {o : Oper} {a : Act} {w w' : World} {K : Act → World → Prop} {Q : Exit → Act → World → Prop} {E : Prop} (hgd : o.guard = none) (s x : Operand) (t ty : TypeId)
    (ho : o.op = .call { callee := .builtin .append, args := #[s, x], argTypes := #[t, t] }) (hty : o.type = ty) (v v2 v' : Value) (hs : a.eval s = v) (hx : a.eval x = v2)
    (hrun : (Builtin.append_ #[t, t] ty #[v, v2]).run P w = .ok v' w') (hK : K (a.put o.dst v') w') : if Region.wanted o (yielded ops a.tmps) = true then Oper.wp P o a w K Q else E := by
  have hw : Region.wanted o (yielded ops a.tmps) = true := by simp [Region.wanted, hgd]
  rw [if_pos hw]
  unfold Oper.wp execOp
  simp only [ho, hty, resolve, invoke, builtin, Sem.run_bind, Sem.run_pure, Result.andThen_ok, List.map_toArray, List.map_cons, List.map_nil, hs, hx, hrun]
  exact hK
end Go.Proofs.Ytbcggkfbahmpoaa


/- What a call owns, in an interval of blocks, from world to world. No program here. -/
namespace Go.Proofs.Ytbcggkfbahmpoaa
open Go.ChangeShapes Go.WideShapes Go.ChangeAt Go.RowKit
set_option linter.unusedVariables false
variable {α : Type}

def Owned (R : Rep α) (lo hi : Nat) (w : World) (cs : List Value) (x : α) : Prop := R.own w (rng lo hi) cs x ∧ hi ≤ w.heap.size
theorem owned_next {R : Rep α} {lo hi : Nat} {w w' : World} {cs : List Value} {x : α} (h : Owned R lo hi w cs x) (hb : Below w.heap.size w w') : Owned R lo hi w' cs x :=
  ⟨own_stay h.1 hb h.2, Nat.le_trans h.2 hb.size⟩
theorem owned_chg {R : Rep α} {lo hi lo' hi' : Nat} {w w' : World} {cs : List Value} {x : α} (h : Owned R lo hi w cs x) (hc : Chg (rng lo' hi') w w') (hd : hi ≤ lo' ∨ hi' ≤ lo) : Owned R lo hi w' cs x :=
  ⟨own_chg h.1 hc (rng_dis hd), Nat.le_trans h.2 hc.size⟩
theorem owned_made {R : Rep α} {w w1 : World} {cs : List Value} {x : α} (h : MadeR R w w1 cs x) : Owned R w.heap.size w1.heap.size w1 cs x := ⟨h.1, Nat.le_refl _⟩
theorem owned_drew {R : Rep α} {lo hi : Nat} {w : World} {cs : List Value} {x : α} (h : Owned R lo hi w cs x) : Owned R lo hi w.drew cs x := ⟨R.own_keep h.1 fun _ _ _ => rfl, h.2⟩
theorem row_chg {w w' : World} {k lo hi : Nat} {o : Obj} (h : w.heap[k]? = some o) (hc : Chg (rng lo hi) w w') (hk : k < lo ∨ hi ≤ k) : w'.heap[k]? = some o :=
  (hc.block k (Array.getElem?_eq_some_iff.1 h).1 fun x => by have := x.1; have := x.2; omega).trans h
theorem chg_b0 {w0 w w' : World} {lo hi : Nat} (hb : Below w0.heap.size w0 w) (hc : Chg (rng lo hi) w w') (hl : w0.heap.size ≤ lo) : Below w0.heap.size w0 w' :=
  hc.below hb (fun k hk => by have := hk.1; omega) hb.size
theorem ints_rd7 {S : Foot} {w : World} {a : Option Addr} {cap : Nat} {d : List Int} (h : intsR.own w S [.slice a d.length cap] d) : SlRd intR w a d := by
  obtain ⟨a', cap', e, _, _, hs⟩ := intsR.own_rd h
  simp only [List.cons.injEq, Value.slice.injEq, and_true, true_and] at e
  rw [e.1]
  exact hs
theorem bk_ints7 (d : List Int) : intsM.bk d = d.length := by
  have h1 : intsM.bk d = d.length + sumbk intM d := rfl
  have h2 : sumbk intM d = 0 := by
    induction d with
    | nil => rfl
    | cons x xs ih => simp only [sumbk, List.map_cons, List.sum_cons] at ih ⊢; rw [ih rfl]; rfl
  omega

end Go.Proofs.Ytbcggkfbahmpoaa
