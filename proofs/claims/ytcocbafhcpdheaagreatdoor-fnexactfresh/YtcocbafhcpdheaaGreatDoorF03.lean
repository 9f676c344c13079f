import Derived.Test.YtcocbafhcpdheaaGreatDoorF00Box
import Derived.Test.YtcocbafhcpdheaaGreatDoorF02
import Derived.Deep.RegionWith
import Derived.BigRegion
import Derived.Maps.AppendAt
import Derived.Deep.Cut
import Derived.Deep.DeepCutAuto
namespace Go.Proofs.YtcocbafhcpdheaaGreatDoor
set_option maxHeartbeats 1000000
open Go.ChangeShapes Go.WideShapes Go.ChangeAt Go.RowKit
def setB (s : Int) : Bool := decide (0 ≤ s ∧ s ≤ 255)
def itemB (i : Int) : Bool := decide (0 ≤ i ∧ i ≤ 7)
theorem ok_any (s : Int) (w : World) :
    Calls Tryz.prog 267 #[.int .i64 s] w fun e w' => e = .returned (.bool (setB s)) ∧ w' = w := by
 by_cases h1 : 0 ≤ s
 ·by_cases h2 : s ≤ 255
  all_goals
   go_enter Tryz.func267, Tryz.ntmps267;go_wp2;go_ret
   exact ⟨by simp [setB, h1, h2], rfl⟩
 ·go_enter Tryz.func267, Tryz.ntmps267;go_wp2;go_ret
  exact ⟨by simp only [setB]; congr 2; simp; omega, rfl⟩
theorem number_any (s : Int) (w : World) :
    Calls Tryz.prog 268 #[.int .i64 s] w fun e w' => e = .returned (.bool (itemB s)) ∧ w' = w := by
 by_cases h1 : 0 ≤ s
 ·by_cases h2 : s ≤ 7
  all_goals
   go_enter Tryz.func268, Tryz.ntmps268;go_wp2;go_ret
   exact ⟨by simp [itemB, h1, h2], rfl⟩
 ·go_enter Tryz.func268, Tryz.ntmps268;go_wp2;go_ret
  exact ⟨by simp only [itemB]; congr 2; simp; omega, rfl⟩
theorem pow_small (i : Int) (h1 : 0 ≤ i) (h2 : i ≤ 7) : wrap64 (2 ^ i.toNat) = 2 ^ i.toNat := by
 have h : i = 0 ∨ i = 1 ∨ i = 2 ∨ i = 3 ∨ i = 4 ∨ i = 5 ∨ i = 6 ∨ i = 7 := by omega
 rcases h with rfl | rfl | rfl | rfl | rfl | rfl | rfl | rfl <;> decide +kernel
theorem bitOf_any (i : Int) (w : World) (h1 : 0 ≤ i) (h2 : i ≤ 7) :
    Calls Tryz.prog 269 #[.int .i64 i] w fun e w' => e = .returned (.int .i64 (2 ^ i.toNat)) ∧ w' = w := by
 go_enter Tryz.func269, Tryz.ntmps269;go_wp2;go_ret
 exact ⟨ret_int (pow_small i h1 h2), rfl⟩
def memB (s i : Int) : Bool := (s / 2 ^ i.toNat) % 2 == 1
def inB (s i : Int) : Bool := setB s && itemB i && memB s i
theorem and_fin : ∀ s : Fin 256, ∀ i : Fin 8, (bits BinOp.and IntKind.i64 (s.val : Int) (2 ^ (i.val : Int).toNat) != 0) = memB (s.val : Int) (i.val : Int) := by
 decide +kernel
theorem and_mem (s i : Int) (h7 : 0 ≤ s) (h8 : s ≤ 255) (h5 : 0 ≤ i) (h6 : i ≤ 7) :
    (bits BinOp.and IntKind.i64 s (2 ^ i.toNat) != 0) = memB s i := by
 have := and_fin ⟨s.toNat, by omega⟩ ⟨i.toNat, by omega⟩;simpa [Int.toNat_of_nonneg h7, Int.toNat_of_nonneg h5] using this
theorem setB_bd {s : Int} (h : setB s = true) : 0 ≤ s ∧ s ≤ 255 := by simpa [setB] using h
theorem itemB_bd {i : Int} (h : itemB i = true) : 0 ≤ i ∧ i ≤ 7 := by simpa [itemB] using h
theorem has_any (s i : Int) (w : World) :
    Calls Tryz.prog 245 #[.int .i64 s, .int .i64 i] w fun e w' => e = .returned (.bool (inB s i)) ∧ w' = w := by
 cases h1 : setB s
 ·have H : Hid (inB s i = false) := by unfold Hid; simp [inB, h1]
  go_enter Tryz.func245, Tryz.ntmps245;go_wp2_with (go_at_call 267; refine (ok_any _ _).mono ?_; rintro e w' ⟨rfl, rfl⟩)
  go_ret
  exact ⟨ret_bool H.out.symm, rfl⟩
 ·cases h2 : itemB i
  ·have H : Hid (inB s i = false) := by unfold Hid; simp [inB, h2]
   go_enter Tryz.func245, Tryz.ntmps245
   go_wp2_with (first
    | (go_at_call 267; refine (ok_any _ _).mono ?_; rintro e w' ⟨rfl, rfl⟩)
    | (go_at_call 268; refine (number_any _ _).mono ?_; rintro e w' ⟨rfl, rfl⟩))
   go_ret
   exact ⟨ret_bool H.out.symm, rfl⟩
  ·obtain ⟨h5, h6⟩ := itemB_bd h2;obtain ⟨h7, h8⟩ := setB_bd h1;have H : Hid (inB s i = (bits BinOp.and IntKind.i64 s (2 ^ i.toNat) != 0)) := by unfold Hid; rw [and_mem s i h7 h8 h5 h6]; simp [inB, h1, h2]
   go_enter Tryz.func245, Tryz.ntmps245
   go_wp2_with (first
    | (go_at_call 267; refine (ok_any _ _).mono ?_; rintro e w' ⟨rfl, rfl⟩)
    | (go_at_call 268; refine (number_any _ _).mono ?_; rintro e w' ⟨rfl, rfl⟩)
    | (go_at_call 269; refine (bitOf_any _ _ h5 h6).mono ?_; rintro e w' ⟨rfl, rfl⟩))
   go_ret
   exact ⟨ret_bool H.out.symm, rfl⟩
def press (x : Int) : Int := min (max x 0) 9999
def okW (x : Int) : Bool := betw x 0 9999
theorem pressed_any (a b : Int) (w : World) :
    Calls Tryz.prog 286 #[.agg #[.int .i64 a, .int .i64 b]] w fun e w' => e = .returned (.agg #[.int .i64 (press a), .int .i64 (press b)]) ∧ Below w.heap.size w w' := by
 have B := (Below.refl w.heap.size w).alloc (Nat.le_refl _);go_enter Tryz.func286, Tryz.ntmps286;go_wp2;refine wp_loop_rounds 3 ?_;rw [rounds_succ];go_wp2
 all_goals rw [rounds_succ]
 all_goals go_wp2
 all_goals rw [rounds_succ]
 all_goals go_wp2
 all_goals
  refine bodyPost_ret (v := .agg #[.int .i64 (press a), .int .i64 (press b)]) ?_ rfl ⟨rfl, ?_⟩
  ·simp [results, Tryz.results286, go_sem]; first | done | (unfold press; omega) | (constructor <;> unfold press <;> omega)
  ·exact (B _).alloc (by simp) _
theorem alloc_len (w : World) (o : Obj) : (w.alloc o).heap.size = w.heap.size + 1 := by simp
theorem cell_two {w : World} {g : Nat} {x y : Value} {t : TypeId} (h : w.heap[g]? = some (.cells #[x, y] t (0, 0))) :
    w.cell? ⟨g, 0, none⟩ = some x ∧ w.cell? ⟨g, 1, none⟩ = some y :=
 ⟨by rw [cell_of_row w g 0 _ t (0, 0) h]; rfl, by rw [cell_of_row w g 1 _ t (0, 0) h]; rfl⟩
theorem row_keep {w w' : World} {g : Nat} {o : Obj} (hb : Below w.heap.size w w') (h : w.heap[g]? = some o) : w'.heap[g]? = some o :=
 (hb.block g (ltH h)).trans h
theorem two_eq (a b c d : Int) (w : World) : (Op.equalIn 10000 259 (.agg #[.int .i64 a, .int .i64 b]) (.agg #[.int .i64 c, .int .i64 d])).run Tryz.prog w = .ok (a == c && b == d) w := by
 have u3 := Tryz.underlying2;have a3 := Tryz.isAgg2;have z3 := Tryz.sizeOf2;rw [show (10000 : Nat) = 9999 + 1 from rfl, Op.equalIn];simp only [Sem.run_bind, run_underlying Tryz.underlying259, Result.andThen_ok];simp only [Std.Legacy.Range.forIn_eq_forIn_range', Std.Legacy.Range.size, Nat.sub_zero, Nat.add_sub_cancel, Nat.div_one, List.range'_succ, List.range'_zero, List.forIn_cons, List.forIn_nil];go_simp
 by_cases h1 : a = c <;> by_cases h2 : b = d <;> simp [h1, h2]
theorem press_eq (x : Int) : (x == press x) = okW x := by
 rw [Bool.eq_iff_iff]; simp [press, okW, betw]; omega
theorem twoOk_any (a b : Int) (w : World) :
    Calls Tryz.prog 272 #[.agg #[.int .i64 a, .int .i64 b]] w fun e w' => e = .returned (.bool (okW a && okW b)) ∧ Below w.heap.size w w' := by
 have B := (Below.refl w.heap.size w).alloc (Nat.le_refl _);go_enter Tryz.func272, Tryz.ntmps272;go_wp2;have R := heap_alloc_new w (.cells #[.int .i64 a, .int .i64 b] 259);have BB := (B (.cells #[.int .i64 a, .int .i64 b] 259)).drew;generalize w.alloc (.cells #[.int .i64 a, .int .i64 b] 259) = W at R BB ⊢;obtain ⟨q0, q1⟩ := cell_two R;have E := two_eq a b (press a) (press b)
 go_region_with (go_at_call 286
                 refine (pressed_any a b _).mono ?_;rintro e w' ⟨rfl, hb⟩;replace R := row_keep hb R;replace BB := BB.trans (hb.mono BB.size);clear q0 q1 hb
                 obtain ⟨q0, q1⟩ := cell_two R)
 all_goals
  go_wp2;go_ret
  exact ⟨ret_bool (by rw [press_eq, press_eq]), BB⟩
theorem froz_two {w : World} {g : Nat} {cs : Array Value} {t : TypeId} (h : w.heap[g]? = some (.cells cs t (0, 0))) :
    w.frozen? ⟨g, 0, none⟩ = false ∧ w.frozen? ⟨g, 1, none⟩ = false := ⟨frozen_of_row w g 0 _ t h, frozen_of_row w g 1 _ t h⟩
theorem reads_two {w : World} {a : Option Addr} {x y : Int} (h : Reads w a [x, y]) : ∃ b off, a = some ⟨b, off, none⟩ ∧ w.cell? ⟨b, off, none⟩ = some (.int .i64 x) ∧ w.cell? ⟨b, off + 1, none⟩ = some (.int .i64 y) := by
 rcases h with h | ⟨b, off, ha, hc⟩
 ·simp at h
 ·exact ⟨b, off, ha, hc 0 (by simp), hc 1 (by simp)⟩
theorem wordsOf_not (a : Option Addr) (n cap : Nat) (w : World) (hn : n ≠ 2) :
    Calls Tryz.prog 256 #[.slice a n cap] w fun e w' => e = .returned (.tuple #[.agg #[.int .i64 0, .int .i64 0], .bool false]) ∧ Below w.heap.size w w' := by
 have B := (Below.refl w.heap.size w).alloc (Nat.le_refl _);have hn' : ((n : Int) == 2) = false := by simp; omega
 go_enter Tryz.func256, Tryz.ntmps256;go_wp2;refine bodyPost_ret (v := .tuple #[.agg #[.int .i64 0, .int .i64 0], .bool false]) (by simp [results, Tryz.results256, go_sem]) rfl ⟨rfl, B _⟩
theorem wordsOf_two (a : Option Addr) (x y : Int) (cap : Nat) (w : World) (h : Reads w a [x, y]) :
    Calls Tryz.prog 256 #[.slice a 2 cap] w fun e w' => e = .returned (.tuple #[.agg #[.int .i64 x, .int .i64 y], .bool (okW x && okW y)]) ∧ Below w.heap.size w w' := by
 have B := (Below.refl w.heap.size w).alloc (Nat.le_refl _);obtain ⟨b, off, rfl, c0, c1⟩ := reads_two h;have l0 := World.block_lt_of_cell? w _ c0;go_enter Tryz.func256, Tryz.ntmps256;go_wp2;go_region
 go_wp2;have R : ((w.alloc (.cells #[.int .i64 0, .int .i64 0] 259)).alloc (.cells #[.int .i64 x, .int .i64 y] 259)).drew.heap[w.heap.size]? = some (.cells #[.int .i64 0, .int .i64 0] 259 (0, 0)) := by
  show ((w.alloc (.cells #[.int .i64 0, .int .i64 0] 259)).alloc (.cells #[.int .i64 x, .int .i64 y] 259)).heap[w.heap.size]? = _
  rw [Below.heap_alloc _ _ _ (by simp)];exact heap_alloc_new w _
 have X : ((w.alloc (.cells #[.int .i64 0, .int .i64 0] 259)).alloc (.cells #[.int .i64 x, .int .i64 y] 259)).drew.heap[w.heap.size + 1]? = some (.cells #[.int .i64 x, .int .i64 y] 259 (0, 0)) := by
  rw [← alloc_len w (.cells #[.int .i64 0, .int .i64 0] 259)];exact heap_alloc_new (w.alloc (.cells #[.int .i64 0, .int .i64 0] 259)) _
 have BB := (((B (.cells #[.int .i64 0, .int .i64 0] 259)).alloc (by simp) (.cells #[.int .i64 x, .int .i64 y] 259)).drew).drew;clear c0 c1 h;generalize ((w.alloc (.cells #[.int .i64 0, .int .i64 0] 259)).alloc (.cells #[.int .i64 x, .int .i64 y] 259)).drew = W at R X BB ⊢;obtain ⟨q0, q1⟩ := cell_two R;obtain ⟨f0, f1⟩ := froz_two R;obtain ⟨y0, y1⟩ := cell_two X
 go_region_with (go_at_call 272
                 refine (twoOk_any x y _).mono ?_;rintro e w' ⟨rfl, hb⟩;replace R := row_keep hb R;replace X := row_keep hb X;replace BB := BB.trans (hb.mono BB.size);clear q0 q1 hb y0 y1 f0 f1;obtain ⟨q0, q1⟩ := cell_two R;obtain ⟨f0, f1⟩ := froz_two R
                 obtain ⟨y0, y1⟩ := cell_two X)
 all_goals
  go_wp2;refine bodyPost_ret (v := .tuple #[.agg #[.int .i64 x, .int .i64 y], .bool (okW x && okW y)]) (by simp [results, Tryz.results256, go_sem, q0, q1]) rfl ⟨rfl, ?_⟩;exact (BB.setCell (Nat.le_refl _) _).setCell (Nat.le_refl _) _
def isL : List Int → Bool
 | [x, y] => okW x && okW y
 | _ => false
theorem isL_cases (xs : List Int) : isL xs = false ∨ ∃ x y, xs = [x, y] ∧ okW x = true ∧ okW y = true := by
 match xs with
 | [] => exact .inl rfl
 | [_] => exact .inl rfl
 | [x, y] =>
  cases h1 : okW x
  ·exact .inl (by simp [isL, h1])
  ·cases h2 : okW y
   ·exact .inl (by simp [isL, h2])
   ·exact .inr ⟨x, y, rfl, h1, h2⟩
 | _ :: _ :: _ :: _ => exact .inl rfl
theorem wordsOf_no (a : Option Addr) (xs : List Int) (cap : Nat) (w : World) (h : Reads w a xs) (hn : isL xs = false) :
    Calls Tryz.prog 256 #[.slice a xs.length cap] w fun e w' => ∃ x y : Int, e = .returned (.tuple #[.agg #[.int .i64 x, .int .i64 y], .bool false]) ∧ Below w.heap.size w w' := by
 match xs with
 | [x, y] =>
  refine (wordsOf_two a x y cap w h).mono ?_;rintro e w' ⟨rfl, b⟩;exact ⟨x, y, by simp only [isL] at hn; rw [hn], b⟩
 | [] => exact (wordsOf_not a 0 cap w (by simp)).mono fun e w' h => ⟨0, 0, h⟩
 | [_] => exact (wordsOf_not a 1 cap w (by simp)).mono fun e w' h => ⟨0, 0, h⟩
 | _ :: _ :: _ :: r => exact (wordsOf_not a (r.length + 1 + 1 + 1) cap w (by omega)).mono fun e w' h => ⟨0, 0, h⟩
theorem wordsOf_yes (a : Option Addr) (x y : Int) (cap : Nat) (w : World) (h : Reads w a [x, y]) (hx : okW x = true) (hy : okW y = true) :
    Calls Tryz.prog 256 #[.slice a 2 cap] w fun e w' => e = .returned (.tuple #[.agg #[.int .i64 x, .int .i64 y], .bool true]) ∧ Below w.heap.size w w' := by
 refine (wordsOf_two a x y cap w h).mono ?_;rintro e w' ⟨rfl, b⟩;exact ⟨by rw [hx, hy]; rfl, b⟩
theorem isL_yes {x y : Int} (hx : okW x = true) (hy : okW y = true) : isL [x, y] = true := by simp [isL, hx, hy]
theorem maskOk_any (k : Int) (w : World) : Calls Tryz.prog 233 #[.int .i64 k] w fun e w' => e = .returned (.bool (betw k 0 3)) ∧ w' = w := by
 go_enter Tryz.func233, Tryz.ntmps233;go_wp2_with (go_at_call 76; refine (between_any _ _ _ _).mono ?_; rintro e w' ⟨rfl, rfl⟩)
 go_ret
 exact ⟨rfl, rfl⟩
theorem implLineOk_any (a : Option Addr) (xs : List Int) (cap : Nat) (w : World) (h : Reads w a xs) :
    Calls Tryz.prog 224 #[.slice a xs.length cap] w fun e w' => e = .returned (.bool (isL xs)) ∧ Below w.heap.size w w' := by
 rcases isL_cases xs with hn | ⟨x, y, rfl, hx, hy⟩
 ·go_enter Tryz.func224, Tryz.ntmps224;go_wp2_with fail
  refine (wordsOf_no _ xs _ _ h hn).mono ?_;rintro e w1 ⟨x, y, rfl, b1⟩;go_wp2;go_ret
  exact ⟨by rw [hn]; rfl, b1.alloc b1.size _⟩
 ·have hh := isL_yes hx hy;go_enter Tryz.func224, Tryz.ntmps224;go_wp2_with fail
  refine (wordsOf_yes _ x y _ _ h hx hy).mono ?_;rintro e w1 ⟨rfl, b1⟩;go_wp2;go_ret
  exact ⟨by rw [hh]; rfl, b1.alloc b1.size _⟩
set_option linter.unusedVariables false
theorem box_below (w : World) (o : Obj) : Below w.heap.size w (w.alloc o) := (Below.refl _ w).alloc (Nat.le_refl _) o
theorem heap_at (w : World) (o : Obj) : (w.alloc o).heap[w.heap.size]? = some o := heap_alloc_new w o
theorem heap_on {w : World} {k : Nat} {x : Obj} (o : Obj) (h : w.heap[k]? = some x) : (w.alloc o).heap[k]? = some x := (Below.heap_alloc w o k (ltH h)).trans h
theorem be_drewN {B : Nat} {a w : World} (h : Below B a w) (n : Nat) : Below B a (w.drewN n) := ⟨h.os, h.tape, h.output, h.size, h.block⟩
theorem cell_keep {w w' : World} {D b o : Nat} {u : Value} (hb : Below D w w') (h : w.cell? ⟨b, o, none⟩ = some u) (hl : b < D) : w'.cell? ⟨b, o, none⟩ = some u :=
 (World.cell?_of_block (w := w) (a := ⟨b, o, none⟩) (hb.block b hl)).trans h
theorem cell_lt {w : World} {b o : Nat} {u : Value} (h : w.cell? ⟨b, o, none⟩ = some u) : b < w.heap.size := World.block_lt_of_cell? w _ h
theorem own_setC {α : Type} {R : Rep α} {w : World} {S : Foot} {cs : List Value} {x : α} {g o : Nat} {v : Value} (h : R.own w S cs x) (hg : ¬ S g) : R.own (w.setCell ⟨g, o, none⟩ v) S cs x :=
 R.own_keep h fun k hk _ => heap_setCell_other w ⟨g, o, none⟩ k v (fun e => hg (by have e' : k = g := e; rw [← e']; exact hk))
theorem below_setC {w w' : World} {B g o : Nat} {v : Value} (h : Below B w w') (hg : B ≤ g) : Below B w (w'.setCell ⟨g, o, none⟩ v) := h.setCell (p := ⟨g, o, none⟩) hg v
theorem heap_setC {w : World} {g k o : Nat} {v : Value} {x : Obj} (h : w.heap[k]? = some x) (hne : k ≠ g) : (w.setCell ⟨g, o, none⟩ v).heap[k]? = some x := (heap_setCell_other w ⟨g, o, none⟩ k v hne).trans h
theorem run_make_wide {P : Program} (t e : TypeId) (z : Value) (size bytes : Nat) (ht : P.underlying t = some (.slice e)) (hinfo : (P.info? e).map (fun i => (i.zero, i.size, i.bytes)) = some (some z, size, bytes))
    (n : Nat) (hbytes : bytes * n ≤ 281474976710656) (h63 : n ≤ 9223372036854775807) (w : World) :
    (Instr.makeSlice t (.int .i64 (n : Int)) (.int .i64 (n : Int))).run P w = .ok (.slice (some ⟨w.heap.size, 0, none⟩) n n) (w.alloc (.cells (madeCells z.cells (n * size)) e)) := by
 obtain ⟨i, hi, hzz⟩ := Option.map_eq_some_iff.1 hinfo;simp only [Prod.mk.injEq] at hzz;obtain ⟨hz, hs, hb⟩ := hzz;have h2 : (i.bytes : Int) * (n : Int) ≤ 281474976710656 := by rw [hb, ← Int.natCast_mul]; omega
 have := run_make (P := P) w t e i z ht hi hz .i64 .i64 (n : Int) (n : Int) (by omega) (Int.le_refl _) h2 (by omega);simpa [hs] using this
theorem sumbk_ge {α : Type} (M : Mk α) (xs : List α) {x : α} {k : Nat} (hx : xs[k]? = some x) : M.bk x ≤ sumbk M xs := by
 have := sumbk_get (M := M) hx;omega
theorem arr_of {cs : Array Value} {l : List Value} (h : cs.toList = l) : cs = l.toArray := by rw [← h]
theorem bl_drewN {B : Nat} {a w : World} (h : Below B a w) (n : Nat) : Below B a (w.drewN n) := ⟨h.os, h.tape, h.output, h.size, h.block⟩
section
variable {α : Type}
end
section
variable {α : Type}
end
variable {α : Type}
def Owned (R : Rep α) (lo hi : Nat) (w : World) (cs : List Value) (x : α) : Prop := R.own w (rng lo hi) cs x ∧ hi ≤ w.heap.size
theorem owned_next {R : Rep α} {lo hi : Nat} {w w' : World} {cs : List Value} {x : α} (h : Owned R lo hi w cs x) (hb : Below w.heap.size w w') : Owned R lo hi w' cs x :=
 ⟨own_stay h.1 hb h.2, Nat.le_trans h.2 hb.size⟩
theorem owned_made {R : Rep α} {w w1 : World} {cs : List Value} {x : α} (h : MadeR R w w1 cs x) : Owned R w.heap.size w1.heap.size w1 cs x := ⟨h.1, Nat.le_refl _⟩
theorem owned_drew {R : Rep α} {lo hi : Nat} {w : World} {cs : List Value} {x : α} (h : Owned R lo hi w cs x) : Owned R lo hi w.drew cs x := ⟨R.own_keep h.1 fun _ _ _ => rfl, h.2⟩
section
variable {α : Type}
def cell1 : List Value → Value
 | [v] => v
 | _ => undef
def aggV (cs : List Value) : Value := .agg cs.toArray
theorem aE {cs : List Value} : aggV cs = .agg cs.toArray := rfl
abbrev lot : Nat := 4398046511104
def SzC (f : Nat) (R : Rep α) (M : Mk α) (V : List Value → Value) : Prop := ∀ (cs : List Value) (x : α) (left : Int) (w : World), R.rd w cs x → 0 ≤ left → left ≤ 1048576 →
 Calls Tryz.prog f #[V cs, .int .i64 left] w fun e w' => e = .returned (.int .i64 (szI (M.bk x) left)) ∧ Below w.heap.size w w'
def ToC (f : Nat) (R : Rep α) (M : Mk α) (V : List Value → Value) : Prop := ∀ (cs : List Value) (x : α) (w : World), R.rd w cs x → M.bk x ≤ 1048576 →
 Calls Tryz.prog f #[V cs] w fun e w' => ∃ ds, e = .returned (V ds) ∧ MadeR R w w' ds x
def EqC (f : Nat) (R : Rep α) (M : Mk α) (V : List Value → Value) : Prop := ∀ (cs ds : List Value) (x : α) (w : World), R.rd w cs x → R.rd w ds x → M.bk x ≤ lot →
 Calls Tryz.prog f #[V cs, V ds] w fun e w' => e = .returned (.bool true) ∧ Below w.heap.size w w'
end
theorem be_eq {w w' : World} (h : w' = w) : Below w.heap.size w w' := by rw [h]; exact Below.refl _ _
theorem szInts_u : SzC 106 intsR intsM cell1 := by
 rintro cs x left w ⟨a, cap, rfl, l1, l2, l3⟩ h0 h1;exact (szInt64S_rep a x cap left w h0 h1 (Nat.le_trans l1 l2)).mono fun e w' ⟨q, r⟩ => ⟨q, be_eq r⟩
theorem toInts_u : ToC 112 intsR intsM cell1 := by
 rintro cs x w ⟨a, cap, rfl, l1, l2, l3⟩ hm;refine (toInt64S_rep a x cap w l3 hm).mono ?_;rintro e w' ⟨v, rfl, mm⟩;exact ⟨[v], rfl, mm⟩
theorem eqInts_u : EqC 11 intsR intsM cell1 := by
 rintro cs ds x w ⟨a, cap, rfl, l1, l2, l3⟩ ⟨b, cp, rfl, k1, k2, k3⟩ hm;refine (eqInt64S_rep a b x cap cp w l3 k3 (by have : lot = 4398046511104 := rfl; omega)).mono ?_;rintro e w' ⟨q, n, rfl⟩;exact ⟨q, be_drewN (Below.refl _ _) n⟩
variable {α β : Type}
section
variable {α β : Type}
end
end Go.Proofs.YtcocbafhcpdheaaGreatDoor
