import Derived.Test.YtdamokokcdcedaaGreatDoorE00Box
import Derived.Test.YtdamokokcdcedaaGreatDoorE02
import Derived.Deep.RegionWith
import Derived.BigRegion
import Derived.Maps.AppendAt
import Derived.Deep.Cut
import Derived.Deep.DeepCutAuto
namespace Go.Proofs.YtdamokokcdcedaaGreatDoor
set_option maxHeartbeats 1000000
open Go.ChangeShapes Go.WideShapes Go.ChangeAt Go.RowKit
def setB (s : Int) : Bool := decide (0 ≤ s ∧ s ≤ 255)
def itemB (i : Int) : Bool := decide (0 ≤ i ∧ i ≤ 7)
theorem ok_any (s : Int) (w : World) :
    Calls Tryz.prog 249 #[nI s] w fun e w' => e = .returned (.bool (setB s)) ∧ w' = w := by
 by_cases b : 0 ≤ s
 ·by_cases a : s ≤ 255
  all_goals
   go_enter Tryz.func249, Tryz.ntmps249;go_wp2;go_ret
   exact ⟨by simp [setB, b, a], rfl⟩
 ·go_enter Tryz.func249, Tryz.ntmps249;go_wp2;go_ret
  exact ⟨by simp only [setB]; congr 2; simp; omega, rfl⟩
theorem number_any (s : Int) (w : World) :
    Calls Tryz.prog 250 #[nI s] w fun e w' => e = .returned (.bool (itemB s)) ∧ w' = w := by
 by_cases b : 0 ≤ s
 ·by_cases a : s ≤ 7
  all_goals
   go_enter Tryz.func250, Tryz.ntmps250;go_wp2;go_ret
   exact ⟨by simp [itemB, b, a], rfl⟩
 ·go_enter Tryz.func250, Tryz.ntmps250;go_wp2;go_ret
  exact ⟨by simp only [itemB]; congr 2; simp; omega, rfl⟩
theorem l1Set_any (s : Int) (w : World) :
    Calls Tryz.prog 109 #[nI s] w fun e a => e = .returned (.bool (setB s)) ∧ a = w := by
 go_enter Tryz.func109, Tryz.ntmps109;go_wp2_with (go_at_call 126; refine (l1In_any _ _ _ _).mono ?_; rintro e a ⟨rfl, rfl⟩)
 go_ret
 exact ⟨rfl, rfl⟩
theorem l1Item_any (s : Int) (w : World) :
    Calls Tryz.prog 110 #[nI s] w fun e a => e = .returned (.bool (itemB s)) ∧ a = w := by
 go_enter Tryz.func110, Tryz.ntmps110;go_wp2_with (go_at_call 126; refine (l1In_any _ _ _ _).mono ?_; rintro e a ⟨rfl, rfl⟩)
 go_ret
 exact ⟨rfl, rfl⟩
theorem pow_small (i : Int) (h1 : 0 ≤ i) (h2 : i ≤ 7) : wrap64 (2 ^ i.toNat) = 2 ^ i.toNat := by
 have h : i = 0 ∨ i = 1 ∨ i = 2 ∨ i = 3 ∨ i = 4 ∨ i = 5 ∨ i = 6 ∨ i = 7 := by omega
 rcases h with rfl | rfl | rfl | rfl | rfl | rfl | rfl | rfl <;> decide +kernel
theorem bitOf_any (i : Int) (w : World) (h1 : 0 ≤ i) (h2 : i ≤ 7) :
    Calls Tryz.prog 251 #[nI i] w fun e w' => e = .returned (nI (2 ^ i.toNat)) ∧ w' = w := by
 go_enter Tryz.func251, Tryz.ntmps251;go_wp2;go_ret
 exact ⟨ret_int (pow_small i h1 h2), rfl⟩
def memB (s i : Int) : Bool := (s / 2 ^ i.toNat) % 2 == 1
def inB (s i : Int) : Bool := setB s && itemB i && memB s i
theorem and_fin : ∀ s : Fin 256, ∀ i : Fin 8, (bits BinOp.and IntKind.i64 (s.val : Int) (2 ^ (i.val : Int).toNat) != 0) = memB (s.val : Int) (i.val : Int) := by
 decide +kernel
theorem and_mem (s i : Int) (h7 : 0 ≤ s) (h8 : s ≤ 255) (h5 : 0 ≤ i) (h6 : i ≤ 7) :
    (bits BinOp.and IntKind.i64 s (2 ^ i.toNat) != 0) = memB s i := by
 have := and_fin ⟨s.toNat, by omega⟩ ⟨i.toNat, by omega⟩;simpa [Int.toNat_of_nonneg h7, Int.toNat_of_nonneg h5] using this
theorem setB_bd {s : Int} (h : setB s = true) : 0 ≤ s ∧ s ≤ 255 := by simpa [setB] using h
theorem itemB_bd {i : Int} (h : itemB i = true) : 0 ≤ i ∧ i ≤ 7 := by simpa [itemB] using h
theorem has_any (s i : Int) (w : World) :
    Calls Tryz.prog 219 #[nI s, nI i] w fun e a => e = .returned (.bool (inB s i)) ∧ a = w := by
 cases b : setB s
 ·have H : Hid (inB s i = false) := by unfold Hid; simp [inB, b]
  go_enter Tryz.func219, Tryz.ntmps219;go_wp2_with (go_at_call 249; refine (ok_any _ _).mono ?_; rintro e a ⟨rfl, rfl⟩)
  go_ret
  exact ⟨ret_bool H.out.symm, rfl⟩
 ·cases c : itemB i
  ·have H : Hid (inB s i = false) := by unfold Hid; simp [inB, c]
   go_enter Tryz.func219, Tryz.ntmps219
   go_wp2_with (first
    | (go_at_call 249; refine (ok_any _ _).mono ?_; rintro e a ⟨rfl, rfl⟩)
    | (go_at_call 250; refine (number_any _ _).mono ?_; rintro e a ⟨rfl, rfl⟩))
   go_ret
   exact ⟨ret_bool H.out.symm, rfl⟩
  ·obtain ⟨f, d⟩ := itemB_bd c;obtain ⟨j, g⟩ := setB_bd b;have H : Hid (inB s i = (bits BinOp.and IntKind.i64 s (2 ^ i.toNat) != 0)) := by unfold Hid; rw [and_mem s i j g f d]; simp [inB, b, c]
   go_enter Tryz.func219, Tryz.ntmps219
   go_wp2_with (first
    | (go_at_call 249; refine (ok_any _ _).mono ?_; rintro e a ⟨rfl, rfl⟩)
    | (go_at_call 250; refine (number_any _ _).mono ?_; rintro e a ⟨rfl, rfl⟩)
    | (go_at_call 251; refine (bitOf_any _ _ f d).mono ?_; rintro e a ⟨rfl, rfl⟩))
   go_ret
   exact ⟨ret_bool H.out.symm, rfl⟩
def press (x : Int) : Int := min (max x 0) 9999
def okW (x : Int) : Bool := betw x 0 9999
theorem pressed_any (a b : Int) (w : World) :
    Calls Tryz.prog 248 #[.agg #[nI a, nI b]] w fun e w' => e = .returned (.agg #[nI (press a), nI (press b)]) ∧ Bl w w' := by
 have B := (Below.refl w.heap.size w).alloc (Nat.le_refl _);go_enter Tryz.func248, Tryz.ntmps248;go_wp2;refine wp_loop_rounds 3 ?_;rw [rounds_succ];go_wp2
 all_goals rw [rounds_succ]
 all_goals go_wp2
 all_goals rw [rounds_succ]
 all_goals go_wp2
 all_goals
  refine bodyPost_ret (v := .agg #[nI (press a), nI (press b)]) ?_ rfl ⟨rfl, ?_⟩
  ·simp [results, Tryz.results248, go_sem]; first | done | (unfold press; omega) | (constructor <;> unfold press <;> omega)
  ·exact (B _).alloc (by simp) _
theorem alloc_len (w : World) (o : Obj) : (w.alloc o).heap.size = w.heap.size + 1 := by simp
theorem cell_two {w : World} {g : Nat} {x y : Value} {t : TypeId} (h : w.heap[g]? = some (.cells #[x, y] t (0, 0))) :
    w.cell? ⟨g, 0, none⟩ = some x ∧ w.cell? ⟨g, 1, none⟩ = some y :=
 ⟨by rw [cell_of_row w g 0 _ t (0, 0) h]; rfl, by rw [cell_of_row w g 1 _ t (0, 0) h]; rfl⟩
theorem row_keep {w w' : World} {g : Nat} {o : Obj} (hb : Bl w w') (h : w.heap[g]? = some o) : w'.heap[g]? = some o :=
 (hb.block g (ltH h)).trans h
theorem two_eq (a b c d : Int) (w : World) : (Op.equalIn 10000 204 (.agg #[nI a, nI b]) (.agg #[nI c, nI d])).run Tryz.prog w = .ok (a == c && b == d) w := by
 have u3 := Tryz.underlying2;have a3 := Tryz.isAgg2;have z3 := Tryz.sizeOf2;rw [show (10000 : Nat) = 9999 + 1 from rfl, Op.equalIn];simp only [Sem.run_bind, run_underlying Tryz.underlying204, Result.andThen_ok];simp only [Std.Legacy.Range.forIn_eq_forIn_range', Std.Legacy.Range.size, Nat.sub_zero, Nat.add_sub_cancel, Nat.div_one, List.range'_succ, List.range'_zero, List.forIn_cons, List.forIn_nil];go_simp
 by_cases f : a = c <;> by_cases g : b = d <;> simp [f, g]
theorem press_eq (x : Int) : (x == press x) = okW x := by
 rw [Bool.eq_iff_iff]; simp [press, okW, betw]; omega
theorem twoOk_any (a b : Int) (w : World) :
    Calls Tryz.prog 217 #[.agg #[nI a, nI b]] w fun e i => e = .returned (.bool (okW a && okW b)) ∧ Bl w i := by
 have B := (Below.refl w.heap.size w).alloc (Nat.le_refl _);go_enter Tryz.func217, Tryz.ntmps217;go_wp2;have R := heap_alloc_new w (.cells #[nI a, nI b] 204);have c := (B (.cells #[nI a, nI b] 204)).drew;generalize w.alloc (.cells #[nI a, nI b] 204) = W at R c ⊢;obtain ⟨g, f⟩ := cell_two R;have E := two_eq a b (press a) (press b)
 go_region_with (go_at_call 248
                 refine (pressed_any a b _).mono ?_;rintro e i ⟨rfl, d⟩;replace R := row_keep d R;replace c := c.trans (d.mono c.size);clear g f d
                 obtain ⟨g, f⟩ := cell_two R)
 all_goals
  go_wp2;go_ret
  exact ⟨ret_bool (by rw [press_eq, press_eq]), c⟩
theorem froz_two {w : World} {g : Nat} {cs : Array Value} {t : TypeId} (h : w.heap[g]? = some (.cells cs t (0, 0))) :
    w.frozen? ⟨g, 0, none⟩ = false ∧ w.frozen? ⟨g, 1, none⟩ = false := ⟨frozen_of_row w g 0 _ t h, frozen_of_row w g 1 _ t h⟩
theorem reads_two {w : World} {a : Option Addr} {x y : Int} (h : Reads w a [x, y]) : ∃ b c, a = some ⟨b, c, none⟩ ∧ w.cell? ⟨b, c, none⟩ = some (nI x) ∧ w.cell? ⟨b, c + 1, none⟩ = some (nI y) := by
 rcases h with h | ⟨b, c, f, d⟩
 ·simp at h
 ·exact ⟨b, c, f, d 0 (by simp), d 1 (by simp)⟩
theorem wordsOf_not (a : Option Addr) (n cap : Nat) (w : World) (hn : n ≠ 2) :
    Calls Tryz.prog 157 #[sL a n cap] w fun e w' => e = .returned (.tuple #[.agg #[nI 0, nI 0], .bool false]) ∧ Bl w w' := by
 have B := (Below.refl w.heap.size w).alloc (Nat.le_refl _);have b : ((n : Int) == 2) = false := by simp; omega
 go_enter Tryz.func157, Tryz.ntmps157;go_wp2;refine bodyPost_ret (v := .tuple #[.agg #[nI 0, nI 0], .bool false]) (by simp [results, Tryz.results157, go_sem]) rfl ⟨rfl, B _⟩
theorem wordsOf_two (a : Option Addr) (x y : Int) (cap : Nat) (w : World) (h : Reads w a [x, y]) :
    Calls Tryz.prog 157 #[sL a 2 cap] w fun e i => e = .returned (.tuple #[.agg #[nI x, nI y], .bool (okW x && okW y)]) ∧ Bl w i := by
 have B := (Below.refl w.heap.size w).alloc (Nat.le_refl _);obtain ⟨b, o, rfl, j, p⟩ := reads_two h;have l0 := World.block_lt_of_cell? w _ j;go_enter Tryz.func157, Tryz.ntmps157;go_wp2;go_region
 go_wp2;have R : ((w.alloc (.cells #[nI 0, nI 0] 204)).alloc (.cells #[nI x, nI y] 204)).drew.heap[w.heap.size]? = some (.cells #[nI 0, nI 0] 204 (0, 0)) := by
  show ((w.alloc (.cells #[nI 0, nI 0] 204)).alloc (.cells #[nI x, nI y] 204)).heap[w.heap.size]? = _
  rw [Below.heap_alloc _ _ _ (by simp)];exact heap_alloc_new w _
 have X : ((w.alloc (.cells #[nI 0, nI 0] 204)).alloc (.cells #[nI x, nI y] 204)).drew.heap[w.heap.size + 1]? = some (.cells #[nI x, nI y] 204 (0, 0)) := by
  rw [← alloc_len w (.cells #[nI 0, nI 0] 204)];exact heap_alloc_new (w.alloc (.cells #[nI 0, nI 0] 204)) _
 have c := (((B (.cells #[nI 0, nI 0] 204)).alloc (by simp) (.cells #[nI x, nI y] 204)).drew).drew;clear j p h;generalize ((w.alloc (.cells #[nI 0, nI 0] 204)).alloc (.cells #[nI x, nI y] 204)).drew = W at R X c ⊢;obtain ⟨g, f⟩ := cell_two R;obtain ⟨l, k⟩ := froz_two R;obtain ⟨n, m⟩ := cell_two X
 go_region_with (go_at_call 217
                 refine (twoOk_any x y _).mono ?_;rintro e i ⟨rfl, d⟩;replace R := row_keep d R;replace X := row_keep d X;replace c := c.trans (d.mono c.size);clear g f d n m l k;obtain ⟨g, f⟩ := cell_two R;obtain ⟨l, k⟩ := froz_two R
                 obtain ⟨n, m⟩ := cell_two X)
 all_goals
  go_wp2;refine bodyPost_ret (v := .tuple #[.agg #[nI x, nI y], .bool (okW x && okW y)]) (by simp [results, Tryz.results157, go_sem, g, f]) rfl ⟨rfl, ?_⟩;exact (c.setCell (Nat.le_refl _) _).setCell (Nat.le_refl _) _
def isL : List Int → Bool
 | [x, y] => okW x && okW y
 | _ => false
theorem isL_cases (xs : List Int) : isL xs = false ∨ ∃ x y, xs = [x, y] ∧ okW x = true ∧ okW y = true := by
 match xs with
 | [] => exact .inl rfl
 | [_] => exact .inl rfl
 | [x, y] =>
  cases b : okW x
  ·exact .inl (by simp [isL, b])
  ·cases a : okW y
   ·exact .inl (by simp [isL, a])
   ·exact .inr ⟨x, y, rfl, b, a⟩
 | _ :: _ :: _ :: _ => exact .inl rfl
theorem wordsOf_no (a : Option Addr) (xs : List Int) (cap : Nat) (w : World) (h : Reads w a xs) (hn : isL xs = false) :
    Calls Tryz.prog 157 #[sL a xs.length cap] w fun e c => ∃ x y : Int, e = .returned (.tuple #[.agg #[nI x, nI y], .bool false]) ∧ Bl w c := by
 match xs with
 | [x, y] =>
  refine (wordsOf_two a x y cap w h).mono ?_;rintro e c ⟨rfl, b⟩;exact ⟨x, y, by simp only [isL] at hn; rw [hn], b⟩
 | [] => exact (wordsOf_not a 0 cap w (by simp)).mono fun e c h => ⟨0, 0, h⟩
 | [_] => exact (wordsOf_not a 1 cap w (by simp)).mono fun e c h => ⟨0, 0, h⟩
 | _ :: _ :: _ :: r => exact (wordsOf_not a (r.length + 1 + 1 + 1) cap w (by omega)).mono fun e c h => ⟨0, 0, h⟩
theorem wordsOf_yes (a : Option Addr) (x y : Int) (cap : Nat) (w : World) (h : Reads w a [x, y]) (hx : okW x = true) (hy : okW y = true) :
    Calls Tryz.prog 157 #[sL a 2 cap] w fun e c => e = .returned (.tuple #[.agg #[nI x, nI y], .bool true]) ∧ Bl w c := by
 refine (wordsOf_two a x y cap w h).mono ?_;rintro e c ⟨rfl, b⟩;exact ⟨by rw [hx, hy]; rfl, b⟩
theorem isL_yes {x y : Int} (hx : okW x = true) (hy : okW y = true) : isL [x, y] = true := by simp [isL, hx, hy]
theorem maskOk_any (k : Int) (w : World) : Calls Tryz.prog 160 #[nI k] w fun e a => e = .returned (.bool (betw k 0 3)) ∧ a = w := by
 go_enter Tryz.func160, Tryz.ntmps160;go_wp2_with (go_at_call 156; refine (between_any _ _ _ _).mono ?_; rintro e a ⟨rfl, rfl⟩)
 go_ret
 exact ⟨rfl, rfl⟩
theorem implLineOk_any (a : Option Addr) (xs : List Int) (cap : Nat) (w : World) (h : Reads w a xs) :
    Calls Tryz.prog 91 #[sL a xs.length cap] w fun e w' => e = .returned (.bool (isL xs)) ∧ Bl w w' := by
 rcases isL_cases xs with c | ⟨x, y, rfl, f, d⟩
 ·go_enter Tryz.func91, Tryz.ntmps91;go_wp2_with fail
  refine (wordsOf_no _ xs _ _ h c).mono ?_;rintro e g ⟨x, y, rfl, b⟩;go_wp2;go_ret
  exact ⟨by rw [c]; rfl, b.alloc b.size _⟩
 ·have i := isL_yes f d;go_enter Tryz.func91, Tryz.ntmps91;go_wp2_with fail
  refine (wordsOf_yes _ x y _ _ h f d).mono ?_;rintro e g ⟨rfl, b⟩;go_wp2;go_ret
  exact ⟨by rw [i]; rfl, b.alloc b.size _⟩
set_option linter.unusedVariables false
theorem box_below (w : World) (o : Obj) : Bl w (w.alloc o) := (Below.refl _ w).alloc (Nat.le_refl _) o
theorem heap_at (w : World) (o : Obj) : (w.alloc o).heap[w.heap.size]? = some o := heap_alloc_new w o
theorem heap_on {w : World} {k : Nat} {x : Obj} (o : Obj) (h : w.heap[k]? = some x) : (w.alloc o).heap[k]? = some x := (Below.heap_alloc w o k (ltH h)).trans h
theorem be_drewN {B : Nat} {a w : World} (h : Below B a w) (n : Nat) : Below B a (w.drewN n) := ⟨h.os, h.tape, h.output, h.size, h.block⟩
theorem cell_keep {w w' : World} {D b o : Nat} {u : Value} (hb : Below D w w') (h : w.cell? ⟨b, o, none⟩ = some u) (hl : b < D) : w'.cell? ⟨b, o, none⟩ = some u :=
 (World.cell?_of_block (w := w) (a := ⟨b, o, none⟩) (hb.block b hl)).trans h
theorem cell_lt {w : World} {b o : Nat} {u : Value} (h : w.cell? ⟨b, o, none⟩ = some u) : b < w.heap.size := World.block_lt_of_cell? w _ h
theorem own_setC {α : Type} {R : Rep α} {w : World} {S : Foot} {cs : List Value} {x : α} {g o : Nat} {v : Value} (h : R.own w S cs x) (hg : ¬ S g) : R.own (w.setCell ⟨g, o, none⟩ v) S cs x :=
 R.own_keep h fun k hk _ => heap_setCell_other w ⟨g, o, none⟩ k v (fun e => hg (by have a : k = g := e; rw [← a]; exact hk))
theorem below_setC {w w' : World} {B g o : Nat} {v : Value} (h : Below B w w') (hg : B ≤ g) : Below B w (w'.setCell ⟨g, o, none⟩ v) := h.setCell (p := ⟨g, o, none⟩) hg v
theorem heap_setC {w : World} {g k o : Nat} {v : Value} {x : Obj} (h : w.heap[k]? = some x) (hne : k ≠ g) : (w.setCell ⟨g, o, none⟩ v).heap[k]? = some x := (heap_setCell_other w ⟨g, o, none⟩ k v hne).trans h
theorem run_make_wide {P : Program} (t e : TypeId) (z : Value) (size bytes : Nat) (ht : P.underlying t = some (.slice e)) (hinfo : (P.info? e).map (fun i => (i.zero, i.size, i.bytes)) = some (some z, size, bytes))
    (n : Nat) (hbytes : bytes * n ≤ 281474976710656) (h63 : n ≤ 9223372036854775807) (w : World) :
    (Instr.makeSlice t (nI (n : Int)) (nI (n : Int))).run P w = .ok (sL (some ⟨w.heap.size, 0, none⟩) n n) (w.alloc (.cells (madeCells z.cells (n * size)) e)) := by
 obtain ⟨i, b, a⟩ := Option.map_eq_some_iff.1 hinfo;simp only [Prod.mk.injEq] at a;obtain ⟨d, c, f⟩ := a;have g : (i.bytes : Int) * (n : Int) ≤ 281474976710656 := by rw [f, ← Int.natCast_mul]; omega
 have := run_make (P := P) w t e i z ht b d .i64 .i64 (n : Int) (n : Int) (by omega) (Int.le_refl _) g (by omega);simpa [c] using this
theorem sumbk_ge {α : Type} (M : Mk α) (xs : List α) {x : α} {k : Nat} (hx : xs[k]? = some x) : M.bk x ≤ sumbk M xs := by
 have := sumbk_get (M := M) hx;omega
theorem arr_of {cs : Array Value} {l : List Value} (h : cs.toList = l) : cs = l.toArray := by rw [← h]
theorem bl_drewN {B : Nat} {a w : World} (h : Below B a w) (n : Nat) : Below B a (w.drewN n) := ⟨h.os, h.tape, h.output, h.size, h.block⟩
section
variable {α : Type}
end
section
variable {α : Type}
end
variable {α : Type}
def Owned (R : Rep α) (lo hi : Nat) (w : World) (cs : List Value) (x : α) : Prop := R.own w (rng lo hi) cs x ∧ hi ≤ w.heap.size
theorem owned_next {R : Rep α} {lo hi : Nat} {w w' : World} {cs : List Value} {x : α} (h : Owned R lo hi w cs x) (hb : Bl w w') : Owned R lo hi w' cs x :=
 ⟨own_stay h.1 hb h.2, Nat.le_trans h.2 hb.size⟩
theorem owned_made {R : Rep α} {w w1 : World} {cs : List Value} {x : α} (h : MadeR R w w1 cs x) : Owned R w.heap.size w1.heap.size w1 cs x := ⟨h.1, Nat.le_refl _⟩
theorem owned_drew {R : Rep α} {lo hi : Nat} {w : World} {cs : List Value} {x : α} (h : Owned R lo hi w cs x) : Owned R lo hi w.drew cs x := ⟨R.own_keep h.1 fun _ _ _ => rfl, h.2⟩
section
variable {α : Type}
def cell1 : List Value → Value
 | [v] => v
 | _ => undef
def aggV (cs : List Value) : Value := .agg cs.toArray
theorem aE {cs : List Value} : aggV cs = .agg cs.toArray := rfl
abbrev lot : Nat := 4398046511104
def SzC (f : Nat) (R : Rep α) (M : Mk α) (V : List Value → Value) : Prop := ∀ (cs : List Value) (x : α) (left : Int) (w : World), R.rd w cs x → 0 ≤ left → left ≤ 1048576 →
 Calls Tryz.prog f #[V cs, .int .i64 left] w fun e w' => e = .returned (.int .i64 (szI (M.bk x) left)) ∧ Below w.heap.size w w'
def ToC (f : Nat) (R : Rep α) (M : Mk α) (V : List Value → Value) : Prop := ∀ (cs : List Value) (x : α) (w : World), R.rd w cs x → M.bk x ≤ 1048576 →
 Calls Tryz.prog f #[V cs] w fun e w' => ∃ ds, e = .returned (V ds) ∧ MadeR R w w' ds x
def EqC (f : Nat) (R : Rep α) (M : Mk α) (V : List Value → Value) : Prop := ∀ (cs ds : List Value) (x : α) (w : World), R.rd w cs x → R.rd w ds x → M.bk x ≤ lot →
 Calls Tryz.prog f #[V cs, V ds] w fun e w' => e = .returned (.bool true) ∧ Below w.heap.size w w'
end
theorem be_eq {w w' : World} (h : w' = w) : Bl w w' := by rw [h]; exact Below.refl _ _
theorem szInts_u : SzC 120 intsR intsM cell1 := by
 rintro cs x left w ⟨a, b, rfl, g, c, l3⟩ f d;exact (szInt64S_rep a x b left w f d (Nat.le_trans g c)).mono fun e w' ⟨q, r⟩ => ⟨q, be_eq r⟩
theorem toInts_u : ToC 138 intsR intsM cell1 := by
 rintro cs x w ⟨a, b, rfl, l1, l2, f⟩ c;refine (toInt64S_rep a x b w f c).mono ?_;rintro e w' ⟨v, rfl, d⟩;exact ⟨[v], rfl, d⟩
theorem eqInts_u : EqC 39 intsR intsM cell1 := by
 rintro cs ds x w ⟨a, c, rfl, l1, l2, d⟩ ⟨b, f, rfl, k1, k2, g⟩ hm;refine (eqInt64S_rep a b x c f w d g (by have : lot = 4398046511104 := rfl; omega)).mono ?_;rintro e w' ⟨q, n, rfl⟩;exact ⟨q, be_drewN (Below.refl _ _) n⟩
variable {α β : Type}
section
variable {α β : Type}
end
end Go.Proofs.YtdamokokcdcedaaGreatDoor
