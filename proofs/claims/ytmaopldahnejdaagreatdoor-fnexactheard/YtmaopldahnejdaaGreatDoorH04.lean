import Derived.Test.YtmaopldahnejdaaGreatDoorH00Box
import Derived.Test.YtmaopldahnejdaaGreatDoorH03
import Derived.Deep.RegionWith
import Derived.BigRegion
import Derived.Maps.AppendAt
import Derived.Deep.Cut
import Derived.Deep.DeepCutAuto
namespace Go.Proofs.YtmaopldahnejdaaGreatDoor
set_option maxHeartbeats 1000000
open Go.ChangeShapes Go.WideShapes Go.ChangeAt Go.RowKit
def press (x : Int) : Int := min (max x 0) 9999
def okW (x : Int) : Bool := betw x 0 9999
theorem pressed_any (a b : Int) (w : World) :
    Calls Tryz.prog 173 #[.agg #[nI a, nI b]] w fun e w' => e = .returned (.agg #[nI (press a), nI (press b)]) ∧ Bl w w' := by
 have B := (Below.refl w.heap.size w).alloc (Nat.le_refl _);go_enter Tryz.func173, Tryz.ntmps173;go_wp2;refine wp_loop_rounds 3 ?_;rw [rounds_succ];go_wp2
 all_goals rw [rounds_succ]
 all_goals go_wp2
 all_goals rw [rounds_succ]
 all_goals go_wp2
 all_goals
  refine bodyPost_ret (v := .agg #[nI (press a), nI (press b)]) ?_ rfl ⟨rfl, ?_⟩
  ·simp [results, Tryz.results173, go_sem]; first | done | (unfold press; omega) | (constructor <;> unfold press <;> omega)
  ·exact (B _).alloc (by simp) _
theorem alloc_len (w : World) (o : Obj) : (w.alloc o).heap.size = w.heap.size + 1 := by simp
theorem cell_two {w : World} {g : Nat} {x y : Value} {t : TypeId} (h : w.heap[g]? = some (.cells #[x, y] t (0, 0))) :
    w.cell? ⟨g, 0, none⟩ = some x ∧ w.cell? ⟨g, 1, none⟩ = some y :=
 ⟨by rw [cell_of_row w g 0 _ t (0, 0) h]; rfl, by rw [cell_of_row w g 1 _ t (0, 0) h]; rfl⟩
theorem row_keep {w w' : World} {g : Nat} {o : Obj} (hb : Bl w w') (h : w.heap[g]? = some o) : w'.heap[g]? = some o :=
 (hb.block g (ltH h)).trans h
theorem two_eq (a b c d : Int) (w : World) : (Op.equalIn 10000 140 (.agg #[nI a, nI b]) (.agg #[nI c, nI d])).run Tryz.prog w = .ok (a == c && b == d) w := by
 have u3 := Tryz.underlying2;have a3 := Tryz.isAgg2;have z3 := Tryz.sizeOf2;rw [show (10000 : Nat) = 9999 + 1 from rfl, Op.equalIn];simp only [Sem.run_bind, run_underlying Tryz.underlying140, Result.andThen_ok];simp only [Std.Legacy.Range.forIn_eq_forIn_range', Std.Legacy.Range.size, Nat.sub_zero, Nat.add_sub_cancel, Nat.div_one, List.range'_succ, List.range'_zero, List.forIn_cons, List.forIn_nil];go_simp
 by_cases f : a = c <;> by_cases g : b = d <;> simp [f, g]
theorem press_eq (x : Int) : (x == press x) = okW x := by
 rw [Bool.eq_iff_iff]; simp [press, okW, betw]; omega
theorem twoOk_any (a b : Int) (w : World) :
    Calls Tryz.prog 159 #[.agg #[nI a, nI b]] w fun e i => e = .returned (.bool (okW a && okW b)) ∧ Bl w i := by
 have B := (Below.refl w.heap.size w).alloc (Nat.le_refl _);go_enter Tryz.func159, Tryz.ntmps159;go_wp2;have R := heap_alloc_new w (.cells #[nI a, nI b] 140);have c := (B (.cells #[nI a, nI b] 140)).drew;generalize w.alloc (.cells #[nI a, nI b] 140) = W at R c ⊢;obtain ⟨f, g⟩ := cell_two R;have E := two_eq a b (press a) (press b)
 go_region_with (go_at_call 173
                 refine (pressed_any a b _).mono ?_;rintro e i ⟨rfl, d⟩;replace R := row_keep d R;replace c := c.trans (d.mono c.size);clear f g d
                 obtain ⟨f, g⟩ := cell_two R)
 all_goals
  go_wp2;go_ret
  exact ⟨ret_bool (by rw [press_eq, press_eq]), c⟩
theorem twoList_any (a b : Int) (w : World) :
    Calls Tryz.prog 181 #[.agg #[nI a, nI b]] w fun e w' => ∃ v, e = .returned v ∧ Made w w' v [a, b] := by
 have B := (Below.refl w.heap.size w).alloc (Nat.le_refl _);go_enter Tryz.func181, Tryz.ntmps181;go_wp2;go_ret
 have M := made_lit (w.alloc (.cells #[nI a, nI b] 140)) #[nI a, nI b] [a, b] rfl (by unfold maxLen; simp);rw [alloc_len] at M;exact ⟨_, rfl, made_step (B _) M⟩
theorem froz_two {w : World} {g : Nat} {cs : Array Value} {t : TypeId} (h : w.heap[g]? = some (.cells cs t (0, 0))) :
    w.frozen? ⟨g, 0, none⟩ = false ∧ w.frozen? ⟨g, 1, none⟩ = false := ⟨frozen_of_row w g 0 _ t h, frozen_of_row w g 1 _ t h⟩
theorem reads_two {w : World} {a : Option Addr} {x y : Int} (h : Reads w a [x, y]) : ∃ b c, a = some ⟨b, c, none⟩ ∧ w.cell? ⟨b, c, none⟩ = some (nI x) ∧ w.cell? ⟨b, c + 1, none⟩ = some (nI y) := by
 rcases h with h | ⟨b, c, f, d⟩
 ·simp at h
 ·exact ⟨b, c, f, d 0 (by simp), d 1 (by simp)⟩
theorem wordsOf_not (a : Option Addr) (n cap : Nat) (w : World) (hn : n ≠ 2) :
    Calls Tryz.prog 138 #[sL a n cap] w fun e w' => e = .returned (.tuple #[.agg #[nI 0, nI 0], .bool false]) ∧ Bl w w' := by
 have B := (Below.refl w.heap.size w).alloc (Nat.le_refl _);have b : ((n : Int) == 2) = false := by simp; omega
 go_enter Tryz.func138, Tryz.ntmps138;go_wp2;refine bodyPost_ret (v := .tuple #[.agg #[nI 0, nI 0], .bool false]) (by simp [results, Tryz.results138, go_sem]) rfl ⟨rfl, B _⟩
theorem wordsOf_two (a : Option Addr) (x y : Int) (cap : Nat) (w : World) (h : Reads w a [x, y]) :
    Calls Tryz.prog 138 #[sL a 2 cap] w fun e m => e = .returned (.tuple #[.agg #[nI x, nI y], .bool (okW x && okW y)]) ∧ Bl w m := by
 have B := (Below.refl w.heap.size w).alloc (Nat.le_refl _);obtain ⟨b, p, rfl, l, o⟩ := reads_two h;have l0 := World.block_lt_of_cell? w _ l;go_enter Tryz.func138, Tryz.ntmps138;go_wp2;go_region
 go_wp2;have R : ((w.alloc (.cells #[nI 0, nI 0] 140)).alloc (.cells #[nI x, nI y] 140)).drew.heap[w.heap.size]? = some (.cells #[nI 0, nI 0] 140 (0, 0)) := by
  show ((w.alloc (.cells #[nI 0, nI 0] 140)).alloc (.cells #[nI x, nI y] 140)).heap[w.heap.size]? = _
  rw [Below.heap_alloc _ _ _ (by simp)];exact heap_alloc_new w _
 have X : ((w.alloc (.cells #[nI 0, nI 0] 140)).alloc (.cells #[nI x, nI y] 140)).drew.heap[w.heap.size + 1]? = some (.cells #[nI x, nI y] 140 (0, 0)) := by
  rw [← alloc_len w (.cells #[nI 0, nI 0] 140)];exact heap_alloc_new (w.alloc (.cells #[nI 0, nI 0] 140)) _
 have c := (((B (.cells #[nI 0, nI 0] 140)).alloc (by simp) (.cells #[nI x, nI y] 140)).drew).drew;clear l o h;generalize ((w.alloc (.cells #[nI 0, nI 0] 140)).alloc (.cells #[nI x, nI y] 140)).drew = W at R X c ⊢;obtain ⟨f, g⟩ := cell_two R;obtain ⟨i, j⟩ := froz_two R;obtain ⟨n, k⟩ := cell_two X
 go_region_with (go_at_call 159
                 refine (twoOk_any x y _).mono ?_;rintro e m ⟨rfl, d⟩;replace R := row_keep d R;replace X := row_keep d X;replace c := c.trans (d.mono c.size);clear f g d n k i j;obtain ⟨f, g⟩ := cell_two R;obtain ⟨i, j⟩ := froz_two R
                 obtain ⟨n, k⟩ := cell_two X)
 all_goals
  go_wp2;refine bodyPost_ret (v := .tuple #[.agg #[nI x, nI y], .bool (okW x && okW y)]) (by simp [results, Tryz.results138, go_sem, f, g]) rfl ⟨rfl, ?_⟩;exact (c.setCell (Nat.le_refl _) _).setCell (Nat.le_refl _) _
def isL : List Int → Bool
 | [x, y] => okW x && okW y
 | _ => false
theorem isL_cases (xs : List Int) : isL xs = false ∨ ∃ x y, xs = [x, y] ∧ okW x = true ∧ okW y = true := by
 match xs with
 | [] => exact .inl rfl
 | [_] => exact .inl rfl
 | [x, y] =>
  cases b : okW x
  ·exact .inl (by simp [isL, b])
  ·cases a : okW y
   ·exact .inl (by simp [isL, a])
   ·exact .inr ⟨x, y, rfl, b, a⟩
 | _ :: _ :: _ :: _ => exact .inl rfl
theorem wordsOf_no (a : Option Addr) (xs : List Int) (cap : Nat) (w : World) (h : Reads w a xs) (hn : isL xs = false) :
    Calls Tryz.prog 138 #[sL a xs.length cap] w fun e c => ∃ x y : Int, e = .returned (.tuple #[.agg #[nI x, nI y], .bool false]) ∧ Bl w c := by
 match xs with
 | [x, y] =>
  refine (wordsOf_two a x y cap w h).mono ?_;rintro e c ⟨rfl, b⟩;exact ⟨x, y, by simp only [isL] at hn; rw [hn], b⟩
 | [] => exact (wordsOf_not a 0 cap w (by simp)).mono fun e c h => ⟨0, 0, h⟩
 | [_] => exact (wordsOf_not a 1 cap w (by simp)).mono fun e c h => ⟨0, 0, h⟩
 | _ :: _ :: _ :: r => exact (wordsOf_not a (r.length + 1 + 1 + 1) cap w (by omega)).mono fun e c h => ⟨0, 0, h⟩
theorem wordsOf_any (a : Option Addr) (xs : List Int) (cap : Nat) (w : World) (h : Reads w a xs) :
    Calls Tryz.prog 138 #[sL a xs.length cap] w fun e c => ∃ x y : Int, e = .returned (.tuple #[.agg #[nI x, nI y], .bool (isL xs)]) ∧ Bl w c := by
 match xs with
 | [x, y] =>
  refine (wordsOf_two a x y cap w h).mono ?_;rintro e c ⟨rfl, b⟩;exact ⟨x, y, rfl, b⟩
 | [] => exact (wordsOf_not a 0 cap w (by simp)).mono fun e c h => ⟨0, 0, h⟩
 | [_] => exact (wordsOf_not a 1 cap w (by simp)).mono fun e c h => ⟨0, 0, h⟩
 | _ :: _ :: _ :: r => exact (wordsOf_not a (r.length + 1 + 1 + 1) cap w (by omega)).mono fun e c h => ⟨0, 0, h⟩
theorem wordsOf_yes (a : Option Addr) (x y : Int) (cap : Nat) (w : World) (h : Reads w a [x, y]) (hx : okW x = true) (hy : okW y = true) :
    Calls Tryz.prog 138 #[sL a 2 cap] w fun e c => e = .returned (.tuple #[.agg #[nI x, nI y], .bool true]) ∧ Bl w c := by
 refine (wordsOf_two a x y cap w h).mono ?_;rintro e c ⟨rfl, b⟩;exact ⟨by rw [hx, hy]; rfl, b⟩
def maskL (xs ys : List Int) (m : Int) : List Int :=
 if isL xs && isL ys && betw m 0 3 then [if m % 2 = 1 then ys.getD 0 0 else xs.getD 0 0, if m / 2 % 2 = 1 then ys.getD 1 0 else xs.getD 1 0] else []
theorem isL_yes {x y : Int} (hx : okW x = true) (hy : okW y = true) : isL [x, y] = true := by simp [isL, hx, hy]
theorem betw_four {k : Int} (h : betw k 0 3 = true) : k = 0 ∨ k = 1 ∨ k = 2 ∨ k = 3 := by simp [betw] at h; omega
theorem maskOk_any (k : Int) (w : World) : Calls Tryz.prog 155 #[nI k] w fun e a => e = .returned (.bool (betw k 0 3)) ∧ a = w := by
 go_enter Tryz.func155, Tryz.ntmps155;go_wp2_with (go_at_call 91; refine (between_any _ _ _ _).mono ?_; rintro e a ⟨rfl, rfl⟩)
 go_ret
 exact ⟨rfl, rfl⟩
theorem implLineOk_any (a : Option Addr) (xs : List Int) (cap : Nat) (w : World) (h : Reads w a xs) :
    Calls Tryz.prog 115 #[sL a xs.length cap] w fun e w' => e = .returned (.bool (isL xs)) ∧ Bl w w' := by
 rcases isL_cases xs with d | ⟨x, y, rfl, f, c⟩
 ·go_enter Tryz.func115, Tryz.ntmps115;go_wp2_with fail
  refine (wordsOf_no _ xs _ _ h d).mono ?_;rintro e g ⟨x, y, rfl, b⟩;go_wp2;go_ret
  exact ⟨by rw [d]; rfl, b.alloc b.size _⟩
 ·have i := isL_yes f c;go_enter Tryz.func115, Tryz.ntmps115;go_wp2_with fail
  refine (wordsOf_yes _ x y _ _ h f c).mono ?_;rintro e g ⟨rfl, b⟩;go_wp2;go_ret
  exact ⟨by rw [i]; rfl, b.alloc b.size _⟩
set_option linter.unusedVariables false
theorem box_below (w : World) (o : Obj) : Bl w (w.alloc o) := (Below.refl _ w).alloc (Nat.le_refl _) o
theorem heap_at (w : World) (o : Obj) : (w.alloc o).heap[w.heap.size]? = some o := heap_alloc_new w o
theorem heap_on {w : World} {k : Nat} {x : Obj} (o : Obj) (h : w.heap[k]? = some x) : (w.alloc o).heap[k]? = some x := (Below.heap_alloc w o k (ltH h)).trans h
theorem be_drewN {B : Nat} {a w : World} (h : Below B a w) (n : Nat) : Below B a (w.drewN n) := ⟨h.os, h.tape, h.output, h.size, h.block⟩
theorem cell_keep {w w' : World} {D b o : Nat} {u : Value} (hb : Below D w w') (h : w.cell? ⟨b, o, none⟩ = some u) (hl : b < D) : w'.cell? ⟨b, o, none⟩ = some u :=
 (World.cell?_of_block (w := w) (a := ⟨b, o, none⟩) (hb.block b hl)).trans h
theorem cell_lt {w : World} {b o : Nat} {u : Value} (h : w.cell? ⟨b, o, none⟩ = some u) : b < w.heap.size := World.block_lt_of_cell? w _ h
theorem own_setC {α : Type} {R : Rep α} {w : World} {S : Foot} {cs : List Value} {x : α} {g o : Nat} {v : Value} (h : R.own w S cs x) (hg : ¬ S g) : R.own (w.setCell ⟨g, o, none⟩ v) S cs x :=
 R.own_keep h fun k hk _ => heap_setCell_other w ⟨g, o, none⟩ k v (fun e => hg (by have a : k = g := e; rw [← a]; exact hk))
theorem below_setC {w w' : World} {B g o : Nat} {v : Value} (h : Below B w w') (hg : B ≤ g) : Below B w (w'.setCell ⟨g, o, none⟩ v) := h.setCell (p := ⟨g, o, none⟩) hg v
theorem heap_setC {w : World} {g k o : Nat} {v : Value} {x : Obj} (h : w.heap[k]? = some x) (hne : k ≠ g) : (w.setCell ⟨g, o, none⟩ v).heap[k]? = some x := (heap_setCell_other w ⟨g, o, none⟩ k v hne).trans h
theorem run_make_wide {P : Program} (t e : TypeId) (z : Value) (size bytes : Nat) (ht : P.underlying t = some (.slice e)) (hinfo : (P.info? e).map (fun i => (i.zero, i.size, i.bytes)) = some (some z, size, bytes))
    (n : Nat) (hbytes : bytes * n ≤ 281474976710656) (h63 : n ≤ 9223372036854775807) (w : World) :
    (Instr.makeSlice t (nI (n : Int)) (nI (n : Int))).run P w = .ok (sL (some ⟨w.heap.size, 0, none⟩) n n) (w.alloc (.cells (madeCells z.cells (n * size)) e)) := by
 obtain ⟨i, b, a⟩ := Option.map_eq_some_iff.1 hinfo;simp only [Prod.mk.injEq] at a;obtain ⟨g, d, c⟩ := a;have f : (i.bytes : Int) * (n : Int) ≤ 281474976710656 := by rw [c, ← Int.natCast_mul]; omega
 have := run_make (P := P) w t e i z ht b g .i64 .i64 (n : Int) (n : Int) (by omega) (Int.le_refl _) f (by omega);simpa [d] using this
theorem sumbk_ge {α : Type} (M : Mk α) (xs : List α) {x : α} {k : Nat} (hx : xs[k]? = some x) : M.bk x ≤ sumbk M xs := by
 have := sumbk_get (M := M) hx;omega
theorem arr_of {cs : Array Value} {l : List Value} (h : cs.toList = l) : cs = l.toArray := by rw [← h]
def Old (w : World) (S : Foot) : Foot := fun k => S k ∧ k < w.heap.size
theorem own_old {α : Type} {R : Rep α} {w : World} {S : Foot} {cs : List Value} {x : α} (h : R.own w S cs x) : R.own w (Old w S) cs x :=
 R.own_mono (R.own_tight h) fun k hk => ⟨hk.1, by obtain ⟨_, b, t, _, a⟩ := hk; exact (ltH a)⟩
theorem old_sub {w : World} {S : Foot} : Sub (Old w S) S := fun _ h => h.1
theorem own_box {α : Type} {R : Rep α} {w : World} {S : Foot} {cs : List Value} {x : α} (o : Obj) (h : R.own w S cs x) : R.own (w.alloc o) S cs x := R.own_keep h fun k _ hl => Below.heap_alloc w o k hl
section
variable {α : Type}
end
theorem rows_unique {w : World} {base base' e size n : Nat} {v : Value} {xs ys : List Value} (h : w.ownsRow base e size v n xs) (k : w.ownsRow base' e size v n ys) : xs = ys := by
 rcases h.2 with ⟨rfl, rfl⟩ | ⟨g, q, j, rfl, _, p, _, _, _, m⟩
 ·have i := h.1;have o := k.1;rw [List.eq_nil_of_length_eq_zero (l := xs) (by rw [i]; omega), List.eq_nil_of_length_eq_zero (l := ys) (by rw [o]; omega)]
 ·rcases k.2 with ⟨b, _⟩ | ⟨g', f, d, b, _, a, _, _, _, c⟩
  ·simp at b
  ·simp only [Value.slice.injEq, Option.some.injEq, Addr.mk.injEq, and_true, true_and] at b;obtain ⟨rfl, rfl⟩ := b;rw [p] at a;simp only [Option.some.injEq, Obj.cells.injEq] at a;rw [← m, ← c, a.1]
theorem owns_shape {w : World} {base e size n : Nat} {v : Value} {xs : List Value} (h : w.ownsRow base e size v (n + 1) xs) : ∃ g a, v = sL (some ⟨g, 0, none⟩) (n + 1) a := by
 rcases h.2 with ⟨_, h0⟩ | ⟨g, a, b, rfl, _⟩
 ·omega
 ·exact ⟨g, a, rfl⟩
section
variable {α : Type}
end
theorem cells_news (w : World) (cs : List Value) (t : TypeId) : ∀ j u, cs[j]? = some u → (w.alloc (.cells cs.toArray t)).cell? ((⟨w.heap.size, 0, none⟩ : Addr).add j) = some u := by
 intro j u a;have X := heap_at w (.cells cs.toArray t);rw [show (⟨w.heap.size, 0, none⟩ : Addr).add j = ⟨w.heap.size, j, none⟩ from by simp [Addr.add] <;> omega, cell_of_row _ _ j _ _ (0, 0) X];simpa using a
variable {α : Type}
def Owned (R : Rep α) (lo hi : Nat) (w : World) (cs : List Value) (x : α) : Prop := R.own w (rng lo hi) cs x ∧ hi ≤ w.heap.size
theorem owned_next {R : Rep α} {lo hi : Nat} {w w' : World} {cs : List Value} {x : α} (h : Owned R lo hi w cs x) (hb : Bl w w') : Owned R lo hi w' cs x :=
 ⟨own_stay h.1 hb h.2, Nat.le_trans h.2 hb.size⟩
theorem owned_chg {R : Rep α} {lo hi lo' hi' : Nat} {w w' : World} {cs : List Value} {x : α} (h : Owned R lo hi w cs x) (hc : Chg (rng lo' hi') w w') (hd : hi ≤ lo' ∨ hi' ≤ lo) : Owned R lo hi w' cs x :=
 ⟨own_chg h.1 hc (rng_dis hd), Nat.le_trans h.2 hc.size⟩
theorem owned_made {R : Rep α} {w w1 : World} {cs : List Value} {x : α} (h : MadeR R w w1 cs x) : Owned R w.heap.size w1.heap.size w1 cs x := ⟨h.1, Nat.le_refl _⟩
theorem owned_drew {R : Rep α} {lo hi : Nat} {w : World} {cs : List Value} {x : α} (h : Owned R lo hi w cs x) : Owned R lo hi w.drew cs x := ⟨R.own_keep h.1 fun _ _ _ => rfl, h.2⟩
theorem row_chg {w w' : World} {k lo hi : Nat} {o : Obj} (h : w.heap[k]? = some o) (hc : Chg (rng lo hi) w w') (hk : k < lo ∨ hi ≤ k) : w'.heap[k]? = some o :=
 (hc.block k (ltH h) fun x => by have := x.1; have := x.2; omega).trans h
theorem chg_b0 {w0 w w' : World} {lo hi : Nat} (hb : Bl w0 w) (hc : Chg (rng lo hi) w w') (hl : w0.heap.size ≤ lo) : Bl w0 w' :=
 hc.below hb (fun k hk => by have := hk.1; omega) hb.size
theorem ints_rd7 {S : Foot} {w : World} {a : Option Addr} {cap : Nat} {d : List Int} (h : intsR.own w S [sL a d.length cap] d) : SlRd intR w a d := by
 obtain ⟨a', b, e, _, _, c⟩ := intsR.own_rd h;simp only [List.cons.injEq, Value.slice.injEq, and_true, true_and] at e;rw [e.1];exact c
theorem bk_ints7 (d : List Int) : intsM.bk d = d.length := by
 have h1 : intsM.bk d = d.length + sumbk intM d := rfl;have h2 : sumbk intM d = 0 := by
  induction d with
  | nil => rfl
  | cons x xs ih => simp only [sumbk, List.map_cons, List.sum_cons] at ih ⊢; rw [ih rfl]; rfl
 omega
theorem chg_from_box {w w' : World} {S : Foot} {o : Obj} (h : Chg S (w.alloc o) w') : Chg S w w' :=
 ⟨h.os, h.tape, h.output, Nat.le_trans (by simp) h.size, fun k hk hn => (h.block k (by simp; omega) hn).trans (Below.heap_alloc w o k hk)⟩
section
variable {α : Type}
def cell1 : List Value → Value
 | [v] => v
 | _ => undef
def aggV (cs : List Value) : Value := .agg cs.toArray
theorem aE {cs : List Value} : aggV cs = .agg cs.toArray := rfl
abbrev lot : Nat := 4398046511104
def SzC (f : Nat) (R : Rep α) (M : Mk α) (V : List Value → Value) : Prop := ∀ (cs : List Value) (x : α) (left : Int) (w : World), R.rd w cs x → 0 ≤ left → left ≤ 1048576 →
 Calls Tryz.prog f #[V cs, .int .i64 left] w fun e w' => e = .returned (.int .i64 (szI (M.bk x) left)) ∧ Below w.heap.size w w'
def ToC (f : Nat) (R : Rep α) (M : Mk α) (V : List Value → Value) : Prop := ∀ (cs : List Value) (x : α) (w : World), R.rd w cs x → M.bk x ≤ 1048576 →
 Calls Tryz.prog f #[V cs] w fun e w' => ∃ ds, e = .returned (V ds) ∧ MadeR R w w' ds x
def EqC (f : Nat) (R : Rep α) (M : Mk α) (V : List Value → Value) : Prop := ∀ (cs ds : List Value) (x : α) (w : World), R.rd w cs x → R.rd w ds x → M.bk x ≤ lot →
 Calls Tryz.prog f #[V cs, V ds] w fun e w' => e = .returned (.bool true) ∧ Below w.heap.size w w'
def MkC (f : Nat) (R : Rep α) (M : Mk α) (V : List Value → Value) : Prop := ∀ (S : Foot) (cs : List Value) (x : α) (k : Int) (w : World), R.own w S cs x → 0 ≤ k → k + (M.cV x : Int) ≤ (lot : Int) → M.bk x ≤ lot →
 Calls Tryz.prog f #[V cs, .int .i64 k] w fun e w' => e = .returned (.int .i64 (k + (M.cV x : Int))) ∧ R.own w' S cs (M.mV k x) ∧ Chg S w w'
def HdC (f : Nat) (R : Rep α) (M : Mk α) (V : List Value → Value) : Prop := ∀ (cs : List Value) (x : α) (k : Int) (w : World), R.rd w cs (M.mV k x) → 0 ≤ k → k + (M.cV x : Int) ≤ (lot : Int) → M.bk x ≤ lot →
 Calls Tryz.prog f #[V cs, .int .i64 k] w fun e w' => e = .returned (.int .i64 (k + (M.cV x : Int))) ∧ Below w.heap.size w w'
end
theorem own_cell {α : Type} {e : TypeId} {R : Rep α} {w : World} {S : Foot} {cs : List Value} {x : List α} (h : (slR e R).own w S cs x) : ∃ v, cs = [v] := List.length_eq_one_iff.1 ((slR e R).rd_len ((slR e R).own_rd h))
theorem be_eq {w w' : World} (h : w' = w) : Bl w w' := by rw [h]; exact Below.refl _ _
variable {α β : Type}
theorem pair_open {R : Rep α} {Q : Rep β} {w : World} {S : Foot} {cs ds : List Value} {x : α} {y : β} (h : (prodR R Q).own w S (cs ++ ds) (x, y)) (hl : cs.length = R.size) :
    ∃ b a, R.own w b cs x ∧ Q.own w a ds y ∧ Sub b S ∧ Sub a S ∧ Dis b a := by
 obtain ⟨c1, c2, b, a, e, c, f, i, g, d⟩ := h;obtain ⟨rfl, rfl⟩ := List.append_inj e (hl.trans (R.rd_len (R.own_rd c)).symm);exact ⟨b, a, c, f, i, g, d⟩
theorem pair_rd {R : Rep α} {Q : Rep β} {w : World} {cs ds : List Value} {x : α} {y : β} (h : (prodR R Q).rd w (cs ++ ds) (x, y)) (hl : cs.length = R.size) : R.rd w cs x ∧ Q.rd w ds y := by
 obtain ⟨c1, c2, e, a, b⟩ := h;obtain ⟨rfl, rfl⟩ := List.append_inj e (hl.trans (R.rd_len a).symm);exact ⟨a, b⟩
theorem pair_own {R : Rep α} {Q : Rep β} {w : World} {S S1 S2 : Foot} {cs ds : List Value} {x : α} {y : β} (h1 : R.own w S1 cs x) (h2 : Q.own w S2 ds y) (a1 : Sub S1 S) (a2 : Sub S2 S) (d : Dis S1 S2) : (prodR R Q).own w S (cs ++ ds) (x, y) :=
 ⟨cs, ds, S1, S2, rfl, h1, h2, a1, a2, d⟩
theorem mk_fst {f : Nat} {R : Rep α} {M : Mk α} {V : List Value → Value} {Q : Rep β} (H : MkC f R M V) (S : Foot) (cs ds : List Value) (x : α) (y : β) (k : Int) (w : World) (h : (prodR R Q).own w S (cs ++ ds) (x, y)) (hl : cs.length = R.size) (h0 : 0 ≤ k) (h1 : k + (M.cV x : Int) ≤ (lot : Int)) (h2 : M.bk x ≤ lot) :
    Calls Tryz.prog f #[V cs, nI k] w fun e a => e = .returned (nI (k + (M.cV x : Int))) ∧ (prodR R Q).own a S (cs ++ ds) (M.mV k x, y) ∧ Chg S w a := by
 obtain ⟨l, S2, g, j, b, i, d⟩ := pair_open h hl;refine (H l cs x k w g h0 h1 h2).mono ?_;rintro e a ⟨rfl, q, c⟩;exact ⟨rfl, pair_own q (own_chg j c fun k p r => d k r p) b i d, c.mono b⟩
theorem mk_snd {f : Nat} {Q : Rep β} {M : Mk β} {V : List Value → Value} {R : Rep α} (H : MkC f Q M V) (S : Foot) (cs ds : List Value) (x : α) (y : β) (k : Int) (w : World) (h : (prodR R Q).own w S (cs ++ ds) (x, y)) (hl : cs.length = R.size) (h0 : 0 ≤ k) (h1 : k + (M.cV y : Int) ≤ (lot : Int)) (h2 : M.bk y ≤ lot) :
    Calls Tryz.prog f #[V ds, nI k] w fun e a => e = .returned (nI (k + (M.cV y : Int))) ∧ (prodR R Q).own a S (cs ++ ds) (x, M.mV k y) ∧ Chg S w a := by
 obtain ⟨S1, i, g, j, l, b, d⟩ := pair_open h hl;refine (H i ds y k w j h0 h1 h2).mono ?_;rintro e a ⟨rfl, q, c⟩;exact ⟨rfl, pair_own (own_chg g c d) q l b d, c.mono b⟩
def Sight (R : Rep α) (n : Nat) (w : World) (cs : List Value) (x : α) : Prop := ∃ w0 : World, R.rd w0 cs x ∧ w0.heap.size = n ∧ n ≤ w.heap.size ∧ ∀ k, k < n → w.heap[k]? = w0.heap[k]?
theorem sight_of {R : Rep α} {w : World} {cs : List Value} {x : α} (h : R.rd w cs x) : Sight R w.heap.size w cs x := ⟨w, h, rfl, Nat.le_refl _, fun _ _ => rfl⟩
theorem sight_rd {R : Rep α} {n : Nat} {w : World} {cs : List Value} {x : α} (h : Sight R n w cs x) : R.rd w cs x := by
 obtain ⟨w0, a, b, h3, c⟩ := h;exact R.rd_keep a fun k hk => c k (b ▸ hk)
theorem sight_next {R : Rep α} {n : Nat} {w w' : World} {cs : List Value} {x : α} (h : Sight R n w cs x) (hb : Bl w w') : Sight R n w' cs x := by
 obtain ⟨c, b, d, a, f⟩ := h;exact ⟨c, b, d, Nat.le_trans a hb.size, fun k hk => (hb.block k (Nat.lt_of_lt_of_le hk a)).trans (f k hk)⟩
theorem sight_chg {R : Rep α} {n lo hi : Nat} {w w' : World} {cs : List Value} {x : α} (h : Sight R n w cs x) (hc : Chg (rng lo hi) w w') (hl : n ≤ lo) : Sight R n w' cs x := by
 obtain ⟨c, b, d, a, f⟩ := h;exact ⟨c, b, d, Nat.le_trans a hc.size, fun k hk => (hc.block k (Nat.lt_of_lt_of_le hk a) fun p => by have := p.1; omega).trans (f k hk)⟩
theorem sight_drew {R : Rep α} {n : Nat} {w : World} {cs : List Value} {x : α} (h : Sight R n w cs x) : Sight R n w.drew cs x := h
theorem sight_lt {R : Rep α} {n : Nat} {w : World} {cs : List Value} {x : α} (h : Sight R n w cs x) : n ≤ w.heap.size := by
 obtain ⟨w0, h1, h2, a, h4⟩ := h;exact a
section
variable {α β : Type}
def Bv (M : Mk α) (K : Nat) : Prop := ∀ x, M.cV x ≤ K * M.bk x
theorem bv_prod {M : Mk α} {N : Mk β} {K L : Nat} (h : Bv M K) (k : Bv N L) : Bv (prodM M N) (K + L) := fun x => by
 have h1 := h x.1;have h2 := k x.2;show M.cV x.1 + N.cV x.2 ≤ (K + L) * (M.bk x.1 + N.bk x.2)
 have e1 : K * M.bk x.1 ≤ K * (M.bk x.1 + N.bk x.2) := Nat.mul_le_mul_left _ (by omega);have e2 : L * N.bk x.2 ≤ L * (M.bk x.1 + N.bk x.2) := Nat.mul_le_mul_left _ (by omega);rw [Nat.add_mul];omega
theorem bv_sl {M : Mk α} {K : Nat} (h : Bd M K) : Bv (slM M) K := slcnt_bd h
theorem bv_ints : Bv intsM 1 := bv_sl bd_int
end
end Go.Proofs.YtmaopldahnejdaaGreatDoor
