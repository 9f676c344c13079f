import Derived.Test.YtmaopldahnejdaaGreatDoorG00Box
import Derived.Test.YtmaopldahnejdaaGreatDoorG02
import Derived.Deep.RegionWith
import Derived.BigRegion
import Derived.Maps.AppendAt
namespace Go.Proofs.YtmaopldahnejdaaGreatDoor
set_option maxHeartbeats 1000000
open Go.ChangeShapes Go.WideShapes Go.ChangeAt Go.RowKit
def zG0 (x : Int) : Int := min (max x 0) 9999
def okW (x : Int) : Bool := zA6 x 0 9999
theorem zIJ (a b : Int) (w : World) :
    Calls Tryz.prog 173 #[.agg #[nI a, nI b]] w fun e w' => e = .returned (.agg #[nI (zG0 a), nI (zG0 b)]) ∧ Bl w w' := by
 have B := (Below.refl w.heap.size w).alloc (Nat.le_refl _);go_enter Tryz.func173, Tryz.ntmps173;go_wp2;refine wp_loop_rounds 3 ?_;rw [rounds_succ];go_wp2
 all_goals rw [rounds_succ]
 all_goals go_wp2
 all_goals rw [rounds_succ]
 all_goals go_wp2
 all_goals
  refine bodyPost_ret (v := .agg #[nI (zG0 a), nI (zG0 b)]) ?_ rfl ⟨rfl, ?_⟩
  ·simp [results, Tryz.results173, go_sem]; first | done | (unfold zG0; omega) | (constructor <;> unfold zG0 <;> omega)
  ·exact (B _).alloc (by simp) _
theorem zAu (w : World) (o : Obj) : (w.alloc o).heap.size = w.heap.size + 1 := by simp
theorem zD0 {w : World} {g : Nat} {x y : Value} {t : TypeId} (h : w.heap[g]? = some (.cells #[x, y] t (0, 0))) :
    w.cell? ⟨g, 0, none⟩ = some x ∧ w.cell? ⟨g, 1, none⟩ = some y :=
 ⟨by rw [cell_of_row w g 0 _ t (0, 0) h]; rfl, by rw [cell_of_row w g 1 _ t (0, 0) h]; rfl⟩
theorem zAb {w w' : World} {g : Nat} {o : Obj} (hb : Bl w w') (h : w.heap[g]? = some o) : w'.heap[g]? = some o :=
 (hb.block g (ltH h)).trans h
theorem two_eq (a b c d : Int) (w : World) : (Op.equalIn 10000 140 (.agg #[nI a, nI b]) (.agg #[nI c, nI d])).run Tryz.prog w = .ok (a == c && b == d) w := by
 have u3 := Tryz.underlying2;have a3 := Tryz.isAgg2;have z3 := Tryz.sizeOf2;rw [show (10000 : Nat) = 9999 + 1 from rfl, Op.equalIn];simp only [Sem.run_bind, run_underlying Tryz.underlying140, Result.andThen_ok];simp only [Std.Legacy.Range.forIn_eq_forIn_range', Std.Legacy.Range.size, Nat.sub_zero, Nat.add_sub_cancel, Nat.div_one, List.range'_succ, List.range'_zero, List.forIn_cons, List.forIn_nil];go_simp
 by_cases f : a = c <;> by_cases g : b = d <;> simp [f, g]
theorem zJ3 (x : Int) : (x == zG0 x) = okW x := by
 rw [Bool.eq_iff_iff]; simp [zG0, okW, zA6]; omega
theorem zKL (a b : Int) (w : World) :
    Calls Tryz.prog 159 #[.agg #[nI a, nI b]] w fun e i => e = .returned (.bool (okW a && okW b)) ∧ Bl w i := by
 have B := (Below.refl w.heap.size w).alloc (Nat.le_refl _);go_enter Tryz.func159, Tryz.ntmps159;go_wp2;have R := heap_alloc_new w (.cells #[nI a, nI b] 140);have c := (B (.cells #[nI a, nI b] 140)).drew;generalize w.alloc (.cells #[nI a, nI b] 140) = W at R c ⊢;obtain ⟨g, f⟩ := zD0 R;have E := two_eq a b (zG0 a) (zG0 b)
 go_region_with (go_at_call 173
                 refine (zIJ a b _).mono ?_;rintro e i ⟨rfl, d⟩;replace R := zAb d R;replace c := c.trans (d.mono c.size);clear g f d
                 obtain ⟨g, f⟩ := zD0 R)
 all_goals
  go_wp2;go_ret
  exact ⟨zAJ (by rw [zJ3, zJ3]), c⟩
theorem zIK (a b : Int) (w : World) :
    Calls Tryz.prog 181 #[.agg #[nI a, nI b]] w fun e w' => ∃ v, e = .returned v ∧ zCH w w' v [a, b] := by
 have B := (Below.refl w.heap.size w).alloc (Nat.le_refl _);go_enter Tryz.func181, Tryz.ntmps181;go_wp2;go_ret
 have M := zFF (w.alloc (.cells #[nI a, nI b] 140)) #[nI a, nI b] [a, b] rfl (by unfold maxLen; simp);rw [zAu] at M;exact ⟨_, rfl, zBn (B _) M⟩
theorem zHn {w : World} {g : Nat} {cs : Array Value} {t : TypeId} (h : w.heap[g]? = some (.cells cs t (0, 0))) :
    w.frozen? ⟨g, 0, none⟩ = false ∧ w.frozen? ⟨g, 1, none⟩ = false := ⟨frozen_of_row w g 0 _ t h, frozen_of_row w g 1 _ t h⟩
theorem zDr {w : World} {a : Option Addr} {x y : Int} (h : zBr w a [x, y]) : ∃ b c, a = some ⟨b, c, none⟩ ∧ w.cell? ⟨b, c, none⟩ = some (nI x) ∧ w.cell? ⟨b, c + 1, none⟩ = some (nI y) := by
 rcases h with h | ⟨b, c, f, d⟩
 ·simp at h
 ·exact ⟨b, c, f, d 0 (by simp), d 1 (by simp)⟩
theorem zC7 (a : Option Addr) (n cap : Nat) (w : World) (hn : n ≠ 2) :
    Calls Tryz.prog 138 #[sL a n cap] w fun e w' => e = .returned (.tuple #[.agg #[nI 0, nI 0], .bool false]) ∧ Bl w w' := by
 have B := (Below.refl w.heap.size w).alloc (Nat.le_refl _);have b : ((n : Int) == 2) = false := by simp; omega
 go_enter Tryz.func138, Tryz.ntmps138;go_wp2;refine bodyPost_ret (v := .tuple #[.agg #[nI 0, nI 0], .bool false]) (by simp [results, Tryz.results138, go_sem]) rfl ⟨rfl, B _⟩
theorem zE6 (a : Option Addr) (x y : Int) (cap : Nat) (w : World) (h : zBr w a [x, y]) :
    Calls Tryz.prog 138 #[sL a 2 cap] w fun e l => e = .returned (.tuple #[.agg #[nI x, nI y], .bool (okW x && okW y)]) ∧ Bl w l := by
 have B := (Below.refl w.heap.size w).alloc (Nat.le_refl _);obtain ⟨b, o, rfl, k, p⟩ := zDr h;have l0 := World.block_lt_of_cell? w _ k;go_enter Tryz.func138, Tryz.ntmps138;go_wp2;go_region
 go_wp2;have R : ((w.alloc (.cells #[nI 0, nI 0] 140)).alloc (.cells #[nI x, nI y] 140)).drew.heap[w.heap.size]? = some (.cells #[nI 0, nI 0] 140 (0, 0)) := by
  show ((w.alloc (.cells #[nI 0, nI 0] 140)).alloc (.cells #[nI x, nI y] 140)).heap[w.heap.size]? = _
  rw [Below.heap_alloc _ _ _ (by simp)];exact heap_alloc_new w _
 have X : ((w.alloc (.cells #[nI 0, nI 0] 140)).alloc (.cells #[nI x, nI y] 140)).drew.heap[w.heap.size + 1]? = some (.cells #[nI x, nI y] 140 (0, 0)) := by
  rw [← zAu w (.cells #[nI 0, nI 0] 140)];exact heap_alloc_new (w.alloc (.cells #[nI 0, nI 0] 140)) _
 have c := (((B (.cells #[nI 0, nI 0] 140)).alloc (by simp) (.cells #[nI x, nI y] 140)).drew).drew;clear k p h;generalize ((w.alloc (.cells #[nI 0, nI 0] 140)).alloc (.cells #[nI x, nI y] 140)).drew = W at R X c ⊢;obtain ⟨g, f⟩ := zD0 R;obtain ⟨n, j⟩ := zHn R;obtain ⟨i, m⟩ := zD0 X
 go_region_with (go_at_call 159
                 refine (zKL x y _).mono ?_;rintro e l ⟨rfl, d⟩;replace R := zAb d R;replace X := zAb d X;replace c := c.trans (d.mono c.size);clear g f d i m n j;obtain ⟨g, f⟩ := zD0 R;obtain ⟨n, j⟩ := zHn R
                 obtain ⟨i, m⟩ := zD0 X)
 all_goals
  go_wp2;refine bodyPost_ret (v := .tuple #[.agg #[nI x, nI y], .bool (okW x && okW y)]) (by simp [results, Tryz.results138, go_sem, g, f]) rfl ⟨rfl, ?_⟩;exact (c.setCell (Nat.le_refl _) _).setCell (Nat.le_refl _) _
def isL : List Int → Bool
 | [x, y] => okW x && okW y
 | _ => false
theorem zBJ (xs : List Int) : isL xs = false ∨ ∃ x y, xs = [x, y] ∧ okW x = true ∧ okW y = true := by
 match xs with
 | [] => exact .inl rfl
 | [_] => exact .inl rfl
 | [x, y] =>
  cases a : okW x
  ·exact .inl (by simp [isL, a])
  ·cases b : okW y
   ·exact .inl (by simp [isL, b])
   ·exact .inr ⟨x, y, rfl, a, b⟩
 | _ :: _ :: _ :: _ => exact .inl rfl
theorem zKd (a : Option Addr) (xs : List Int) (cap : Nat) (w : World) (h : zBr w a xs) (hn : isL xs = false) :
    Calls Tryz.prog 138 #[sL a xs.length cap] w fun e c => ∃ x y : Int, e = .returned (.tuple #[.agg #[nI x, nI y], .bool false]) ∧ Bl w c := by
 match xs with
 | [x, y] =>
  refine (zE6 a x y cap w h).mono ?_;rintro e c ⟨rfl, b⟩;exact ⟨x, y, by simp only [isL] at hn; rw [hn], b⟩
 | [] => exact (zC7 a 0 cap w (by simp)).mono fun e c h => ⟨0, 0, h⟩
 | [_] => exact (zC7 a 1 cap w (by simp)).mono fun e c h => ⟨0, 0, h⟩
 | _ :: _ :: _ :: r => exact (zC7 a (r.length + 1 + 1 + 1) cap w (by omega)).mono fun e c h => ⟨0, 0, h⟩
theorem zFU (a : Option Addr) (xs : List Int) (cap : Nat) (w : World) (h : zBr w a xs) :
    Calls Tryz.prog 138 #[sL a xs.length cap] w fun e c => ∃ x y : Int, e = .returned (.tuple #[.agg #[nI x, nI y], .bool (isL xs)]) ∧ Bl w c := by
 match xs with
 | [x, y] =>
  refine (zE6 a x y cap w h).mono ?_;rintro e c ⟨rfl, b⟩;exact ⟨x, y, rfl, b⟩
 | [] => exact (zC7 a 0 cap w (by simp)).mono fun e c h => ⟨0, 0, h⟩
 | [_] => exact (zC7 a 1 cap w (by simp)).mono fun e c h => ⟨0, 0, h⟩
 | _ :: _ :: _ :: r => exact (zC7 a (r.length + 1 + 1 + 1) cap w (by omega)).mono fun e c h => ⟨0, 0, h⟩
theorem zE7 (a : Option Addr) (x y : Int) (cap : Nat) (w : World) (h : zBr w a [x, y]) (hx : okW x = true) (hy : okW y = true) :
    Calls Tryz.prog 138 #[sL a 2 cap] w fun e c => e = .returned (.tuple #[.agg #[nI x, nI y], .bool true]) ∧ Bl w c := by
 refine (zE6 a x y cap w h).mono ?_;rintro e c ⟨rfl, b⟩;exact ⟨by rw [hx, hy]; rfl, b⟩
def zBz (xs ys : List Int) (m : Int) : List Int :=
 if isL xs && isL ys && zA6 m 0 3 then [if m % 2 = 1 then ys.getD 0 0 else xs.getD 0 0, if m / 2 % 2 = 1 then ys.getD 1 0 else xs.getD 1 0] else []
theorem zE8 {x y : Int} (hx : okW x = true) (hy : okW y = true) : isL [x, y] = true := by simp [isL, hx, hy]
theorem zHY {k : Int} (h : zA6 k 0 3 = true) : k = 0 ∨ k = 1 ∨ k = 2 ∨ k = 3 := by simp [zA6] at h; omega
theorem zCe (k : Int) (w : World) : Calls Tryz.prog 155 #[nI k] w fun e a => e = .returned (.bool (zA6 k 0 3)) ∧ a = w := by
 go_enter Tryz.func155, Tryz.ntmps155;go_wp2_with (go_at_call 91; refine (zA8 _ _ _ _).mono ?_; rintro e a ⟨rfl, rfl⟩)
 go_ret
 exact ⟨rfl, rfl⟩
theorem zCI (a : Option Addr) (xs : List Int) (cap : Nat) (w : World) (h : zBr w a xs) :
    Calls Tryz.prog 115 #[sL a xs.length cap] w fun e w' => e = .returned (.bool (isL xs)) ∧ Bl w w' := by
 rcases zBJ xs with c | ⟨x, y, rfl, d, f⟩
 ·go_enter Tryz.func115, Tryz.ntmps115;go_wp2_with fail
  refine (zKd _ xs _ _ h c).mono ?_;rintro e g ⟨x, y, rfl, b⟩;go_wp2;go_ret
  exact ⟨by rw [c]; rfl, b.alloc b.size _⟩
 ·have i := zE8 d f;go_enter Tryz.func115, Tryz.ntmps115;go_wp2_with fail
  refine (zE7 _ x y _ _ h d f).mono ?_;rintro e g ⟨rfl, b⟩;go_wp2;go_ret
  exact ⟨by rw [i]; rfl, b.alloc b.size _⟩
set_option linter.unusedVariables false
theorem zAg (w : World) (o : Obj) : Bl w (w.alloc o) := (Below.refl _ w).alloc (Nat.le_refl _) o
theorem zAw (w : World) (o : Obj) : (w.alloc o).heap[w.heap.size]? = some o := heap_alloc_new w o
theorem zAW {w : World} {k : Nat} {x : Obj} (o : Obj) (h : w.heap[k]? = some x) : (w.alloc o).heap[k]? = some x := (Below.heap_alloc w o k (ltH h)).trans h
theorem zJ4 {B : Nat} {a w : World} (h : Below B a w) (n : Nat) : Below B a (w.drewN n) := ⟨h.os, h.tape, h.output, h.size, h.block⟩
theorem zAf {w w' : World} {D b o : Nat} {u : Value} (hb : Below D w w') (h : w.cell? ⟨b, o, none⟩ = some u) (hl : b < D) : w'.cell? ⟨b, o, none⟩ = some u :=
 (World.cell?_of_block (w := w) (a := ⟨b, o, none⟩) (hb.block b hl)).trans h
theorem zAi {w : World} {b o : Nat} {u : Value} (h : w.cell? ⟨b, o, none⟩ = some u) : b < w.heap.size := World.block_lt_of_cell? w _ h
theorem zAn {α : Type} {R : Rep α} {w : World} {S : zAN} {cs : List Value} {x : α} {g o : Nat} {v : Value} (h : R.own w S cs x) (hg : ¬ S g) : R.own (w.setCell ⟨g, o, none⟩ v) S cs x :=
 R.own_keep h fun k hk _ => heap_setCell_other w ⟨g, o, none⟩ k v (fun e => hg (by have a : k = g := e; rw [← a]; exact hk))
theorem zAh {w w' : World} {B g o : Nat} {v : Value} (h : Below B w w') (hg : B ≤ g) : Below B w (w'.setCell ⟨g, o, none⟩ v) := h.setCell (p := ⟨g, o, none⟩) hg v
theorem zAl {w : World} {g k o : Nat} {v : Value} {x : Obj} (h : w.heap[k]? = some x) (hne : k ≠ g) : (w.setCell ⟨g, o, none⟩ v).heap[k]? = some x := (heap_setCell_other w ⟨g, o, none⟩ k v hne).trans h
theorem zHo {P : Program} (t e : TypeId) (z : Value) (size bytes : Nat) (ht : P.underlying t = some (.slice e)) (hinfo : (P.info? e).map (fun i => (i.zero, i.size, i.bytes)) = some (some z, size, bytes))
    (n : Nat) (hbytes : bytes * n ≤ 281474976710656) (h63 : n ≤ 9223372036854775807) (w : World) :
    (Instr.makeSlice t (nI (n : Int)) (nI (n : Int))).run P w = .ok (sL (some ⟨w.heap.size, 0, none⟩) n n) (w.alloc (.cells (madeCells z.cells (n * size)) e)) := by
 obtain ⟨i, b, a⟩ := Option.map_eq_some_iff.1 hinfo;simp only [Prod.mk.injEq] at a;obtain ⟨c, d, f⟩ := a;have g : (i.bytes : Int) * (n : Int) ≤ 281474976710656 := by rw [f, ← Int.natCast_mul]; omega
 have := run_make (P := P) w t e i z ht b c .i64 .i64 (n : Int) (n : Int) (by omega) (Int.le_refl _) g (by omega);simpa [d] using this
theorem zHp {α : Type} (M : Mk α) (xs : List α) {x : α} {k : Nat} (hx : xs[k]? = some x) : M.bk x ≤ zBI M xs := by
 have := zKF (M := M) hx;omega
def Old (w : World) (S : zAN) : zAN := fun k => S k ∧ k < w.heap.size
theorem zFV {α : Type} {R : Rep α} {w : World} {S : zAN} {cs : List Value} {x : α} (h : R.own w S cs x) : R.own w (Old w S) cs x :=
 R.own_mono (R.own_tight h) fun k hk => ⟨hk.1, by obtain ⟨_, a, t, _, b⟩ := hk; exact (ltH b)⟩
theorem zCY {α : Type} {R : Rep α} {w : World} {S : zAN} {cs : List Value} {x : α} (o : Obj) (h : R.own w S cs x) : R.own (w.alloc o) S cs x := R.own_keep h fun k _ hl => Below.heap_alloc w o k hl
section
variable {α : Type}
theorem zJ5 {e : TypeId} {R : Rep α} {S : zAN} {w w1 w2 : World} {o : Obj} {v v' : Value} {xs : List α} {c : List Value} {x : α} (hty : e ∉ R.tys) (h : (slR e R).own w S [v] xs) (hm : zAD R w w1 c x)
    (happ : ∀ b, w.ownsRow 0 e R.size v xs.length b → w2.ownsRow 0 e R.size v' (xs.length + 1) (b ++ c)) (hg : (w1.alloc o).grownBy w2 v.ownBlock) (s : v'.ownBlock = v.ownBlock ∨ ∃ k, v'.ownBlock = some k ∧ w.heap.size ≤ k) :
    (slR e R).own w2 (fun k => Old w S k ∨ w.heap.size ≤ k) [v'] (xs ++ [x]) ∧ Chg (Old w S) w w2 := by
 obtain ⟨v1, b, A, B, J, i, z, D⟩ := zFV h;simp only [List.cons.injEq, and_true] at B;subst B;have q := happ b J;have s1 := hm.2.size;have s2 : w1.heap.size + 1 ≤ w2.heap.size := by have := hg.size; simpa using this
 have H := zEq D;have E := R.own_tight hm.1;have a : ∀ k, k < w1.heap.size → v.ownBlock ≠ some k → w2.heap[k]? = w1.heap[k]? := fun k j hne => by
  rw [hg.block k (by simp; omega) (fun e => hne e.symm), Below.heap_alloc w1 o k j]
 have F : zGD R w2 (fun k => A k ∧ ∃ d t, t ∈ R.tys ∧ w.heap[k]? = some (.cells d t (0, 0))) b xs := zCP H fun k j f => by
  rw [a k (by omega) (fun e => (i k e).2 j.1), hm.2.block k f]
 have C : R.own w2 (fun k => rng w.heap.size w1.heap.size k ∧ ∃ d t, t ∈ R.tys ∧ w1.heap[k]? = some (.cells d t (0, 0))) c x := R.own_keep E fun k j f =>
  a k f (fun e => by have := (i k e).1.2; have := j.1.1; omega)
 refine ⟨⟨v', b ++ c, (fun k => (A k ∧ ∃ d t, t ∈ R.tys ∧ w.heap[k]? = some (.cells d t (0, 0))) ∨ (rng w.heap.size w1.heap.size k ∧ ∃ d t, t ∈ R.tys ∧ w1.heap[k]? = some (.cells d t (0, 0)))), rfl, by rw [List.length_append]; exact q, fun g hg' => ?_, ?_, zEI F C ?_ (fun k h => .inl h) (fun k h => .inr h)⟩, ?_⟩
 ·obtain ⟨d, m⟩ := zDE q hg';refine ⟨?_, ?_⟩
  ·rcases s with s | ⟨k, j, r⟩
   ·rw [s] at hg';exact .inl (i g hg').1
   ·rw [hg'] at j;cases j;exact .inr r
  ·rintro (⟨l, p, t, y, n⟩ | ⟨l, p, t, y, n⟩)
   ·have f : g < w.heap.size := (ltH n);have : w2.heap[g]? = w.heap[g]? := by rw [a g (by omega) (fun e => (i g e).2 l), hm.2.block g f]
    rw [m, n] at this;simp at this
    rw [this.2] at hty;exact hty y
   ·have f : g < w1.heap.size := (ltH n);have : w2.heap[g]? = w1.heap[g]? := a g f (fun e => by have := (i g e).1.2; have := l.1; omega);rw [m, n] at this;simp at this
    rw [this.2] at hty;exact hty y
 ·rintro k (⟨l, _⟩ | ⟨l, _⟩)
  ·exact .inl (z k l)
  ·exact .inr l.1
 ·rintro k ⟨l, _⟩ ⟨G, _⟩;have := (z k l).2;have := G.1;omega
 ·have I : w2.os = w.os := hg.os.trans hm.2.os;have K : w2.tape = w.tape := hg.tape.trans hm.2.tape;have L : w2.output = w.output := hg.output.trans hm.2.output;refine ⟨I, K, L, by omega, fun k j hn => ?_⟩;rw [a k (by omega) (fun e => hn (i k e).1), hm.2.block k j]
end
theorem zE9 {w : World} {base base' e size n : Nat} {v : Value} {xs ys : List Value} (h : w.ownsRow base e size v n xs) (k : w.ownsRow base' e size v n ys) : xs = ys := by
 rcases h.2 with ⟨rfl, rfl⟩ | ⟨g, i, q, rfl, _, o, _, _, _, p⟩
 ·have j := h.1;have m := k.1;rw [List.eq_nil_of_length_eq_zero (l := xs) (by rw [j]; omega), List.eq_nil_of_length_eq_zero (l := ys) (by rw [m]; omega)]
 ·rcases k.2 with ⟨b, _⟩ | ⟨g', f, d, b, _, a, _, _, _, c⟩
  ·simp at b
  ·simp only [Value.slice.injEq, Option.some.injEq, Addr.mk.injEq, and_true, true_and] at b;obtain ⟨rfl, rfl⟩ := b;rw [o] at a;simp only [Option.some.injEq, Obj.cells.injEq] at a;rw [← p, ← c, a.1]
theorem zFj {w : World} {base e size n : Nat} {v : Value} {xs : List Value} (h : w.ownsRow base e size v (n + 1) xs) : ∃ g a, v = sL (some ⟨g, 0, none⟩) (n + 1) a := by
 rcases h.2 with ⟨_, h0⟩ | ⟨g, a, b, rfl, _⟩
 ·omega
 ·exact ⟨g, a, rfl⟩
section
variable {α : Type}
theorem zHZ {e : TypeId} {R : Rep α} (w : World) : zAD (slR e R) w (w.alloc (.cells #[] e)) [sL (some ⟨w.heap.size, 0, none⟩) 0 0] [] := by
 refine ⟨⟨_, [], fun _ => False, rfl, World.ownsRow_lit (base := 0) (e := e) (size := R.size) w #[] 0 (Nat.zero_le _) (Nat.zero_le _) (by simp), fun g hg => ?_, fun _ h => h.elim, rfl⟩, zAg w _⟩;simp [Value.ownBlock] at hg
 subst hg;exact ⟨⟨Nat.le_refl _, by simp⟩, fun h => h⟩
end
theorem zFk (w : World) (cs : List Value) (t : TypeId) : ∀ j u, cs[j]? = some u → (w.alloc (.cells cs.toArray t)).cell? ((⟨w.heap.size, 0, none⟩ : Addr).add j) = some u := by
 intro j u a;have X := zAw w (.cells cs.toArray t);rw [show (⟨w.heap.size, 0, none⟩ : Addr).add j = ⟨w.heap.size, j, none⟩ from by simp [Addr.add] <;> omega, cell_of_row _ _ j _ _ (0, 0) X];simpa using a
theorem zJ6 {P : Program} {ops : Array Oper} {o : Oper} {a : Act} {w w' : World} {K : Act → World → Prop} {Q : Exit → Act → World → Prop} {E : Prop} (hgd : o.guard = none) (s x : Operand) (t ty : TypeId)
    (ho : o.op = .call { callee := .builtin .append, args := #[s, x], argTypes := #[t, t] }) (hty : o.type = ty) (v v2 v' : Value) (hs : a.eval s = v) (hx : a.eval x = v2)
    (hrun : (Builtin.append_ #[t, t] ty #[v, v2]).run P w = .ok v' w') (hK : K (a.put o.dst v') w') : if Region.wanted o (yielded ops a.tmps) = true then Oper.wp P o a w K Q else E := by
 have b : Region.wanted o (yielded ops a.tmps) = true := by simp [Region.wanted, hgd]
 rw [if_pos b];unfold Oper.wp execOp;simp only [ho, hty, resolve, invoke, builtin, Sem.run_bind, Sem.run_pure, Result.andThen_ok, List.map_toArray, List.map_cons, List.map_nil, hs, hx, hrun];exact hK
variable {α : Type}
def zHq (R : Rep α) (lo hi : Nat) (w : World) (cs : List Value) (x : α) : Prop := R.own w (rng lo hi) cs x ∧ hi ≤ w.heap.size
theorem zAP {R : Rep α} {lo hi : Nat} {w w' : World} {cs : List Value} {x : α} (h : zHq R lo hi w cs x) (hb : Bl w w') : zHq R lo hi w' cs x :=
 ⟨own_stay h.1 hb h.2, Nat.le_trans h.2 hb.size⟩
theorem zBs {R : Rep α} {w w1 : World} {cs : List Value} {x : α} (h : zAD R w w1 cs x) : zHq R w.heap.size w1.heap.size w1 cs x := ⟨h.1, Nat.le_refl _⟩
theorem zCs {S : zAN} {w : World} {a : Option Addr} {cap : Nat} {d : List Int} (h : zAm.own w S [sL a d.length cap] d) : zBv zBf w a d := by
 obtain ⟨a', b, e, _, _, c⟩ := zAm.own_rd h;simp only [List.cons.injEq, Value.slice.injEq, and_true, true_and] at e;rw [e.1];exact c
theorem zD1 (d : List Int) : zDm.bk d = d.length := by
 have h1 : zDm.bk d = d.length + zBI zHV d := rfl;have h2 : zBI zHV d = 0 := by
  induction d with
  | nil => rfl
  | cons x xs ih => simp only [zBI, List.map_cons, List.sum_cons] at ih ⊢; rw [ih rfl]; rfl
 omega
section
variable {α : Type}
def zFl : List Value → Value
 | [v] => v
 | _ => undef
def zBw (cs : List Value) : Value := .agg cs.toArray
theorem aE {cs : List Value} : zBw cs = .agg cs.toArray := rfl
end
theorem be_eq {w w' : World} (h : w' = w) : Bl w w' := by rw [h]; exact Below.refl _ _
end Go.Proofs.YtmaopldahnejdaaGreatDoor
