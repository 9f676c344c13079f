import Derived.Test.YtmdhblhdfcocjaaGreatDoorP00Box
import Derived.Test.YtmdhblhdfcocjaaGreatDoorRows
import Derived.WalkKit
import Derived.ProofKit
import Derived.OpenShut
import Derived.Deep.QuietTactic
import Derived.BigQuiet
import Derived.WalkSmall
import Derived.Below
import Derived.Laws.OwnMore
import Derived.ChangeArms
namespace Go.Proofs.YtmdhblhdfcocjaaGreatDoor
open Go.ChangeShapes Go.WideShapes Go.ChangeAt Go.RowKit
def zDF (w : World) (a : Option Addr) (xs : List Int) : Prop :=
 xs = [] ∨ ∃ b off, a = some ⟨b, off, none⟩ ∧ ∀ j, j < xs.length → w.cell? ⟨b, off + j, none⟩ = some (.int .i64 (xs.getD j 0))
set_option maxHeartbeats 400000 in
theorem zLz (a1 a2 : Option Addr) (xs : List Int) (c1 c2 : Nat) (w : World) (h1 : zDF w a1 xs) (h2 : zDF w a2 xs) (hm : xs.length ≤ 2305843009213693952) :
    Calls Tryz.prog 40 #[sL a1 xs.length c1, sL a2 xs.length c2] w fun e w' => e = .returned (.bool true) ∧ ∃ n, w' = w.drewN n := by
 go_enter Tryz.func40, Tryz.ntmps40;go_wp2;go_loopw [5] (fun i wr => ∃ k : Nat, k ≤ xs.length ∧ i = nI k ∧ ∃ n, wr = w.drewN n) (fun i _ => xs.length - (intOf i).toNat)
 case atStart => exact ⟨0, Nat.zero_le _, rfl, 0, rfl⟩
 case round =>
  obtain ⟨k, hk, rfl, n, rfl⟩ := hrel;by_cases a : k < xs.length
  ·rcases h1 with rfl | ⟨b1, o1, rfl, b⟩
   ·simp at a
   rcases h2 with rfl | ⟨b2, o2, rfl, c⟩
   ·simp at a
   have g1 := b k a;have g2 := c k a;have d : (k : Int) < (xs.length : Int) := by omega
   clear b c;go_wp2;go_quiet (fail)
   go_wp2;go_roundw
   case rel => exact ⟨k + 1, by omega, by go_num, _, rfl⟩
   case measure => simp [intOf]; omega
  ·go_wp2;go_ret
   exact ⟨rfl, _, rfl⟩
def zHO (k : Int) (n : Nat) : List Int := (List.range n).map (fun (j : Nat) => k + (j : Int))
theorem zFd (k : Int) (n : Nat) : (zHO k n).length = n := by simp [zHO]
theorem seqs_get (k : Int) (n j : Nat) (h : j < n) : (zHO k n).getD j 0 = k + j := by
 simp [zHO, List.getD_eq_getElem?_getD, h]
theorem zMx (k : Int) (n : Nat) : zHO k (n + 1) = zHO k n ++ [k + n] := by simp [zHO, List.range_succ]
theorem zGu {a b c : World} {row : Option Nat} (h : a.grownBy b row) (k : b.grownBy c row) : a.grownBy c row :=
 ⟨k.os.trans h.os, k.tape.trans h.tape, k.output.trans h.output, Nat.le_trans h.size k.size, fun j hj hne => (k.block j (Nat.lt_of_lt_of_le hj h.size) hne).trans (h.block j hj hne)⟩
theorem zMy (k : Int) (j : Nat) (xs : List Value) (h : j < xs.length) :
    ((zHO k j).map (Value.int .i64) ++ xs.drop j).set j (nI (k + j)) = (zHO k (j + 1)).map (Value.int .i64) ++ xs.drop (j + 1) := by
 have a : ((zHO k j).map (Value.int .i64)).length = j := by simp [zFd]
 rw [List.set_append_right _ _ (by omega), a, Nat.sub_self, List.drop_eq_getElem_cons h, zMx];simp only [List.set_cons_zero, List.map_append, List.map_cons, List.map_nil, List.append_assoc, List.cons_append, List.nil_append]
set_option maxHeartbeats 400000 in
theorem mark_any (B e g cap : Nat) (k : Int) (n : Nat) (xs : List Value) (w : World) (h0 : 0 ≤ k) (h1 : k ≤ 2305843009213693952) (hm : n ≤ 2305843009213693952)
    (hown : w.ownsRow B e 1 (sL (some ⟨g, 0, none⟩) n cap) n xs) :
    Calls Tryz.prog 44 #[sL (some ⟨g, 0, none⟩) n cap, nI k] w fun e' w' => e' = .returned (nI (k + n)) ∧
     w'.ownsRow B e 1 (sL (some ⟨g, 0, none⟩) n cap) n ((zHO k n).map (Value.int .i64)) ∧ w.grownBy w' (some g) := by
 have m : xs.length = n := by simpa using hown.1
 go_enter Tryz.func44, Tryz.ntmps44;go_wp2;go_loopw [1, 5] (fun q i wr => ∃ j : Nat, j ≤ n ∧ i = nI j ∧ q = nI (k + j) ∧ wr.ownsRow B e 1 (sL (some ⟨g, 0, none⟩) n cap) n ((zHO k j).map (Value.int .i64) ++ xs.drop j) ∧ w.grownBy wr (some g))
  (fun _ i _ => n - (intOf i).toNat)
 case atStart => exact ⟨0, Nat.zero_le _, rfl, by simp, by simpa [zHO] using hown, World.grownBy.refl _ _⟩
 case round =>
  obtain ⟨j, hj, rfl, rfl, a, c⟩ := hrel;by_cases p : j < n
  ·have f : (j : Int) < (n : Int) := by omega
   have o := a.frozenAt j;obtain ⟨d, hc⟩ : ∃ d, wr.cell? ⟨g, j, none⟩ = some d := by
    rw [a.cellAt j (by omega)];exact ⟨_, List.getElem?_eq_getElem (by have := a.1; omega)⟩
   have R := a.stored j (nI (k + j));rw [zMy k j xs (by omega)] at R;have l : Hid _ := R;clear R;go_wp2;go_roundw
   case rel => exact ⟨j + 1, by omega, by go_num, by go_num, l.out.1, zGu c l.out.2⟩
   case measure => simp [intOf]; omega
  ·have b : j = n := by omega
   subst b;go_wp2;go_ret
   exact ⟨rfl, by simpa [List.drop_of_length_le (lE m)] using a, c⟩
set_option maxHeartbeats 400000 in
theorem held_any (a : Option Addr) (cap : Nat) (k : Int) (n : Nat) (w : World) (h0 : 0 ≤ k) (h1 : k ≤ 2305843009213693952) (hm : n ≤ 2305843009213693952)
    (hr : zDF w a (zHO k n)) :
    Calls Tryz.prog 48 #[sL a n cap, nI k] w fun e' w' => e' = .returned (nI (k + n)) ∧ w' = w := by
 go_enter Tryz.func48, Tryz.ntmps48;go_wp2;go_loop [1, 5] (fun q i => ∃ j : Nat, j ≤ n ∧ i = nI j ∧ q = nI (k + j)) (fun _ i => n - (intOf i).toNat)
 case atStart => exact ⟨0, Nat.zero_le _, rfl, by simp⟩
 case round =>
  obtain ⟨j, hj, rfl, rfl⟩ := hrel;by_cases d : j < n
  ·rcases hr with h | ⟨b, l, rfl, g⟩
   ·have := zFd k n; rw [h] at this; simp at this; omega
   have f : (j : Int) < (n : Int) := by omega
   have m := g j (by rw [zFd]; omega);rw [seqs_get k n j d] at m;clear g;go_wp2;go_round
   case rel => exact ⟨j + 1, by omega, by go_num, by go_num⟩
   case measure => simp [intOf]; omega
  ·have c : j = n := by omega
   subst c;go_wp2;go_ret
   exact ⟨rfl, rfl⟩
set_option linter.unusedVariables false
abbrev zAW := Nat → Prop
def Sub (S T : zAW) : Prop := ∀ k, S k → T k
def Dis (S T : zAW) : Prop := ∀ k, S k → T k → False
def rng (lo hi : Nat) : zAW := fun k => lo ≤ k ∧ k < hi
def Keeps (S : zAW) (w w' : World) : Prop := ∀ k, S k → k < w.heap.size → w'.heap[k]? = w.heap[k]?
theorem Sub.refl (S : zAW) : Sub S S := fun _ h => h
theorem Sub.trans {S T U : zAW} (h : Sub S T) (k : Sub T U) : Sub S U := fun i hi => k i (h i hi)
theorem Dis.symm {S T : zAW} (h : Dis S T) : Dis T S := fun k a b => h k b a
theorem Dis.sub {S T S' T' : zAW} (h : Dis S T) (a : Sub S' S) (b : Sub T' T) : Dis S' T' := fun k x y => h k (a k x) (b k y)
theorem Keeps.sub {S T : zAW} {w w' : World} (h : Keeps T w w') (s : Sub S T) : Keeps S w w' := fun k hk hl => h k (s k hk) hl
theorem zCb {lo hi lo' hi' : Nat} (h : lo' ≤ lo) (k : hi ≤ hi') : Sub (rng lo hi) (rng lo' hi') := fun _ hi => ⟨Nat.le_trans h hi.1, Nat.lt_of_lt_of_le hi.2 k⟩
theorem zC1 {lo hi lo' hi' : Nat} (h : hi ≤ lo' ∨ hi' ≤ lo) : Dis (rng lo hi) (rng lo' hi') := fun k a b => by
 have a1 := a.1;have a2 := a.2;have b1 := b.1;have b2 := b.2;omega
structure Chg (S : zAW) (w w' : World) : Prop where
 os : w'.os = w.os
 tape : w'.tape = w.tape
 output : w'.output = w.output
 size : w.heap.size ≤ w'.heap.size
 block : ∀ k, k < w.heap.size → ¬ S k → w'.heap[k]? = w.heap[k]?
theorem Chg.refl (S : zAW) (w : World) : Chg S w w := ⟨rfl, rfl, rfl, Nat.le_refl _, fun _ _ _ => rfl⟩
theorem Chg.trans {S : zAW} {a b c : World} (h : Chg S a b) (k : Chg S b c) : Chg S a c :=
 ⟨k.os.trans h.os, k.tape.trans h.tape, k.output.trans h.output, Nat.le_trans h.size k.size, fun j hj hn => (k.block j (Nat.lt_of_lt_of_le hj h.size) hn).trans (h.block j hj hn)⟩
theorem Chg.mono {S T : zAW} {a b : World} (h : Chg S a b) (s : Sub S T) : Chg T a b := ⟨h.os, h.tape, h.output, h.size, fun k hk hn => h.block k hk fun x => hn (s k x)⟩
theorem Chg.keeps {S T : zAW} {a b : World} (h : Chg S a b) (d : Dis T S) : Keeps T a b := fun k hk hl => h.block k hl fun x => d k hk x
theorem Chg.below {S : zAW} {B : Nat} {a w w' : World} (hb : Below B a w) (h : Chg S w w') (hS : ∀ k, S k → B ≤ k) (h2 : B ≤ w.heap.size) : Below B a w' :=
 hb.trans ⟨h.os, h.tape, h.output, h.size, fun k hk => h.block k (by omega) (fun x => by have := hS k x; omega)⟩
theorem zCR {S : zAW} {g : Nat} {w w' : World} (h : w.grownBy w' (some g)) (hg : S g) : Chg S w w' :=
 ⟨h.os, h.tape, h.output, h.size, fun k hk hn => h.block k hk (fun e => by cases e; exact hn hg)⟩
theorem zA9 {S : zAW} {w w' : World} (h : Bl w w') : Chg S w w' := ⟨h.os, h.tape, h.output, h.size, fun k hk _ => h.block k hk⟩
theorem zAh {S : zAW} {w w' : World} (h : Bl w w') : Keeps S w w' := fun k _ hl => h.block k hl
structure Rep (α : Type) where
 size : Nat
 tys : List TypeId
 rd : World → List Value → α → Prop
 own : World → zAW → List Value → α → Prop
 rd_len : ∀ {w : World} {cs : List Value} {a : α}, rd w cs a → cs.length = size
 rd_keep : ∀ {w w' : World} {cs : List Value} {a : α}, rd w cs a → (∀ k, k < w.heap.size → w'.heap[k]? = w.heap[k]?) → rd w' cs a
 own_rd : ∀ {w : World} {S : zAW} {cs : List Value} {a : α}, own w S cs a → rd w cs a
 own_mono : ∀ {w : World} {S T : zAW} {cs : List Value} {a : α}, own w S cs a → Sub S T → own w T cs a
 own_keep : ∀ {w w' : World} {S : zAW} {cs : List Value} {a : α}, own w S cs a → Keeps S w w' → own w' S cs a
 own_tight : ∀ {w : World} {S : zAW} {cs : List Value} {a : α}, own w S cs a → own w (fun k => S k ∧ ∃ cur t, t ∈ tys ∧ w.heap[k]? = some (.cells cur t (0, 0))) cs a
def zBk (a : Int) : Prop := -9223372036854775808 ≤ a ∧ a ≤ 9223372036854775807
def zBC : Rep Int where
 size := 1
 tys := []
 rd _ cs a := cs = [.int .i64 a] ∧ zBk a
 own _ _ cs a := cs = [.int .i64 a] ∧ zBk a
 rd_len h := by rw [h.1]; rfl
 rd_keep h _ := h
 own_rd h := h
 own_mono h _ := h
 own_keep h _ := h
 own_tight h := h
section
variable {α β : Type}
def zBP (R : Rep α) (Q : Rep β) : Rep (α × β) where
 size := R.size + Q.size
 tys := R.tys ++ Q.tys
 rd w cs a := ∃ c1 c2, cs = c1 ++ c2 ∧ R.rd w c1 a.1 ∧ Q.rd w c2 a.2
 own w S cs a := ∃ c1 c2 S1 S2, cs = c1 ++ c2 ∧ R.own w S1 c1 a.1 ∧ Q.own w S2 c2 a.2 ∧ Sub S1 S ∧ Sub S2 S ∧ Dis S1 S2
 rd_len := by
  rintro w cs a ⟨c1, c2, rfl, h1, h2⟩;rw [List.length_append, R.rd_len h1, Q.rd_len h2]
 rd_keep := by
  rintro w w' cs a ⟨c1, c2, rfl, h1, h2⟩ hk;exact ⟨c1, c2, rfl, R.rd_keep h1 hk, Q.rd_keep h2 hk⟩
 own_rd := by
  rintro w S cs a ⟨c1, c2, S1, S2, rfl, h1, h2, _⟩;exact ⟨c1, c2, rfl, R.own_rd h1, Q.own_rd h2⟩
 own_mono := by
  rintro w S T cs a ⟨c1, c2, S1, S2, rfl, h1, h2, a1, a2, d⟩ hs;exact ⟨c1, c2, S1, S2, rfl, h1, h2, a1.trans hs, a2.trans hs, d⟩
 own_keep := by
  rintro w w' S cs a ⟨c1, c2, S1, S2, rfl, h1, h2, a1, a2, d⟩ hk;exact ⟨c1, c2, S1, S2, rfl, R.own_keep h1 (hk.sub a1), Q.own_keep h2 (hk.sub a2), a1, a2, d⟩
 own_tight := by
  rintro w S cs a ⟨c1, c2, S1, S2, rfl, h1, h2, a1, a2, d⟩;refine ⟨c1, c2, _, _, rfl, R.own_tight h1, Q.own_tight h2, ?_, ?_, ?_⟩
  ·rintro k ⟨hk, cur, t, ht, hh⟩;exact ⟨a1 k hk, cur, t, List.mem_append.2 (.inl ht), hh⟩
  ·rintro k ⟨hk, cur, t, ht, hh⟩;exact ⟨a2 k hk, cur, t, List.mem_append.2 (.inr ht), hh⟩
  ·exact d.sub (fun k h => h.1) (fun k h => h.1)
def lrd (R : Rep α) (w : World) : List Value → List α → Prop
 | cs, [] => cs = []
 | cs, a :: r => ∃ c1 c2, cs = c1 ++ c2 ∧ R.rd w c1 a ∧ lrd R w c2 r
def zHi (R : Rep α) (w : World) : zAW → List Value → List α → Prop
 | _, cs, [] => cs = []
 | S, cs, a :: r => ∃ c1 c2 S1 S2, cs = c1 ++ c2 ∧ R.own w S1 c1 a ∧ zHi R w S2 c2 r ∧ Sub S1 S ∧ Sub S2 S ∧ Dis S1 S2
theorem zMz {R : Rep α} {w : World} : ∀ {cs : List Value} {xs : List α}, lrd R w cs xs → cs.length = xs.length * R.size
 | _, [], h => by rw [show _ = [] from h]; simp
 | _, x :: xs, ⟨c1, c2, e, h1, h2⟩ => by
  rw [e, List.length_append, R.rd_len h1, zMz h2, List.length_cons, Nat.add_one_mul];omega
theorem zHP {R : Rep α} {w w' : World} : ∀ {cs : List Value} {xs : List α}, lrd R w cs xs → (∀ k, k < w.heap.size → w'.heap[k]? = w.heap[k]?) → lrd R w' cs xs
 | _, [], h, _ => h
 | _, x :: xs, ⟨c1, c2, e, h1, h2⟩, hk => ⟨c1, c2, e, R.rd_keep h1 hk, zHP h2 hk⟩
theorem zHQ {R : Rep α} {w : World} : ∀ {S : zAW} {cs : List Value} {xs : List α}, zHi R w S cs xs → lrd R w cs xs
 | _, _, [], h => h
 | _, _, x :: xs, ⟨c1, c2, _, _, e, h1, h2, _⟩ => ⟨c1, c2, e, R.own_rd h1, zHQ h2⟩
theorem zGh {R : Rep α} {w : World} {S : zAW} {cs : List Value} {xs : List α} (h : zHi R w S cs xs) : cs.length = xs.length * R.size := zMz (zHQ h)
theorem zDf {R : Rep α} {w w' : World} : ∀ {S : zAW} {cs : List Value} {xs : List α}, zHi R w S cs xs → Keeps S w w' → zHi R w' S cs xs
 | _, _, [], h, _ => h
 | _, _, x :: xs, ⟨c1, c2, S1, S2, e, h1, h2, a1, a2, d⟩, hk => ⟨c1, c2, S1, S2, e, R.own_keep h1 (hk.sub a1), zDf h2 (hk.sub a2), a1, a2, d⟩
theorem zEz {R : Rep α} {w : World} : ∀ {S : zAW} {cs : List Value} {xs : List α}, zHi R w S cs xs → zHi R w (fun k => S k ∧ ∃ cur t, t ∈ R.tys ∧ w.heap[k]? = some (.cells cur t (0, 0))) cs xs
 | _, _, [], h => h
 | _, _, x :: xs, ⟨c1, c2, S1, S2, e, h1, h2, a1, a2, d⟩ =>
  ⟨c1, c2, _, _, e, R.own_tight h1, zEz h2, fun k h => ⟨a1 k h.1, h.2⟩, fun k h => ⟨a2 k h.1, h.2⟩, d.sub (fun k h => h.1) (fun k h => h.1)⟩
theorem lrd_at {R : Rep α} {w : World} : ∀ {xs : List α} {cs : List Value} {j : Nat} {x : α}, lrd R w cs xs → xs[j]? = some x → R.rd w ((cs.drop (j * R.size)).take R.size) x
 | [], _, j, x, _, hx => by simp at hx
 | y :: ys, cs, 0, x, ⟨c1, c2, e, h1, h2⟩, hx => by
  simp at hx
  subst hx e;have a := R.rd_len h1;rw [Nat.zero_mul, List.drop_zero, List.take_append_of_le_length (by omega), List.take_of_length_le (by omega)];exact h1
 | y :: ys, cs, j + 1, x, ⟨c1, c2, e, h1, h2⟩, hx => by
  simp at hx
  subst e;have a := R.rd_len h1;have := lrd_at h2 hx;rw [Nat.add_one_mul, List.drop_append, List.drop_of_length_le (by omega), List.nil_append, show j * R.size + R.size - c1.length = j * R.size by omega];exact this
theorem zFe {R : Rep α} {w : World} {T U : zAW} {c : List Value} {x : α} : ∀ {S : zAW} {cs : List Value} {xs : List α}, zHi R w S cs xs → R.own w T c x → Dis S T → Sub S U → Sub T U → zHi R w U (cs ++ c) (xs ++ [x])
 | S, cs, [], h, ho, hd, s1, s2 => by
  rw [show cs = [] from h];exact ⟨c, [], T, fun _ => False, by simp, ho, rfl, s2, fun _ h => h.elim, fun _ _ h => h⟩
 | S, cs, y :: ys, ⟨c1, c2, S1, S2, e, h1, h2, a1, a2, d⟩, ho, hd, s1, s2 => by
  subst e;refine ⟨c1, c2 ++ c, S1, (fun k => S2 k ∨ T k), by simp, h1, ?_, a1.trans s1, ?_, ?_⟩
  ·exact zFe h2 ho (hd.sub a2 (Sub.refl _)) (fun k h => .inl h) (fun k h => .inr h)
  ·rintro k (h | h)
   ·exact s1 k (a2 k h)
   ·exact s2 k h
  ·rintro k h (a | a)
   ·exact d k h a
   ·exact hd k (a1 k h) a
theorem zH3 {R : Rep α} {w : World} : ∀ {xs : List α} {S : zAW} {cs : List Value} {j : Nat} {x : α}, zHi R w S cs xs → xs[j]? = some x →
    ∃ Sj T, R.own w Sj ((cs.drop (j * R.size)).take R.size) x ∧ Sub Sj S ∧ Sub T S ∧ Dis Sj T ∧
     ∀ w' c' x' U V, Keeps T w w' → R.own w' U c' x' → Dis U T → Sub U V → Sub T V → zHi R w' V (cs.take (j * R.size) ++ (c' ++ cs.drop (j * R.size + R.size))) (xs.set j x')
 | [], S, _, j, x, _, hx => by simp at hx
 | y :: ys, S, cs, 0, x, ⟨c1, c2, S1, S2, e, h1, h2, a1, a2, d⟩, hx => by
  simp at hx
  subst hx e;have l := R.rd_len (R.own_rd h1);refine ⟨S1, S2, ?_, a1, a2, d, fun w' c' x' U V hk ho hd hs ht => ?_⟩
  ·rw [Nat.zero_mul, List.drop_zero, List.take_append_of_le_length (by omega), List.take_of_length_le (by omega)];exact h1
  ·rw [Nat.zero_mul, List.take_zero, List.nil_append, Nat.zero_add, List.drop_append, List.drop_of_length_le (by omega), List.nil_append, show R.size - c1.length = 0 by omega, List.drop_zero];exact ⟨c', c2, U, S2, rfl, ho, zDf h2 hk, hs, ht, hd⟩
 | y :: ys, S, cs, j + 1, x, ⟨c1, c2, S1, S2, e, h1, h2, a1, a2, d⟩, hx => by
  simp at hx
  subst e;have l := R.rd_len (R.own_rd h1);obtain ⟨Sj, T, o, g, i, p, n⟩ := zH3 h2 hx;have b : (j + 1) * R.size = c1.length + j * R.size := by rw [Nat.add_one_mul]; omega
  refine ⟨Sj, (fun k => S1 k ∨ T k), ?_, g.trans a2, ?_, ?_, fun w' c' x' U V hk ho hd hs ht => ?_⟩
  ·rw [b, List.drop_append, List.drop_of_length_le (by omega), List.nil_append, show c1.length + j * R.size - c1.length = j * R.size by omega];exact o
  ·rintro k (h | h)
   ·exact a1 k h
   ·exact a2 k (i k h)
  ·rintro k h (a | a)
   ·exact d k a (g k h)
   ·exact p k h a
  ·have f : Keeps S1 w w' := hk.sub fun k h => .inl h;have c : Keeps T w w' := hk.sub fun k h => .inr h;have m : Dis U S1 := hd.sub (Sub.refl _) fun k h => .inl h;have r := n w' c' x' U (fun k => U k ∨ T k) c ho (hd.sub (Sub.refl _) fun k h => .inr h) (fun k h => .inl h) (fun k h => .inr h)
   rw [b, List.take_append, List.take_of_length_le (by omega), show c1.length + j * R.size - c1.length = j * R.size by omega,
    show c1.length + j * R.size + R.size = c1.length + (j * R.size + R.size) by omega, List.drop_append, List.drop_of_length_le (by omega), List.nil_append,
    show c1.length + (j * R.size + R.size) - c1.length = j * R.size + R.size by omega, List.append_assoc, List.set_cons_succ]
   refine ⟨c1, _, S1, _, rfl, R.own_keep h1 f, r, fun k h => ht k (.inl h), ?_, ?_⟩
   ·rintro k (h | h)
    ·exact hs k h
    ·exact ht k (.inr h)
   ·rintro k h (a | a)
    ·exact m k a h
    ·exact d k h (i k a)
end
section
variable {α β : Type}
theorem zDg {w : World} {base size n g : Nat} {e : TypeId} {v : Value} {xs : List Value} (h : w.ownsRow base e size v n xs) (hg : v.ownBlock = some g) : ∃ a, w.heap[g]? = some (.cells a e (0, 0)) := by
 rcases h.2 with ⟨rfl, _⟩ | ⟨g', b, a, rfl, _, c, _⟩
 ·simp [Value.ownBlock] at hg
 ·simp [Value.ownBlock] at hg
  subst hg;exact ⟨a, c⟩
theorem zEg {w w' : World} {base size n : Nat} {e : TypeId} {v : Value} {xs : List Value} (h : w.ownsRow base e size v n xs) (hk : ∀ g, v.ownBlock = some g → w'.heap[g]? = w.heap[g]?) : w'.ownsRow base e size v n xs := by
 refine ⟨h.1, ?_⟩;rcases h.2 with c | ⟨g, b, a, rfl, d, f, rest⟩
 ·exact .inl c
 ·exact .inr ⟨g, b, a, rfl, d, by rw [hk g rfl]; exact f, rest⟩
theorem zDr {w : World} {base base' size n : Nat} {e : TypeId} {v : Value} {xs : List Value} (h : w.ownsRow base e size v n xs) (hb : ∀ g, v.ownBlock = some g → base' ≤ g) : w.ownsRow base' e size v n xs := by
 refine ⟨h.1, ?_⟩;rcases h.2 with c | ⟨g, b, a, rfl, _, rest⟩
 ·exact .inl c
 ·exact .inr ⟨g, b, a, rfl, hb g rfl, rest⟩
def zBg (R : Rep α) (w : World) (a : Option Addr) (xs : List α) : Prop :=
 xs = [] ∨ ∃ b off rows, a = some ⟨b, off, none⟩ ∧ lrd R w rows xs ∧ ∀ j u, rows[j]? = some u → w.cell? ⟨b, off + j, none⟩ = some u
def slR (e : TypeId) (R : Rep α) : Rep (List α) where
 size := 1
 tys := e :: R.tys
 rd w cs xs := ∃ a cap, cs = [.slice a xs.length cap] ∧ xs.length ≤ cap ∧ cap ≤ maxLen ∧ zBg R w a xs
 own w S cs xs := ∃ v rows S', cs = [v] ∧ w.ownsRow 0 e R.size v xs.length rows ∧ (∀ g, v.ownBlock = some g → S g ∧ ¬ S' g) ∧ Sub S' S ∧ zHi R w S' rows xs
 rd_len := by
  rintro w cs xs ⟨a, cap, rfl, _⟩;rfl
 rd_keep := by
  rintro w w' cs xs ⟨a, cap, rfl, h1, h2, h3⟩ hk;refine ⟨a, cap, rfl, h1, h2, ?_⟩;rcases h3 with h3 | ⟨b, off, rows, rfl, h4, h5⟩
  ·exact .inl h3
  ·refine .inr ⟨b, off, rows, rfl, zHP h4 hk, fun j u hu => ?_⟩;have := h5 j u hu;have hl := World.block_lt_of_cell? w ⟨b, off + j, none⟩ this;rw [World.cell?_of_block (w := w) (hk b hl)];exact this
 own_rd := by
  rintro w S cs xs ⟨v, rows, S', rfl, hr, _, _, hl⟩;rcases hr.2 with ⟨rfl, h0⟩ | ⟨g, cap, cur, rfl, hb, hh, hc, hm, hs, ht⟩
  ·have : xs = [] := List.eq_nil_of_length_eq_zero h0;subst this;exact ⟨none, 0, rfl, Nat.le_refl _, Nat.zero_le _, .inl rfl⟩
  ·refine ⟨_, cap, rfl, hc, hm, .inr ⟨g, 0, rows, rfl, zHQ hl, fun j u hu => ?_⟩⟩;have hj : j < rows.length := (List.getElem?_eq_some_iff.1 hu).1;rw [Nat.zero_add, World.ownsRow.cellAt hr j (by have := hr.1; omega)];exact hu
 own_mono := by
  rintro w S T cs xs ⟨v, rows, S', rfl, hr, hg, hs, hl⟩ hst;exact ⟨v, rows, S', rfl, hr, fun g h => ⟨hst g (hg g h).1, (hg g h).2⟩, hs.trans hst, hl⟩
 own_keep := by
  rintro w w' S cs xs ⟨v, rows, S', rfl, hr, hg, hs, hl⟩ hk;refine ⟨v, rows, S', rfl, zEg hr fun g h => ?_, hg, hs, zDf hl (hk.sub hs)⟩;obtain ⟨cur, hh⟩ := zDg hr h;exact hk g (hg g h).1 (ltH hh)
 own_tight := by
  rintro w S cs xs ⟨v, rows, S', rfl, hr, hg, hs, hl⟩;refine ⟨v, rows, _, rfl, hr, fun g h => ?_, ?_, zEz hl⟩
  ·obtain ⟨cur, hh⟩ := zDg hr h;exact ⟨⟨(hg g h).1, cur, e, by simp, hh⟩, fun h' => (hg g h).2 h'.1⟩
  ·rintro k ⟨hk, cur, t, ht, hh⟩;exact ⟨hs k hk, cur, t, List.mem_cons_of_mem _ ht, hh⟩
theorem zBG {R : Rep α} {w : World} {a : Option Addr} {xs : List α} {j : Nat} {x : α} (h : zBg R w a xs) (hx : xs[j]? = some x) :
    ∃ b d c, a = some ⟨b, d, none⟩ ∧ R.rd w c x ∧ ∀ i u, c[i]? = some u → w.cell? ⟨b, d + (j * R.size + i), none⟩ = some u := by
 rcases h with rfl | ⟨b, d, f, rfl, g, k⟩
 ·simp at hx
 ·refine ⟨b, d, _, rfl, lrd_at g hx, fun i u hu => ?_⟩;refine k (j * R.size + i) u ?_;rw [List.getElem?_take] at hu;split at hu
  ·rw [List.getElem?_drop] at hu;exact hu
  ·cases hu
theorem zA7 {R : Rep α} {w w' : World} {a : Option Addr} {xs : List α} (h : zBg R w a xs) (hk : ∀ k, k < w.heap.size → w'.heap[k]? = w.heap[k]?) : zBg R w' a xs := by
 rcases h with g | ⟨b, c, d, rfl, f, l⟩
 ·exact .inl g
 ·refine .inr ⟨b, c, d, rfl, zHP f hk, fun j u hu => ?_⟩;have := l j u hu;have i := World.block_lt_of_cell? w ⟨b, c + j, none⟩ this;rw [World.cell?_of_block (w := w) (hk b i)];exact this
theorem zBH {e : TypeId} {R : Rep α} {w : World} {S : zAW} {v : Value} {xs : List α} {j : Nat} {x : α} (h : (slR e R).own w S [v] xs) (hx : xs[j]? = some x) :
    ∃ g l b Sj T c, v = sL (some ⟨g, 0, none⟩) xs.length l ∧ S g ∧ w.heap[g]? = some (.cells b e (0, 0)) ∧ (∀ i, i < R.size → b[j * R.size + i]? = c[i]?) ∧ c.length = R.size ∧ R.own w Sj c x ∧
     Sub Sj S ∧ Sub T S ∧ Dis Sj T ∧ ¬ Sj g ∧ ¬ T g ∧
     ∀ s a r A U V, s.heap[g]? = some (.cells a e (0, 0)) → a.size = b.size → (∀ i, ¬ (j * R.size ≤ i ∧ i < j * R.size + R.size) → a[i]? = b[i]?) → (∀ i, i < R.size → a[j * R.size + i]? = r[i]?) →
      Keeps T w s → R.own s U r A → Dis U T → ¬ U g → V g → Sub U V → Sub T V → (slR e R).own s V [v] (xs.set j A) := by
 obtain ⟨v', d, S', N, hr, Y, K, L⟩ := h;simp only [List.cons.injEq, and_true] at N;subst N;have hj : j < xs.length := (List.getElem?_eq_some_iff.1 hx).1;obtain ⟨Sj, T, o, J, E, b3, b4⟩ := zH3 L hx;have Z := zGh L;rcases hr.2 with ⟨rfl, h0⟩ | ⟨g, l, b, rfl, hb, hh, O, X, lA, ht⟩
 ·omega
 have n := Y g rfl;have bA : j * R.size + R.size ≤ xs.length * R.size := by
  have : (j + 1) * R.size ≤ xs.length * R.size := Nat.mul_le_mul_right _ hj;rw [Nat.add_one_mul] at this;exact this
 have aA : xs.length * R.size ≤ l * R.size := Nat.mul_le_mul_right _ O;have m : ∀ i, i < xs.length * R.size → b[i]? = d[i]? := by
  intro i q;rw [← ht, List.getElem?_take, if_pos q, Array.getElem?_toList]
 refine ⟨g, l, b, Sj, T, _, rfl, n.1, hh, ?_, ?_, o, J.trans K, E.trans K, b3, fun h => n.2 (J g h), fun h => n.2 (E g h), ?_⟩
 ·intro i q;rw [List.getElem?_take, if_pos q, List.getElem?_drop, m _ (by omega)]
 ·exact R.rd_len (R.own_rd o)
 ·intro s a r A U V F M p C I z hd D H G B;have f : r.length = R.size := R.rd_len (R.own_rd z);refine ⟨_, d.take (j * R.size) ++ (r ++ d.drop (j * R.size + R.size)), (fun k => U k ∨ T k), rfl, ⟨?_, .inr ⟨g, l, a, by rw [List.length_set], Nat.zero_le _, F, by rw [List.length_set]; exact O, X, by omega, ?_⟩⟩, ?_, ?_, ?_⟩
  ·simp only [List.length_append, List.length_take, List.length_drop, List.length_set, f];omega
  ·rw [List.length_set];apply List.ext_getElem?
   intro i;rw [List.getElem?_take];by_cases q : i < xs.length * R.size
   ·rw [if_pos q, Array.getElem?_toList];by_cases h1 : i < j * R.size
    ·rw [List.getElem?_append_left (by simp; omega), List.getElem?_take, if_pos h1, p i (by omega), m i q]
    ·rw [List.getElem?_append_right (by simp; omega)];have e1 : (d.take (j * R.size)).length = j * R.size := by simp; omega
     rw [e1];by_cases h2 : i < j * R.size + R.size
     ·rw [List.getElem?_append_left (by omega), ← C (i - j * R.size) (by omega), show j * R.size + (i - j * R.size) = i by omega]
     ·rw [List.getElem?_append_right (by omega), List.getElem?_drop, f, show j * R.size + R.size + (i - j * R.size - R.size) = i by omega, p i (by omega), m i q]
   ·rw [if_neg q, List.getElem?_eq_none];simp only [List.length_append, List.length_take, List.length_drop, f];omega
  ·rintro g' y;simp [Value.ownBlock] at y
   subst y;refine ⟨H, ?_⟩;rintro (h | h)
   ·exact D h
   ·exact n.2 (E _ h)
  ·rintro k (h | h)
   ·exact G k h
   ·exact B k h
  ·exact b4 s r A U _ I z hd (fun k h => .inl h) (fun k h => .inr h)
end
section
variable {α β : Type}
def zEb (P : Program) (t : TypeId) (R : Rep α) : Prop :=
 ∀ (H : Type) (enc : TypeId × Value → H) (w : World) (base : Nat) (spare : Nat → Bool) (held : Bool) (fuel : Nat) (cs : List Value) (x : DataW H × List MemPlace), DataW.trod enc P w base spare held fuel t cs = some x → ∃ a, R.rd w cs a
def zKN (P : Program) (off : Nat) (fs : List Field) (R : Rep α) : Prop :=
 ∀ (H : Type) (enc : TypeId × Value → H) (w : World) (base : Nat) (spare : Nat → Bool) (held : Bool) (n : Nat) (cs : List Value), cs.length = off + R.size →
  (∀ f ∈ fs, ∃ x, DataW.trod enc P w base spare held n f.type ((cs.drop f.offset).take (P.cellsOf f.type)) = some x) → ∃ a, R.rd w (cs.drop off) a
theorem zM0 {P : Program} {t : TypeId} (ht : P.underlying t = some (.int .i64)) : zEb P t zBC := by
 intro H g w d a b c cs x h;obtain ⟨n, rfl, _, f⟩ := DataW.trod_int ht h;refine ⟨n, rfl, ?_⟩;simp only [Lit.wf, Bool.and_eq_true, decide_eq_true_eq] at f;exact f
theorem zD5 {P : Program} {off : Nat} {f : Field} {R : Rep α} (hf : f.offset = off) (hc : P.cellsOf f.type = R.size) (h : zEb P f.type R) : zKN P off [f] R := by
 intro H g w c a b n cs hl d;obtain ⟨x, d⟩ := d f (by simp);rw [hf, hc, List.take_of_length_le (by simp; omega)] at d;exact h H g w c a b n _ x d
theorem zBq {P : Program} {off : Nat} {f : Field} {fs : List Field} {R : Rep α} {Q : Rep β} (hf : f.offset = off) (hc : P.cellsOf f.type = R.size) (h : zEb P f.type R) (hr : zKN P (off + R.size) fs Q) : zKN P off (f :: fs) (zBP R Q) := by
 intro H j w i c d n m p k;have r : m.length = off + (R.size + Q.size) := p;obtain ⟨x, l⟩ := k f (by simp);rw [hf, hc] at l;obtain ⟨a, q⟩ := h H j w i c d n _ x l;obtain ⟨b, o⟩ := hr H j w i c d n m (by omega) (fun g hg => k g (by simp [hg]));refine ⟨(a, b), _, _, ?_, q, o⟩;rw [← List.drop_drop, List.take_append_drop]
theorem zCS {P : Program} {t : TypeId} {fs : Array Field} {R : Rep α} (ht : P.underlying t = some (.struct fs)) (hc : P.cellsOf t = R.size) (h : zKN P 0 fs.toList R) : zEb P t R := by
 intro H g w c a b j m x o;obtain ⟨k, n, _, _, hl, q, l⟩ := DataW.trod_struct ht o
 have := h H g w c a b n m (by omega) (fun f hf' => by
  obtain ⟨i, p, rfl⟩ := List.getElem_of_mem hf';have d : i < fs.size := by simpa using p
  refine ⟨k[i]'(by omega), ?_⟩
  rw [l i _ (by simp [d]), List.getElem?_eq_getElem (by omega)])
 simpa using this
theorem zKO {R : Rep α} {w : World} {b off : Nat} : ∀ (n k : Nat), (∀ i, k ≤ i → i < k + n → ∃ c x, R.rd w c x ∧ ∀ r u, c[r]? = some u → w.cell? ⟨b, off + (i * R.size + r), none⟩ = some u) →
    ∃ (a : List Value) (d : List α), d.length = n ∧ lrd R w a d ∧ ∀ j u, a[j]? = some u → w.cell? ⟨b, off + (k * R.size + j), none⟩ = some u
 | 0, k, _ => ⟨[], [], rfl, rfl, by simp⟩
 | n + 1, k, h => by
  obtain ⟨c, x, f, p⟩ := h k (Nat.le_refl _) (by omega);obtain ⟨a, d, g, l, m⟩ := zKO n (k + 1) (fun i h3 h4 => h i (by omega) (by omega));have o := R.rd_len f;refine ⟨c ++ a, x :: d, by simp [g], ⟨c, a, rfl, f, l⟩, fun j u hu => ?_⟩;by_cases hj : j < R.size
  ·rw [List.getElem?_append_left (by omega)] at hu;exact p j u hu
  ·rw [List.getElem?_append_right (by omega)] at hu;have := m _ u hu;rw [o, Nat.add_one_mul, show k * R.size + R.size + (j - R.size) = k * R.size + j by omega] at this;exact this
theorem add_add (a : Addr) (m r : Nat) : (a.add m).add r = a.add (m + r) := by
 unfold Addr.add;by_cases c : m = 0
 ·subst c;simp
 ·by_cases b : r = 0
  ·subst b;simp
  ·simp [c, b, Nat.add_assoc]
theorem zDG {P : Program} {t e e' : TypeId} {R : Rep α} (ht : P.underlying t = some (.slice e)) (hc : P.cellsOf e = R.size) (hpos : 0 < R.size) (h : zEb P e R) : zEb P t (slR e' R) := by
 intro H B w q l p E cs x T;rcases DataW.trod_slice ht T with ⟨rfl, _⟩ | ⟨a, o, z, C, rest, n, _, rfl, _, hb, hl, D, N, k, _⟩
 ·exact ⟨[], none, 0, rfl, Nat.le_refl _, Nat.zero_le _, .inl rfl⟩
 by_cases K : o = 0
 ·subst K;exact ⟨[], some a, z, rfl, Nat.zero_le _, D, .inl rfl⟩
 have f : ∀ i, i < o → ∃ c y, R.rd w c y ∧ ∀ r u, c[r]? = some u → w.cell? (a.add (i * R.size + r)) = some u := by
  intro i G;have F := k i G;rw [List.getElem?_eq_getElem (by omega), Option.bind_eq_some_iff] at F;obtain ⟨c, v, J⟩ := F;obtain ⟨y, A⟩ := h H B w q l p n c _ J;refine ⟨c, y, A, fun r u g => ?_⟩;unfold World.cells? at v;split at v
  ·have L : r < P.cellsOf e := by
     have := mapM_some_length v;have h4 := (List.getElem?_eq_some_iff.1 g).1;simp at this
     omega
   have := mapM_some_get v r r (by simp [L]);rw [g, hc, add_add] at this;exact this
  ·cases v
 have d : a.spot = none := by
  obtain ⟨c, y, A, m⟩ := f 0 (by omega);have U := R.rd_len A;obtain ⟨u, g⟩ : ∃ u, c[0]? = some u := ⟨_, List.getElem?_eq_getElem (by omega)⟩;have := World.cell?_spot (m 0 u g);simpa [Addr.add] using this
 obtain ⟨b, off, spot⟩ := a;simp at d
 subst d
 obtain ⟨s, I, S, M, O⟩ := zKO (R := R) (w := w) (b := b) (off := off) o 0 (fun i _ G => by
  obtain ⟨c, y, A, m⟩ := f i (by omega)
  exact ⟨c, y, A, fun r u g => by have := m r u g; rwa [Go.WideShapes.add_plain] at this⟩)
 refine ⟨I, some ⟨b, off, none⟩, z, by rw [S], by omega, D, .inr ⟨b, off, s, rfl, M, fun j u g => ?_⟩⟩;simpa using O j u g
theorem open_rep {H : Type} {enc : TypeId × Value → H} {P : Program} {w : World} {base : Nat} {spare : Nat → Bool} {held : Bool} {t : TypeId} {v : Value} {d : DataW H} {p : List MemPlace} {R : Rep α} (ho : zEb P t R)
    (h : DataW.Trod enc P w base spare held t v d p) : ∃ a, R.rd w v.cells.toList a := by
 obtain ⟨b, c⟩ := h;exact ho H enc w base spare held b _ _ c
theorem open_struct {H : Type} {enc : TypeId × Value → H} {P : Program} {w : World} {base b0 : Nat} {spare : Nat → Bool} {held : Bool} {r : Reach} {t : TypeId} {fs : Array Field} {v : Value} {d : DataW H} {p : List MemPlace} {R : Rep α}
    (hs : P.underlying t = some (.struct fs)) (ho : zEb P t R) (hv : Value.okWide P w r b0 t v) (h : DataW.Trod enc P w base spare held t v d p) : ∃ b a, v = .agg b ∧ R.rd w b.toList a := by
 obtain ⟨a, c⟩ := open_rep ho h;unfold Value.okWide at hv;rw [hs] at hv;obtain ⟨b, rfl, _⟩ := hv;exact ⟨b, a, rfl, by simpa [Value.cells] using c⟩
abbrev RepOf {α : Type} (R : Rep α) : Type := α
end
section
variable {α β : Type}
def zAX (R : Rep α) (w w' : World) (cs : List Value) (a : α) : Prop := R.own w' (rng w.heap.size w'.heap.size) cs a ∧ Below w.heap.size w w'
theorem zH4 {w w1 w2 : World} (h : Bl w w1) (h2 : Bl w1 w2) : Bl w w2 := h.trans (h2.mono h.size)
theorem own_next {R : Rep α} {lo : Nat} {w w1 : World} {cs : List Value} {a : α} (h : R.own w (rng lo w.heap.size) cs a) (hb : Bl w w1) : R.own w1 (rng lo w.heap.size) cs a :=
 R.own_keep h fun k hk _ => hb.block k hk.2
theorem zDs {R : Rep α} {lo hi D : Nat} {w w1 : World} {cs : List Value} {a : α} (h : R.own w (rng lo hi) cs a) (hb : Below D w w1) (hD : hi ≤ D) : R.own w1 (rng lo hi) cs a :=
 R.own_keep h fun k hk _ => hb.block k (Nat.lt_of_lt_of_le hk.2 hD)
theorem zAN {R : Rep α} {S T : zAW} {w w1 : World} {cs : List Value} {a : α} (h : R.own w S cs a) (hb : Chg T w w1) (hd : Dis S T) : R.own w1 S cs a := R.own_keep h (hb.keeps hd)
theorem zAM {R : Rep α} {w w1 : World} {cs : List Value} {a : α} (h : R.rd w cs a) (hb : Bl w w1) : R.rd w1 cs a := R.rd_keep h fun k hk => hb.block k hk
theorem zAG {R : Rep α} {w w1 : World} {a : Option Addr} {xs : List α} (h : zBg R w a xs) (hb : Bl w w1) : zBg R w1 a xs := zA7 h fun k hk => hb.block k hk
def putC (w : World) (g : Nat) : Nat → List Value → World
 | _, [] => w
 | off, c :: cs => putC (w.setCell ⟨g, off, none⟩ c) g (off + 1) cs
theorem zHR (xs : List Value) (off : Nat) (c : Value) (h : off < xs.length) : xs.set off c = xs.take off ++ (c :: xs.drop (off + 1)) := by
 rw [List.set_eq_take_append_cons_drop, if_pos h]
theorem zKP {base e size g n cap : Nat} : ∀ {cs : List Value} {w : World} {off : Nat} {xs : List Value}, w.ownsRow base e size (sL (some ⟨g, 0, none⟩) n cap) n xs → off + cs.length ≤ n * size →
    (putC w g off cs).ownsRow base e size (sL (some ⟨g, 0, none⟩) n cap) n (xs.take off ++ (cs ++ xs.drop (off + cs.length))) ∧ w.grownBy (putC w g off cs) (some g)
 | [], w, off, xs, h, hl => by
  simp only [putC, List.nil_append, List.length_nil, Nat.add_zero, List.take_append_drop];exact ⟨h, World.grownBy.refl _ _⟩
 | c :: cs, w, off, xs, h, hl => by
  simp only [List.length_cons] at hl;have d : off < xs.length := by have := h.1; omega
  have R := World.ownsRow.stored h off c;have r := zKP (cs := cs) (off := off + 1) R.1 (by omega);refine ⟨?_, zGu R.2 r.2⟩;have b : (xs.set off c).take (off + 1) ++ (cs ++ (xs.set off c).drop (off + 1 + cs.length)) = xs.take off ++ (c :: cs ++ xs.drop (off + (c :: cs).length)) := by
   rw [zHR xs off c d];have a : (xs.take off).length = off := by simp; omega
   rw [List.take_append, List.take_of_length_le (by omega), a, show off + 1 - off = 1 by omega, List.take_succ_cons, List.take_zero, List.drop_append, List.drop_of_length_le (by omega), List.nil_append, a,
    show off + 1 + cs.length - off = cs.length + 1 by omega, List.drop_succ_cons, List.drop_drop]
   simp only [List.length_cons, List.append_assoc, List.cons_append, List.nil_append];rw [show off + 1 + cs.length = off + (cs.length + 1) by omega]
  rw [← b];exact r.1
def Fill (e : TypeId) (R : Rep α) (w0 w : World) (n : Nat) (xs : List α) : Prop :=
 ∃ rows rest, w.ownsRow 0 e R.size (.slice (some ⟨w0.heap.size, 0, none⟩) n n) n (rows ++ rest) ∧ zHi R w (rng (w0.heap.size + 1) w.heap.size) rows xs ∧ Below w0.heap.size w0 w ∧ w0.heap.size < w.heap.size
theorem zEP {e : TypeId} {R : Rep α} {w0 : World} {n : Nat} {cs : Array Value} (hm : n ≤ maxLen) (hs : cs.size = n * R.size) : Fill e R w0 (w0.alloc (.cells cs e)) n [] :=
 ⟨[], cs.toList, by simpa using World.ownsRow_lit (base := 0) (e := e) (size := R.size) w0 cs n (Nat.zero_le _) hm hs, rfl, (Below.refl _ _).alloc (Nat.le_refl _) _, by simp⟩
theorem zF5 {e : TypeId} {R : Rep α} {w0 w w1 : World} {n k : Nat} {xs : List α} {c : List Value} {x : α} (h : Fill e R w0 w n xs) (hk : xs.length = k) (hkn : k < n) (hm : zAX R w w1 c x) :
    (∀ i, i < R.size → ∃ u, w1.cell? ⟨w0.heap.size, k * R.size + i, none⟩ = some u) ∧ (∀ i, w1.frozen? ⟨w0.heap.size, i, none⟩ = false) ∧ Fill e R w0 (putC w1 w0.heap.size (k * R.size) c) n (xs ++ [x]) := by
 obtain ⟨a, rest, v, r, z, p⟩ := h;have hc := R.rd_len (R.own_rd hm.1);have m := zGh r;rw [hk] at m;have A : k * R.size + R.size ≤ n * R.size := by
  have : (k + 1) * R.size ≤ n * R.size := Nat.mul_le_mul_right _ hkn;rwa [Nat.add_one_mul] at this
 have d : w1.ownsRow 0 e R.size (sL (some ⟨w0.heap.size, 0, none⟩) n n) n (a ++ rest) := zEg v fun g hg => by
  simp [Value.ownBlock] at hg
  subst hg;exact hm.2.block _ p
 have o : zHi R w1 (rng (w0.heap.size + 1) w.heap.size) a xs := zDf r fun j hj _ => hm.2.block j hj.2;obtain ⟨s, f⟩ := zKP (cs := c) (off := k * R.size) d (by omega);have q := d.1;have l := hm.2.size;refine ⟨fun i hi => ?_, fun i => World.ownsRow.frozenAt d i, a ++ c, (a ++ rest).drop (k * R.size + c.length), ?_, ?_, ?_, ?_⟩
 ·rw [World.ownsRow.cellAt d _ (by omega)];exact ⟨_, List.getElem?_eq_getElem (by omega)⟩
 ·rw [List.append_assoc];rw [List.take_append_of_le_length (by omega), List.take_of_length_le (by omega)] at s;exact s
 ·have b : ∀ j, j ≠ w0.heap.size → j < w1.heap.size → (putC w1 w0.heap.size (k * R.size) c).heap[j]? = w1.heap[j]? := fun j hj hlj => f.block j hlj (fun e => hj (by simpa using e));have B : R.own (putC w1 w0.heap.size (k * R.size) c) (rng w.heap.size w1.heap.size) c x := R.own_keep hm.1 fun j hj hlj => b j (by have := hj.1; omega) hlj;have y : zHi R (putC w1 w0.heap.size (k * R.size) c) (rng (w0.heap.size + 1) w.heap.size) a xs := zDf o fun j hj hlj => b j (by have := hj.1; omega) hlj;exact zFe y B (zC1 (.inl (Nat.le_refl _))) (zCb (Nat.le_refl _) (Nat.le_trans l f.size)) (zCb (by omega) f.size)
 ·exact (zH4 z hm.2).grown f (by omega) (fun j hj => by cases hj; exact Nat.le_refl _)
 ·have := f.size;omega
theorem zGv {e : TypeId} {R : Rep α} {w0 w : World} {n : Nat} {xs : List α} (h : Fill e R w0 w n xs) (hn : xs.length = n) : zAX (slR e R) w0 w [sL (some ⟨w0.heap.size, 0, none⟩) xs.length n] xs := by
 obtain ⟨b, rest, c, i, j, f⟩ := h;have d := zGh i;have a := c.1;have : rest = [] := by
  rw [hn] at d;rw [List.length_append] at a;exact List.eq_nil_of_length_eq_zero (by omega)
 subst this;rw [List.append_nil] at c;refine ⟨⟨_, b, rng (w0.heap.size + 1) w.heap.size, rfl, by rw [hn]; exact c, fun g hg => ?_, zCb (by omega) (Nat.le_refl _), i⟩, j⟩;simp [Value.ownBlock] at hg
 subst hg;exact ⟨⟨Nat.le_refl _, f⟩, fun h => by have := h.1; omega⟩
theorem zIK {e : TypeId} {R : Rep α} {lo hi : Nat} {w : World} {v : Value} {xs : List α} (h : (slR e R).own w (rng lo hi) [v] xs) : ∃ a, w.ownsRow lo e R.size v xs.length a ∧ a.length = xs.length * R.size := by
 obtain ⟨v', a, S', b, c, d, hs, f⟩ := h;simp only [List.cons.injEq, and_true] at b;subst b;exact ⟨a, zDr c fun g h => (d g h).1.1, zGh f⟩
theorem zM1 {e : TypeId} {R : Rep α} {w0 w w1 w2 : World} {o : Obj} {v v' : Value} {xs : List α} {c : List Value} {x : α} (hty : e ∉ R.tys) (h : zAX (slR e R) w0 w [v] xs) (hm : zAX R w w1 c x)
    (happ : ∀ a, w.ownsRow w0.heap.size e R.size v xs.length a → w2.ownsRow w0.heap.size e R.size v' (xs.length + 1) (a ++ c)) (hg : (w1.alloc o).grownBy w2 v.ownBlock) : zAX (slR e R) w0 w2 [v'] (xs ++ [x]) := by
 obtain ⟨⟨v1, a, B, z, F, i, y, D⟩, A⟩ := h;simp only [List.cons.injEq, and_true] at z;subst z;have r := zDr (base' := w0.heap.size) F fun g h => (i g h).1.1;have m := happ a r;have s1 := hm.2.size;have s0 := A.size;have s2 : w1.heap.size + 1 ≤ w2.heap.size := by have := hg.size; simpa using this
 have lt := zEz D;have C := R.own_tight hm.1;have b : ∀ k, k < w1.heap.size → v.ownBlock ≠ some k → w2.heap[k]? = w1.heap[k]? := fun k hk hne => by
  rw [hg.block k (by simp; omega) (fun e => hne e.symm), Below.heap_alloc w1 o k hk]
 have G : zHi R w2 (fun k => B k ∧ ∃ d t, t ∈ R.tys ∧ w.heap[k]? = some (.cells d t (0, 0))) a xs := zDf lt fun k hk f => by
  rw [b k (by omega) (fun e => (i k e).2 hk.1), hm.2.block k f]
 have H : R.own w2 (fun k => rng w.heap.size w1.heap.size k ∧ ∃ d t, t ∈ R.tys ∧ w1.heap[k]? = some (.cells d t (0, 0))) c x := R.own_keep C fun k hk f =>
  b k f (fun e => by have := (i k e).1.2; have := hk.1.1; omega)
 refine ⟨⟨v', a ++ c, (fun k => (B k ∧ ∃ d t, t ∈ R.tys ∧ w.heap[k]? = some (.cells d t (0, 0))) ∨ (rng w.heap.size w1.heap.size k ∧ ∃ d t, t ∈ R.tys ∧ w1.heap[k]? = some (.cells d t (0, 0)))), rfl, by rw [List.length_append]; exact zDr m (fun _ _ => Nat.zero_le _), fun g hg' => ?_, ?_, zFe G H ?_ (fun k h => .inl h) (fun k h => .inr h)⟩, ?_⟩
 ·obtain ⟨d, l⟩ := zDg m hg';have n := World.ownsRow.lt m g hg';refine ⟨⟨n.1, n.2⟩, ?_⟩;rintro (⟨j, q, t, s, p⟩ | ⟨j, q, t, s, p⟩)
  ·have f : g < w.heap.size := (ltH p);have : w2.heap[g]? = w.heap[g]? := by rw [b g (by omega) (fun e => (i g e).2 j), hm.2.block g f]
   rw [l, p] at this;simp at this
   rw [this.2] at hty;exact hty s
  ·have f : g < w1.heap.size := (ltH p);have : w2.heap[g]? = w1.heap[g]? := b g f (fun e => by have := (i g e).1.2; have := j.1; omega);rw [l, p] at this;simp at this
   rw [this.2] at hty;exact hty s
 ·rintro k (⟨j, _⟩ | ⟨j, _⟩)
  ·have := y k j;exact ⟨this.1, by have := this.2; omega⟩
  ·exact ⟨by have := j.1; omega, by have := j.2; omega⟩
 ·rintro k ⟨j, _⟩ ⟨E, _⟩;have := (y k j).2;have := E.1;omega
 ·exact ((zH4 A hm.2).alloc (by omega) o).grown hg (by simp; omega) (fun k hk => (i k hk).1.1)
end
end Go.Proofs.YtmdhblhdfcocjaaGreatDoor
