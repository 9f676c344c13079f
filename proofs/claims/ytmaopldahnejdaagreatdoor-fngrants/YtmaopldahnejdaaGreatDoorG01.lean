import Derived.Test.YtmaopldahnejdaaGreatDoorG00Box
import Derived.Test.YtmaopldahnejdaaGreatDoorRows
import Derived.WalkKit
import Derived.ProofKit
import Derived.OpenShut
import Derived.Deep.QuietTactic
import Derived.BigQuiet
import Derived.WalkSmall
import Derived.Below
import Derived.Laws.OwnMore
import Derived.ChangeArms
namespace Go.Proofs.YtmaopldahnejdaaGreatDoor
open Go.ChangeShapes Go.WideShapes Go.ChangeAt Go.RowKit
def zBr (w : World) (a : Option Addr) (xs : List Int) : Prop :=
 xs = [] ∨ ∃ b off, a = some ⟨b, off, none⟩ ∧ ∀ j, j < xs.length → w.cell? ⟨b, off + j, none⟩ = some (.int .i64 (xs.getD j 0))
set_option maxHeartbeats 400000 in
theorem zJW (a1 a2 : Option Addr) (xs : List Int) (c1 c2 : Nat) (w : World) (h1 : zBr w a1 xs) (h2 : zBr w a2 xs) (hm : xs.length ≤ 2305843009213693952) :
    Calls Tryz.prog 70 #[sL a1 xs.length c1, sL a2 xs.length c2] w fun e w' => e = .returned (.bool true) ∧ ∃ n, w' = w.drewN n := by
 go_enter Tryz.func70, Tryz.ntmps70;go_wp2;go_loopw [5] (fun i wr => ∃ k : Nat, k ≤ xs.length ∧ i = nI k ∧ ∃ n, wr = w.drewN n) (fun i _ => xs.length - (intOf i).toNat)
 case atStart => exact ⟨0, Nat.zero_le _, rfl, 0, rfl⟩
 case round =>
  obtain ⟨k, hk, rfl, n, rfl⟩ := hrel;by_cases a : k < xs.length
  ·rcases h1 with rfl | ⟨b1, o1, rfl, c⟩
   ·simp at a
   rcases h2 with rfl | ⟨b2, o2, rfl, b⟩
   ·simp at a
   have g1 := c k a;have g2 := b k a;have d : (k : Int) < (xs.length : Int) := by omega
   clear c b;go_wp2;go_quiet (fail)
   go_wp2;go_roundw
   case rel => exact ⟨k + 1, by omega, by go_num, _, rfl⟩
   case measure => simp [intOf]; omega
  ·go_wp2;go_ret
   exact ⟨rfl, _, rfl⟩
set_option maxHeartbeats 400000 in
theorem zCO (a1 a2 : Option Addr) (xs : List Int) (c1 c2 : Nat) (w : World) (h1 : zBr w a1 xs) (h2 : zBr w a2 xs) (hm : xs.length ≤ 2305843009213693952) :
    Calls Tryz.prog 17 #[sL a1 xs.length c1, sL a2 xs.length c2] w fun e w' => e = .returned (.bool true) ∧ ∃ n, w' = w.drewN n := by
 go_enter Tryz.func17, Tryz.ntmps17;go_wp2;go_loopw [5] (fun i wr => ∃ k : Nat, k ≤ xs.length ∧ i = nI k ∧ ∃ n, wr = w.drewN n) (fun i _ => xs.length - (intOf i).toNat)
 case atStart => exact ⟨0, Nat.zero_le _, rfl, 0, rfl⟩
 case round =>
  obtain ⟨k, hk, rfl, n, rfl⟩ := hrel;by_cases a : k < xs.length
  ·rcases h1 with rfl | ⟨b1, o1, rfl, c⟩
   ·simp at a
   rcases h2 with rfl | ⟨b2, o2, rfl, b⟩
   ·simp at a
   have g1 := c k a;have g2 := b k a;have d : (k : Int) < (xs.length : Int) := by omega
   clear c b;go_wp2;go_quiet (fail)
   go_wp2;go_roundw
   case rel => exact ⟨k + 1, by omega, by go_num, _, rfl⟩
   case measure => simp [intOf]; omega
  ·go_wp2;go_ret
   exact ⟨rfl, _, rfl⟩
set_option maxHeartbeats 400000 in
theorem zFC (a : Option Addr) (xs : List Int) (cap : Nat) (x : Int) (w : World) (h1 : zBr w a xs) (hm : xs.length ≤ 2305843009213693952) :
    Calls Tryz.prog 23 #[sL a xs.length cap, nI x] w fun e w' => e = .returned (.bool (decide (x ∈ xs))) ∧ w' = w := by
 go_enter Tryz.func23, Tryz.ntmps23;go_wp2;go_loop [5] (fun i => ∃ k : Nat, i = nI k ∧ k ≤ xs.length ∧ x ∉ xs.take k) (fun i => xs.length - (intOf i).toNat)
 case atStart => exact ⟨0, rfl, by omega, by simp⟩
 case round =>
  obtain ⟨k, rfl, hk, b⟩ := hrel;by_cases c : k < xs.length
  ·rcases h1 with rfl | ⟨b1, o1, rfl, d⟩
   ·simp at c
   have g1 := d k c;have j : (k : Int) < (xs.length : Int) := by omega
   have l : Hid (xs.take (k + 1) = xs.take k ++ [xs[k]]) := by
    unfold Hid; rw [List.take_add_one, List.getElem?_eq_getElem c]; rfl
   clear d;cases g : (xs[k] == x)
   ·have f : Hid (x ∉ xs.take (k + 1)) := by
      unfold Hid; rw [l.out, List.mem_append, List.mem_singleton]; simp at g; exact fun h => h.elim b fun h => g h.symm
    clear b;go_wp2;go_round
    case rel => exact ⟨k + 1, by go_num, by omega, f.out⟩
    case measure => simp [intOf]; omega
   ·have m : Hid (x ∈ xs) := by
      unfold Hid;have e : xs[k] = x := by simpa using g
      rw [← e];exact List.getElem_mem c
    clear b;go_wp2;go_ret
    exact ⟨by rw [decide_eq_true m.out]; rfl, rfl⟩
  ·have f : Hid (x ∉ xs) := by unfold Hid; rw [List.take_of_length_le (by omega)] at b; exact b
   clear b;go_wp2;go_ret
   exact ⟨by rw [decide_eq_false f.out]; rfl, rfl⟩
theorem zBB {a b c : World} {row : Option Nat} (h : a.grownBy b row) (k : b.grownBy c row) : a.grownBy c row :=
 ⟨k.os.trans h.os, k.tape.trans h.tape, k.output.trans h.output, Nat.le_trans h.size k.size, fun j hj hne => (k.block j (Nat.lt_of_lt_of_le hj h.size) hne).trans (h.block j hj hne)⟩
theorem zKA {w : World} {B e g n cap : Nat} {zs : List Int} (h : w.ownsRow B e 1 (sL (some ⟨g, 0, none⟩) n cap) n (zs.map (Value.int .i64))) :
    zBr w (some ⟨g, 0, none⟩) zs := by
 refine .inr ⟨g, 0, rfl, fun j hj => ?_⟩;have a := h.1;simp at a
 rw [Nat.zero_add, h.cellAt j (by omega)];simp [List.getD_eq_getElem?_getD, hj]
theorem zDD {w w' : World} {base e size g n cap B : Nat} {xs : List Value} (h : w.ownsRow base e size (sL (some ⟨g, 0, none⟩) n cap) n xs) (hb : Below B w w') (hg : g < B) :
    w'.ownsRow base e size (sL (some ⟨g, 0, none⟩) n cap) n xs := by
 refine ⟨h.1, ?_⟩;rcases h.2 with ⟨a, _⟩ | ⟨g', f, d, a, b, c, rest⟩
 ·simp at a
 ·simp only [Value.slice.injEq, Option.some.injEq, Addr.mk.injEq, and_true, true_and] at a;obtain ⟨rfl, rfl⟩ := a;exact .inr ⟨g, cap, d, rfl, b, by rw [hb.block g hg]; exact c, rest⟩
theorem zKB {w w' : World} {base e size g n cap r : Nat} {xs : List Value} (h : w.ownsRow base e size (sL (some ⟨g, 0, none⟩) n cap) n xs) (hb : w.grownBy w' (some r)) (hg : g ≠ r) :
    w'.ownsRow base e size (sL (some ⟨g, 0, none⟩) n cap) n xs :=
 h.kept hb (.inr (by simp [Value.ownBlock, hg]))
theorem zJ0 {w : World} {base e size g n cap : Nat} {xs : List Value} (h : w.ownsRow base e size (sL (some ⟨g, 0, none⟩) n cap) n xs) : base ≤ g ∧ g < w.heap.size := h.lt g rfl
set_option linter.unusedVariables false
abbrev zAN := Nat → Prop
def Sub (S T : zAN) : Prop := ∀ k, S k → T k
def Dis (S T : zAN) : Prop := ∀ k, S k → T k → False
def rng (lo hi : Nat) : zAN := fun k => lo ≤ k ∧ k < hi
def Keeps (S : zAN) (w w' : World) : Prop := ∀ k, S k → k < w.heap.size → w'.heap[k]? = w.heap[k]?
theorem Sub.refl (S : zAN) : Sub S S := fun _ h => h
theorem Sub.trans {S T U : zAN} (h : Sub S T) (k : Sub T U) : Sub S U := fun i hi => k i (h i hi)
theorem Dis.symm {S T : zAN} (h : Dis S T) : Dis T S := fun k a b => h k b a
theorem Dis.sub {S T S' T' : zAN} (h : Dis S T) (a : Sub S' S) (b : Sub T' T) : Dis S' T' := fun k x y => h k (a k x) (b k y)
theorem Keeps.sub {S T : zAN} {w w' : World} (h : Keeps T w w') (s : Sub S T) : Keeps S w w' := fun k hk hl => h k (s k hk) hl
theorem zAL {lo hi lo' hi' : Nat} (h : lo' ≤ lo) (k : hi ≤ hi') : Sub (rng lo hi) (rng lo' hi') := fun _ hi => ⟨Nat.le_trans h hi.1, Nat.lt_of_lt_of_le hi.2 k⟩
theorem zFe {lo hi lo' hi' : Nat} (h : hi ≤ lo' ∨ hi' ≤ lo) : Dis (rng lo hi) (rng lo' hi') := fun k a b => by
 have a1 := a.1;have a2 := a.2;have b1 := b.1;have b2 := b.2;omega
structure Chg (S : zAN) (w w' : World) : Prop where
 os : w'.os = w.os
 tape : w'.tape = w.tape
 output : w'.output = w.output
 size : w.heap.size ≤ w'.heap.size
 block : ∀ k, k < w.heap.size → ¬ S k → w'.heap[k]? = w.heap[k]?
theorem Chg.refl (S : zAN) (w : World) : Chg S w w := ⟨rfl, rfl, rfl, Nat.le_refl _, fun _ _ _ => rfl⟩
theorem Chg.trans {S : zAN} {a b c : World} (h : Chg S a b) (k : Chg S b c) : Chg S a c :=
 ⟨k.os.trans h.os, k.tape.trans h.tape, k.output.trans h.output, Nat.le_trans h.size k.size, fun j hj hn => (k.block j (Nat.lt_of_lt_of_le hj h.size) hn).trans (h.block j hj hn)⟩
theorem Chg.mono {S T : zAN} {a b : World} (h : Chg S a b) (s : Sub S T) : Chg T a b := ⟨h.os, h.tape, h.output, h.size, fun k hk hn => h.block k hk fun x => hn (s k x)⟩
theorem Chg.keeps {S T : zAN} {a b : World} (h : Chg S a b) (d : Dis T S) : Keeps T a b := fun k hk hl => h.block k hl fun x => d k hk x
theorem Chg.below {S : zAN} {B : Nat} {a w w' : World} (hb : Below B a w) (h : Chg S w w') (hS : ∀ k, S k → B ≤ k) (h2 : B ≤ w.heap.size) : Below B a w' :=
 hb.trans ⟨h.os, h.tape, h.output, h.size, fun k hk => h.block k (by omega) (fun x => by have := hS k x; omega)⟩
theorem zB2 {S : zAN} {g : Nat} {w w' : World} (h : w.grownBy w' (some g)) (hg : S g) : Chg S w w' :=
 ⟨h.os, h.tape, h.output, h.size, fun k hk hn => h.block k hk (fun e => by cases e; exact hn hg)⟩
theorem zBp {S : zAN} {w w' : World} (h : Bl w w') : Chg S w w' := ⟨h.os, h.tape, h.output, h.size, fun k hk _ => h.block k hk⟩
theorem zAj {S : zAN} {w w' : World} (h : Bl w w') : Keeps S w w' := fun k _ hl => h.block k hl
theorem zD6 {S : zAN} {D : Nat} {w w' : World} (h : Below D w w') (hS : ∀ k, S k → k < D) : Keeps S w w' := fun k hk _ => h.block k (hS k hk)
structure Rep (α : Type) where
 size : Nat
 tys : List TypeId
 rd : World → List Value → α → Prop
 own : World → zAN → List Value → α → Prop
 rd_len : ∀ {w : World} {cs : List Value} {a : α}, rd w cs a → cs.length = size
 rd_keep : ∀ {w w' : World} {cs : List Value} {a : α}, rd w cs a → (∀ k, k < w.heap.size → w'.heap[k]? = w.heap[k]?) → rd w' cs a
 own_rd : ∀ {w : World} {S : zAN} {cs : List Value} {a : α}, own w S cs a → rd w cs a
 own_mono : ∀ {w : World} {S T : zAN} {cs : List Value} {a : α}, own w S cs a → Sub S T → own w T cs a
 own_keep : ∀ {w w' : World} {S : zAN} {cs : List Value} {a : α}, own w S cs a → Keeps S w w' → own w' S cs a
 own_tight : ∀ {w : World} {S : zAN} {cs : List Value} {a : α}, own w S cs a → own w (fun k => S k ∧ ∃ cur t, t ∈ tys ∧ w.heap[k]? = some (.cells cur t (0, 0))) cs a
def zA4 (a : Int) : Prop := -9223372036854775808 ≤ a ∧ a ≤ 9223372036854775807
def zBf : Rep Int where
 size := 1
 tys := []
 rd _ cs a := cs = [.int .i64 a] ∧ zA4 a
 own _ _ cs a := cs = [.int .i64 a] ∧ zA4 a
 rd_len h := by rw [h.1]; rfl
 rd_keep h _ := h
 own_rd h := h
 own_mono h _ := h
 own_keep h _ := h
 own_tight h := h
def boolR : Rep Bool where
 size := 1
 tys := []
 rd _ cs a := cs = [.bool a]
 own _ _ cs a := cs = [.bool a]
 rd_len h := by rw [h]; rfl
 rd_keep h _ := h
 own_rd h := h
 own_mono h _ := h
 own_keep h _ := h
 own_tight h := h
section
variable {α β : Type}
def zCg (R : Rep α) (Q : Rep β) : Rep (α × β) where
 size := R.size + Q.size
 tys := R.tys ++ Q.tys
 rd w cs a := ∃ c1 c2, cs = c1 ++ c2 ∧ R.rd w c1 a.1 ∧ Q.rd w c2 a.2
 own w S cs a := ∃ c1 c2 S1 S2, cs = c1 ++ c2 ∧ R.own w S1 c1 a.1 ∧ Q.own w S2 c2 a.2 ∧ Sub S1 S ∧ Sub S2 S ∧ Dis S1 S2
 rd_len := by
  rintro w cs a ⟨c1, c2, rfl, h1, h2⟩;rw [List.length_append, R.rd_len h1, Q.rd_len h2]
 rd_keep := by
  rintro w w' cs a ⟨c1, c2, rfl, h1, h2⟩ hk;exact ⟨c1, c2, rfl, R.rd_keep h1 hk, Q.rd_keep h2 hk⟩
 own_rd := by
  rintro w S cs a ⟨c1, c2, S1, S2, rfl, h1, h2, _⟩;exact ⟨c1, c2, rfl, R.own_rd h1, Q.own_rd h2⟩
 own_mono := by
  rintro w S T cs a ⟨c1, c2, S1, S2, rfl, h1, h2, a1, a2, d⟩ hs;exact ⟨c1, c2, S1, S2, rfl, h1, h2, a1.trans hs, a2.trans hs, d⟩
 own_keep := by
  rintro w w' S cs a ⟨c1, c2, S1, S2, rfl, h1, h2, a1, a2, d⟩ hk;exact ⟨c1, c2, S1, S2, rfl, R.own_keep h1 (hk.sub a1), Q.own_keep h2 (hk.sub a2), a1, a2, d⟩
 own_tight := by
  rintro w S cs a ⟨c1, c2, S1, S2, rfl, h1, h2, a1, a2, d⟩;refine ⟨c1, c2, _, _, rfl, R.own_tight h1, Q.own_tight h2, ?_, ?_, ?_⟩
  ·rintro k ⟨hk, cur, t, ht, hh⟩;exact ⟨a1 k hk, cur, t, List.mem_append.2 (.inl ht), hh⟩
  ·rintro k ⟨hk, cur, t, ht, hh⟩;exact ⟨a2 k hk, cur, t, List.mem_append.2 (.inr ht), hh⟩
  ·exact d.sub (fun k h => h.1) (fun k h => h.1)
def lrd (R : Rep α) (w : World) : List Value → List α → Prop
 | cs, [] => cs = []
 | cs, a :: r => ∃ c1 c2, cs = c1 ++ c2 ∧ R.rd w c1 a ∧ lrd R w c2 r
def zGD (R : Rep α) (w : World) : zAN → List Value → List α → Prop
 | _, cs, [] => cs = []
 | S, cs, a :: r => ∃ c1 c2 S1 S2, cs = c1 ++ c2 ∧ R.own w S1 c1 a ∧ zGD R w S2 c2 r ∧ Sub S1 S ∧ Sub S2 S ∧ Dis S1 S2
theorem zKC {R : Rep α} {w : World} : ∀ {cs : List Value} {xs : List α}, lrd R w cs xs → cs.length = xs.length * R.size
 | _, [], h => by rw [show _ = [] from h]; simp
 | _, x :: xs, ⟨c1, c2, e, h1, h2⟩ => by
  rw [e, List.length_append, R.rd_len h1, zKC h2, List.length_cons, Nat.add_one_mul];omega
theorem zHj {R : Rep α} {w w' : World} : ∀ {cs : List Value} {xs : List α}, lrd R w cs xs → (∀ k, k < w.heap.size → w'.heap[k]? = w.heap[k]?) → lrd R w' cs xs
 | _, [], h, _ => h
 | _, x :: xs, ⟨c1, c2, e, h1, h2⟩, hk => ⟨c1, c2, e, R.rd_keep h1 hk, zHj h2 hk⟩
theorem zII {R : Rep α} {w : World} : ∀ {S : zAN} {cs : List Value} {xs : List α}, zGD R w S cs xs → lrd R w cs xs
 | _, _, [], h => h
 | _, _, x :: xs, ⟨c1, c2, _, _, e, h1, h2, _⟩ => ⟨c1, c2, e, R.own_rd h1, zII h2⟩
theorem zJ1 {R : Rep α} {w : World} {S : zAN} {cs : List Value} {xs : List α} (h : zGD R w S cs xs) : cs.length = xs.length * R.size := zKC (zII h)
theorem zKD {R : Rep α} {w : World} {S T : zAN} {cs : List Value} {xs : List α} (h : zGD R w S cs xs) (hs : Sub S T) : zGD R w T cs xs := by
 cases xs with
 | nil => exact h
 | cons x xs =>
  obtain ⟨g, b, k, i, e, c, a, f, j, d⟩ := h;exact ⟨g, b, k, i, e, c, a, f.trans hs, j.trans hs, d⟩
theorem zCP {R : Rep α} {w w' : World} : ∀ {S : zAN} {cs : List Value} {xs : List α}, zGD R w S cs xs → Keeps S w w' → zGD R w' S cs xs
 | _, _, [], h, _ => h
 | _, _, x :: xs, ⟨c1, c2, S1, S2, e, h1, h2, a1, a2, d⟩, hk => ⟨c1, c2, S1, S2, e, R.own_keep h1 (hk.sub a1), zCP h2 (hk.sub a2), a1, a2, d⟩
theorem zEq {R : Rep α} {w : World} : ∀ {S : zAN} {cs : List Value} {xs : List α}, zGD R w S cs xs → zGD R w (fun k => S k ∧ ∃ cur t, t ∈ R.tys ∧ w.heap[k]? = some (.cells cur t (0, 0))) cs xs
 | _, _, [], h => h
 | _, _, x :: xs, ⟨c1, c2, S1, S2, e, h1, h2, a1, a2, d⟩ =>
  ⟨c1, c2, _, _, e, R.own_tight h1, zEq h2, fun k h => ⟨a1 k h.1, h.2⟩, fun k h => ⟨a2 k h.1, h.2⟩, d.sub (fun k h => h.1) (fun k h => h.1)⟩
theorem lrd_at {R : Rep α} {w : World} : ∀ {xs : List α} {cs : List Value} {j : Nat} {x : α}, lrd R w cs xs → xs[j]? = some x → R.rd w ((cs.drop (j * R.size)).take R.size) x
 | [], _, j, x, _, hx => by simp at hx
 | y :: ys, cs, 0, x, ⟨c1, c2, e, h1, h2⟩, hx => by
  simp at hx
  subst hx e;have a := R.rd_len h1;rw [Nat.zero_mul, List.drop_zero, List.take_append_of_le_length (by omega), List.take_of_length_le (by omega)];exact h1
 | y :: ys, cs, j + 1, x, ⟨c1, c2, e, h1, h2⟩, hx => by
  simp at hx
  subst e;have a := R.rd_len h1;have := lrd_at h2 hx;rw [Nat.add_one_mul, List.drop_append, List.drop_of_length_le (by omega), List.nil_append, show j * R.size + R.size - c1.length = j * R.size by omega];exact this
theorem zEI {R : Rep α} {w : World} {T U : zAN} {c : List Value} {x : α} : ∀ {S : zAN} {cs : List Value} {xs : List α}, zGD R w S cs xs → R.own w T c x → Dis S T → Sub S U → Sub T U → zGD R w U (cs ++ c) (xs ++ [x])
 | S, cs, [], h, ho, hd, s1, s2 => by
  rw [show cs = [] from h];exact ⟨c, [], T, fun _ => False, by simp, ho, rfl, s2, fun _ h => h.elim, fun _ _ h => h⟩
 | S, cs, y :: ys, ⟨c1, c2, S1, S2, e, h1, h2, a1, a2, d⟩, ho, hd, s1, s2 => by
  subst e;refine ⟨c1, c2 ++ c, S1, (fun k => S2 k ∨ T k), by simp, h1, ?_, a1.trans s1, ?_, ?_⟩
  ·exact zEI h2 ho (hd.sub a2 (Sub.refl _)) (fun k h => .inl h) (fun k h => .inr h)
  ·rintro k (h | h)
   ·exact s1 k (a2 k h)
   ·exact s2 k h
  ·rintro k h (a | a)
   ·exact d k h a
   ·exact hd k (a1 k h) a
theorem zFf {R : Rep α} {w : World} : ∀ {xs : List α} {S : zAN} {cs : List Value} {j : Nat} {x : α}, zGD R w S cs xs → xs[j]? = some x →
    ∃ Sj T, R.own w Sj ((cs.drop (j * R.size)).take R.size) x ∧ Sub Sj S ∧ Sub T S ∧ Dis Sj T ∧
     ∀ w' c' x' U V, Keeps T w w' → R.own w' U c' x' → Dis U T → Sub U V → Sub T V → zGD R w' V (cs.take (j * R.size) ++ (c' ++ cs.drop (j * R.size + R.size))) (xs.set j x')
 | [], S, _, j, x, _, hx => by simp at hx
 | y :: ys, S, cs, 0, x, ⟨c1, c2, S1, S2, e, h1, h2, a1, a2, d⟩, hx => by
  simp at hx
  subst hx e;have m := R.rd_len (R.own_rd h1);refine ⟨S1, S2, ?_, a1, a2, d, fun w' c' x' U V hk ho hd hs ht => ?_⟩
  ·rw [Nat.zero_mul, List.drop_zero, List.take_append_of_le_length (by omega), List.take_of_length_le (by omega)];exact h1
  ·rw [Nat.zero_mul, List.take_zero, List.nil_append, Nat.zero_add, List.drop_append, List.drop_of_length_le (by omega), List.nil_append, show R.size - c1.length = 0 by omega, List.drop_zero];exact ⟨c', c2, U, S2, rfl, ho, zCP h2 hk, hs, ht, hd⟩
 | y :: ys, S, cs, j + 1, x, ⟨c1, c2, S1, S2, e, h1, h2, a1, a2, d⟩, hx => by
  simp at hx
  subst e;have m := R.rd_len (R.own_rd h1);obtain ⟨Sj, T, o, g, i, l, n⟩ := zFf h2 hx;have b : (j + 1) * R.size = c1.length + j * R.size := by rw [Nat.add_one_mul]; omega
  refine ⟨Sj, (fun k => S1 k ∨ T k), ?_, g.trans a2, ?_, ?_, fun w' c' x' U V hk ho hd hs ht => ?_⟩
  ·rw [b, List.drop_append, List.drop_of_length_le (by omega), List.nil_append, show c1.length + j * R.size - c1.length = j * R.size by omega];exact o
  ·rintro k (h | h)
   ·exact a1 k h
   ·exact a2 k (i k h)
  ·rintro k h (a | a)
   ·exact d k a (g k h)
   ·exact l k h a
  ·have c : Keeps S1 w w' := hk.sub fun k h => .inl h;have f : Keeps T w w' := hk.sub fun k h => .inr h;have p : Dis U S1 := hd.sub (Sub.refl _) fun k h => .inl h;have r := n w' c' x' U (fun k => U k ∨ T k) f ho (hd.sub (Sub.refl _) fun k h => .inr h) (fun k h => .inl h) (fun k h => .inr h)
   rw [b, List.take_append, List.take_of_length_le (by omega), show c1.length + j * R.size - c1.length = j * R.size by omega,
    show c1.length + j * R.size + R.size = c1.length + (j * R.size + R.size) by omega, List.drop_append, List.drop_of_length_le (by omega), List.nil_append,
    show c1.length + (j * R.size + R.size) - c1.length = j * R.size + R.size by omega, List.append_assoc, List.set_cons_succ]
   refine ⟨c1, _, S1, _, rfl, R.own_keep h1 c, r, fun k h => ht k (.inl h), ?_, ?_⟩
   ·rintro k (h | h)
    ·exact hs k h
    ·exact ht k (.inr h)
   ·rintro k h (a | a)
    ·exact p k a h
    ·exact d k h (i k a)
end
section
variable {α β : Type}
theorem zDE {w : World} {base size n g : Nat} {e : TypeId} {v : Value} {xs : List Value} (h : w.ownsRow base e size v n xs) (hg : v.ownBlock = some g) : ∃ a, w.heap[g]? = some (.cells a e (0, 0)) := by
 rcases h.2 with ⟨rfl, _⟩ | ⟨g', b, a, rfl, _, c, _⟩
 ·simp [Value.ownBlock] at hg
 ·simp [Value.ownBlock] at hg
  subst hg;exact ⟨a, c⟩
theorem zDF {w w' : World} {base size n : Nat} {e : TypeId} {v : Value} {xs : List Value} (h : w.ownsRow base e size v n xs) (hk : ∀ g, v.ownBlock = some g → w'.heap[g]? = w.heap[g]?) : w'.ownsRow base e size v n xs := by
 refine ⟨h.1, ?_⟩;rcases h.2 with d | ⟨g, a, b, rfl, f, c, rest⟩
 ·exact .inl d
 ·exact .inr ⟨g, a, b, rfl, f, by rw [hk g rfl]; exact c, rest⟩
theorem zEr {w : World} {base base' size n : Nat} {e : TypeId} {v : Value} {xs : List Value} (h : w.ownsRow base e size v n xs) (hb : ∀ g, v.ownBlock = some g → base' ≤ g) : w.ownsRow base' e size v n xs := by
 refine ⟨h.1, ?_⟩;rcases h.2 with c | ⟨g, a, b, rfl, _, rest⟩
 ·exact .inl c
 ·exact .inr ⟨g, a, b, rfl, hb g rfl, rest⟩
def zBv (R : Rep α) (w : World) (a : Option Addr) (xs : List α) : Prop :=
 xs = [] ∨ ∃ b off rows, a = some ⟨b, off, none⟩ ∧ lrd R w rows xs ∧ ∀ j u, rows[j]? = some u → w.cell? ⟨b, off + j, none⟩ = some u
def slR (e : TypeId) (R : Rep α) : Rep (List α) where
 size := 1
 tys := e :: R.tys
 rd w cs xs := ∃ a cap, cs = [.slice a xs.length cap] ∧ xs.length ≤ cap ∧ cap ≤ maxLen ∧ zBv R w a xs
 own w S cs xs := ∃ v rows S', cs = [v] ∧ w.ownsRow 0 e R.size v xs.length rows ∧ (∀ g, v.ownBlock = some g → S g ∧ ¬ S' g) ∧ Sub S' S ∧ zGD R w S' rows xs
 rd_len := by
  rintro w cs xs ⟨a, cap, rfl, _⟩;rfl
 rd_keep := by
  rintro w w' cs xs ⟨a, cap, rfl, h1, h2, h3⟩ hk;refine ⟨a, cap, rfl, h1, h2, ?_⟩;rcases h3 with h3 | ⟨b, off, rows, rfl, h4, h5⟩
  ·exact .inl h3
  ·refine .inr ⟨b, off, rows, rfl, zHj h4 hk, fun j u hu => ?_⟩;have := h5 j u hu;have hl := World.block_lt_of_cell? w ⟨b, off + j, none⟩ this;rw [World.cell?_of_block (w := w) (hk b hl)];exact this
 own_rd := by
  rintro w S cs xs ⟨v, rows, S', rfl, hr, _, _, hl⟩;rcases hr.2 with ⟨rfl, h0⟩ | ⟨g, cap, cur, rfl, hb, hh, hc, hm, hs, ht⟩
  ·have : xs = [] := List.eq_nil_of_length_eq_zero h0;subst this;exact ⟨none, 0, rfl, Nat.le_refl _, Nat.zero_le _, .inl rfl⟩
  ·refine ⟨_, cap, rfl, hc, hm, .inr ⟨g, 0, rows, rfl, zII hl, fun j u hu => ?_⟩⟩;have hj : j < rows.length := (List.getElem?_eq_some_iff.1 hu).1;rw [Nat.zero_add, World.ownsRow.cellAt hr j (by have := hr.1; omega)];exact hu
 own_mono := by
  rintro w S T cs xs ⟨v, rows, S', rfl, hr, hg, hs, hl⟩ hst;exact ⟨v, rows, S', rfl, hr, fun g h => ⟨hst g (hg g h).1, (hg g h).2⟩, hs.trans hst, hl⟩
 own_keep := by
  rintro w w' S cs xs ⟨v, rows, S', rfl, hr, hg, hs, hl⟩ hk;refine ⟨v, rows, S', rfl, zDF hr fun g h => ?_, hg, hs, zCP hl (hk.sub hs)⟩;obtain ⟨cur, hh⟩ := zDE hr h;exact hk g (hg g h).1 (ltH hh)
 own_tight := by
  rintro w S cs xs ⟨v, rows, S', rfl, hr, hg, hs, hl⟩;refine ⟨v, rows, _, rfl, hr, fun g h => ?_, ?_, zEq hl⟩
  ·obtain ⟨cur, hh⟩ := zDE hr h;exact ⟨⟨(hg g h).1, cur, e, by simp, hh⟩, fun h' => (hg g h).2 h'.1⟩
  ·rintro k ⟨hk, cur, t, ht, hh⟩;exact ⟨hs k hk, cur, t, List.mem_cons_of_mem _ ht, hh⟩
theorem zBH {R : Rep α} {w : World} {a : Option Addr} {xs : List α} {j : Nat} {x : α} (h : zBv R w a xs) (hx : xs[j]? = some x) :
    ∃ b d c, a = some ⟨b, d, none⟩ ∧ R.rd w c x ∧ ∀ i u, c[i]? = some u → w.cell? ⟨b, d + (j * R.size + i), none⟩ = some u := by
 rcases h with rfl | ⟨b, d, f, rfl, g, k⟩
 ·simp at hx
 ·refine ⟨b, d, _, rfl, lrd_at g hx, fun i u hu => ?_⟩;refine k (j * R.size + i) u ?_;rw [List.getElem?_take] at hu;split at hu
  ·rw [List.getElem?_drop] at hu;exact hu
  ·cases hu
theorem zCQ {R : Rep α} {w w' : World} {a : Option Addr} {xs : List α} (h : zBv R w a xs) (hk : ∀ k, k < w.heap.size → w'.heap[k]? = w.heap[k]?) : zBv R w' a xs := by
 rcases h with g | ⟨b, c, d, rfl, i, l⟩
 ·exact .inl g
 ·refine .inr ⟨b, c, d, rfl, zHj i hk, fun j u hu => ?_⟩;have := l j u hu;have f := World.block_lt_of_cell? w ⟨b, c + j, none⟩ this;rw [World.cell?_of_block (w := w) (hk b f)];exact this
end
section
variable {α β : Type}
end
section
variable {α β : Type}
def zAD (R : Rep α) (w w' : World) (cs : List Value) (a : α) : Prop := R.own w' (rng w.heap.size w'.heap.size) cs a ∧ Below w.heap.size w w'
theorem zJX {w w1 w2 : World} (h : Bl w w1) (h2 : Bl w1 w2) : Bl w w2 := h.trans (h2.mono h.size)
theorem zC4 {R : Rep α} {w w1 w2 : World} {cs : List Value} {a : α} (h : Bl w w1) (h2 : zAD R w1 w2 cs a) : zAD R w w2 cs a :=
 ⟨R.own_mono h2.1 (zAL h.size (Nat.le_refl _)), zJX h h2.2⟩
theorem own_next {R : Rep α} {lo : Nat} {w w1 : World} {cs : List Value} {a : α} (h : R.own w (rng lo w.heap.size) cs a) (hb : Bl w w1) : R.own w1 (rng lo w.heap.size) cs a :=
 R.own_keep h fun k hk _ => hb.block k hk.2
theorem own_stay {R : Rep α} {lo hi D : Nat} {w w1 : World} {cs : List Value} {a : α} (h : R.own w (rng lo hi) cs a) (hb : Below D w w1) (hD : hi ≤ D) : R.own w1 (rng lo hi) cs a :=
 R.own_keep h fun k hk _ => hb.block k (Nat.lt_of_lt_of_le hk.2 hD)
theorem zBk {R : Rep α} {S T : zAN} {w w1 : World} {cs : List Value} {a : α} (h : R.own w S cs a) (hb : Chg T w w1) (hd : Dis S T) : R.own w1 S cs a := R.own_keep h (hb.keeps hd)
theorem zBl {R : Rep α} {w w1 : World} {cs : List Value} {a : α} (h : R.rd w cs a) (hb : Bl w w1) : R.rd w1 cs a := R.rd_keep h fun k hk => hb.block k hk
theorem zAt {R : Rep α} {w w1 : World} {a : Option Addr} {xs : List α} (h : zBv R w a xs) (hb : Bl w w1) : zBv R w1 a xs := zCQ h fun k hk => hb.block k hk
def zDN (w : World) (g : Nat) : Nat → List Value → World
 | _, [] => w
 | off, c :: cs => zDN (w.setCell ⟨g, off, none⟩ c) g (off + 1) cs
theorem zEJ (xs : List Value) (off : Nat) (c : Value) (h : off < xs.length) : xs.set off c = xs.take off ++ (c :: xs.drop (off + 1)) := by
 rw [List.set_eq_take_append_cons_drop, if_pos h]
theorem zFD {base e size g n cap : Nat} : ∀ {cs : List Value} {w : World} {off : Nat} {xs : List Value}, w.ownsRow base e size (sL (some ⟨g, 0, none⟩) n cap) n xs → off + cs.length ≤ n * size →
    (zDN w g off cs).ownsRow base e size (sL (some ⟨g, 0, none⟩) n cap) n (xs.take off ++ (cs ++ xs.drop (off + cs.length))) ∧ w.grownBy (zDN w g off cs) (some g)
 | [], w, off, xs, h, hl => by
  simp only [zDN, List.nil_append, List.length_nil, Nat.add_zero, List.take_append_drop];exact ⟨h, World.grownBy.refl _ _⟩
 | c :: cs, w, off, xs, h, hl => by
  simp only [List.length_cons] at hl;have b : off < xs.length := by have := h.1; omega
  have R := World.ownsRow.stored h off c;have r := zFD (cs := cs) (off := off + 1) R.1 (by omega);refine ⟨?_, zBB R.2 r.2⟩;have d : (xs.set off c).take (off + 1) ++ (cs ++ (xs.set off c).drop (off + 1 + cs.length)) = xs.take off ++ (c :: cs ++ xs.drop (off + (c :: cs).length)) := by
   rw [zEJ xs off c b];have a : (xs.take off).length = off := by simp; omega
   rw [List.take_append, List.take_of_length_le (by omega), a, show off + 1 - off = 1 by omega, List.take_succ_cons, List.take_zero, List.drop_append, List.drop_of_length_le (by omega), List.nil_append, a,
    show off + 1 + cs.length - off = cs.length + 1 by omega, List.drop_succ_cons, List.drop_drop]
   simp only [List.length_cons, List.append_assoc, List.cons_append, List.nil_append];rw [show off + 1 + cs.length = off + (cs.length + 1) by omega]
  rw [← d];exact r.1
end
end Go.Proofs.YtmaopldahnejdaaGreatDoor
