import Derived.Test.YtcocbafhcpdheaaGreatDoorT00Box
import Derived.Test.YtcocbafhcpdheaaGreatDoorRows
import Derived.WalkKit
import Derived.ProofKit
import Derived.OpenShut
import Derived.Deep.QuietTactic
import Derived.BigQuiet
import Derived.WalkSmall
import Derived.Below
import Derived.Laws.OwnMore
import Derived.ChangeArms
namespace Go.Proofs.YtcocbafhcpdheaaGreatDoor
open Go.ChangeShapes Go.WideShapes Go.ChangeAt Go.RowKit
def zDr (w : World) (a : Option Addr) (xs : List Int) : Prop :=
 xs = [] ∨ ∃ b off, a = some ⟨b, off, none⟩ ∧ ∀ j, j < xs.length → w.cell? ⟨b, off + j, none⟩ = some (.int .i64 (xs.getD j 0))
set_option maxHeartbeats 400000 in
theorem zLM (a1 a2 : Option Addr) (xs : List Int) (c1 c2 : Nat) (w : World) (h1 : zDr w a1 xs) (h2 : zDr w a2 xs) (hm : xs.length ≤ 2305843009213693952) :
    Calls Tryz.prog 11 #[.slice a1 xs.length c1, .slice a2 xs.length c2] w fun e w' => e = .returned (.bool true) ∧ ∃ n, w' = w.drewN n := by
 go_enter Tryz.func11, Tryz.ntmps11;go_wp2;go_loopw [5] (fun i wr => ∃ k : Nat, k ≤ xs.length ∧ i = .int .i64 k ∧ ∃ n, wr = w.drewN n) (fun i _ => xs.length - (intOf i).toNat)
 case atStart => exact ⟨0, Nat.zero_le _, rfl, 0, rfl⟩
 case round =>
  obtain ⟨k, hk, rfl, n, rfl⟩ := hrel;by_cases a : k < xs.length
  ·rcases h1 with rfl | ⟨b1, o1, rfl, b⟩
   ·simp at a
   rcases h2 with rfl | ⟨b2, o2, rfl, c⟩
   ·simp at a
   have g1 := b k a;have g2 := c k a;have d : (k : Int) < (xs.length : Int) := by omega
   clear b c;go_wp2;go_quiet (fail)
   go_wp2;go_roundw
   case rel => exact ⟨k + 1, by omega, by go_num, _, rfl⟩
   case measure => simp [intOf]; omega
  ·go_wp2;go_ret
   exact ⟨rfl, _, rfl⟩
def zHI (k : Int) (n : Nat) : List Int := (List.range n).map (fun (j : Nat) => k + (j : Int))
theorem zFk (k : Int) (n : Nat) : (zHI k n).length = n := by simp [zHI]
theorem seqs_get (k : Int) (n j : Nat) (h : j < n) : (zHI k n).getD j 0 = k + j := by
 simp [zHI, List.getD_eq_getElem?_getD, h]
theorem zNb (k : Int) (n : Nat) : zHI k (n + 1) = zHI k n ++ [k + n] := by simp [zHI, List.range_succ]
theorem zEL {a b c : World} {row : Option Nat} (h : a.grownBy b row) (k : b.grownBy c row) : a.grownBy c row :=
 ⟨k.os.trans h.os, k.tape.trans h.tape, k.output.trans h.output, Nat.le_trans h.size k.size, fun j hj hne => (k.block j (Nat.lt_of_lt_of_le hj h.size) hne).trans (h.block j hj hne)⟩
theorem zNc (k : Int) (j : Nat) (xs : List Value) (h : j < xs.length) :
    ((zHI k j).map (Value.int .i64) ++ xs.drop j).set j (.int .i64 (k + j)) = (zHI k (j + 1)).map (Value.int .i64) ++ xs.drop (j + 1) := by
 have a : ((zHI k j).map (Value.int .i64)).length = j := by simp [zFk]
 rw [List.set_append_right _ _ (by omega), a, Nat.sub_self, List.drop_eq_getElem_cons h, zNb];simp only [List.set_cons_zero, List.map_append, List.map_cons, List.map_nil, List.append_assoc, List.cons_append, List.nil_append]
set_option maxHeartbeats 400000 in
theorem mark_any (B e g cap : Nat) (k : Int) (n : Nat) (xs : List Value) (w : World) (h0 : 0 ≤ k) (h1 : k ≤ 2305843009213693952) (hm : n ≤ 2305843009213693952)
    (hown : w.ownsRow B e 1 (.slice (some ⟨g, 0, none⟩) n cap) n xs) :
    Calls Tryz.prog 14 #[.slice (some ⟨g, 0, none⟩) n cap, .int .i64 k] w fun e' w' => e' = .returned (.int .i64 (k + n)) ∧
     w'.ownsRow B e 1 (.slice (some ⟨g, 0, none⟩) n cap) n ((zHI k n).map (Value.int .i64)) ∧ w.grownBy w' (some g) := by
 have p : xs.length = n := by simpa using hown.1
 go_enter Tryz.func14, Tryz.ntmps14;go_wp2;go_loopw [1, 5] (fun q i wr => ∃ j : Nat, j ≤ n ∧ i = .int .i64 j ∧ q = .int .i64 (k + j) ∧ wr.ownsRow B e 1 (.slice (some ⟨g, 0, none⟩) n cap) n ((zHI k j).map (Value.int .i64) ++ xs.drop j) ∧ w.grownBy wr (some g))
  (fun _ i _ => n - (intOf i).toNat)
 case atStart => exact ⟨0, Nat.zero_le _, rfl, by simp, by simpa [zHI] using hown, World.grownBy.refl _ _⟩
 case round =>
  obtain ⟨j, hj, rfl, rfl, a, d⟩ := hrel;by_cases m : j < n
  ·have c : (j : Int) < (n : Int) := by omega
   have o := a.frozenAt j;obtain ⟨f, hc⟩ : ∃ f, wr.cell? ⟨g, j, none⟩ = some f := by
    rw [a.cellAt j (by omega)];exact ⟨_, List.getElem?_eq_getElem (by have := a.1; omega)⟩
   have R := a.stored j (.int .i64 (k + j));rw [zNc k j xs (by omega)] at R;have l : Hid _ := R;clear R;go_wp2;go_roundw
   case rel => exact ⟨j + 1, by omega, by go_num, by go_num, l.out.1, zEL d l.out.2⟩
   case measure => simp [intOf]; omega
  ·have b : j = n := by omega
   subst b;go_wp2;go_ret
   exact ⟨rfl, by simpa [List.drop_of_length_le (Nat.le_of_eq p)] using a, d⟩
set_option maxHeartbeats 400000 in
theorem held_any (a : Option Addr) (cap : Nat) (k : Int) (n : Nat) (w : World) (h0 : 0 ≤ k) (h1 : k ≤ 2305843009213693952) (hm : n ≤ 2305843009213693952)
    (hr : zDr w a (zHI k n)) :
    Calls Tryz.prog 15 #[.slice a n cap, .int .i64 k] w fun e' w' => e' = .returned (.int .i64 (k + n)) ∧ w' = w := by
 go_enter Tryz.func15, Tryz.ntmps15;go_wp2;go_loop [1, 5] (fun q i => ∃ j : Nat, j ≤ n ∧ i = .int .i64 j ∧ q = .int .i64 (k + j)) (fun _ i => n - (intOf i).toNat)
 case atStart => exact ⟨0, Nat.zero_le _, rfl, by simp⟩
 case round =>
  obtain ⟨j, hj, rfl, rfl⟩ := hrel;by_cases d : j < n
  ·rcases hr with h | ⟨b, m, rfl, g⟩
   ·have := zFk k n; rw [h] at this; simp at this; omega
   have f : (j : Int) < (n : Int) := by omega
   have l := g j (by rw [zFk]; omega);rw [seqs_get k n j d] at l;clear g;go_wp2;go_round
   case rel => exact ⟨j + 1, by omega, by go_num, by go_num⟩
   case measure => simp [intOf]; omega
  ·have c : j = n := by omega
   subst c;go_wp2;go_ret
   exact ⟨rfl, rfl⟩
theorem zGs {w w' : World} {base e size g n cap B : Nat} {xs : List Value} (h : w.ownsRow base e size (.slice (some ⟨g, 0, none⟩) n cap) n xs) (hb : Below B w w') (hg : g < B) :
    w'.ownsRow base e size (.slice (some ⟨g, 0, none⟩) n cap) n xs := by
 refine ⟨h.1, ?_⟩;rcases h.2 with ⟨a, _⟩ | ⟨g', f, d, a, b, c, rest⟩
 ·simp at a
 ·simp only [Value.slice.injEq, Option.some.injEq, Addr.mk.injEq, and_true, true_and] at a;obtain ⟨rfl, rfl⟩ := a;exact .inr ⟨g, cap, d, rfl, b, by rw [hb.block g hg]; exact c, rest⟩
set_option linter.unusedVariables false
abbrev zBo := Nat → Prop
def Sub (S T : zBo) : Prop := ∀ k, S k → T k
def Dis (S T : zBo) : Prop := ∀ k, S k → T k → False
def rng (lo hi : Nat) : zBo := fun k => lo ≤ k ∧ k < hi
def Keeps (S : zBo) (w w' : World) : Prop := ∀ k, S k → k < w.heap.size → w'.heap[k]? = w.heap[k]?
theorem Sub.refl (S : zBo) : Sub S S := fun _ h => h
theorem Sub.trans {S T U : zBo} (h : Sub S T) (k : Sub T U) : Sub S U := fun i hi => k i (h i hi)
theorem Dis.symm {S T : zBo} (h : Dis S T) : Dis T S := fun k a b => h k b a
theorem Dis.sub {S T S' T' : zBo} (h : Dis S T) (a : Sub S' S) (b : Sub T' T) : Dis S' T' := fun k x y => h k (a k x) (b k y)
theorem Keeps.sub {S T : zBo} {w w' : World} (h : Keeps T w w') (s : Sub S T) : Keeps S w w' := fun k hk hl => h k (s k hk) hl
theorem zAZ {lo hi lo' hi' : Nat} (h : lo' ≤ lo) (k : hi ≤ hi') : Sub (rng lo hi) (rng lo' hi') := fun _ hi => ⟨Nat.le_trans h hi.1, Nat.lt_of_lt_of_le hi.2 k⟩
theorem zBk {lo hi lo' hi' : Nat} (h : hi ≤ lo' ∨ hi' ≤ lo) : Dis (rng lo hi) (rng lo' hi') := fun k a b => by
 have a1 := a.1;have a2 := a.2;have b1 := b.1;have b2 := b.2;omega
structure Chg (S : zBo) (w w' : World) : Prop where
 os : w'.os = w.os
 tape : w'.tape = w.tape
 output : w'.output = w.output
 size : w.heap.size ≤ w'.heap.size
 block : ∀ k, k < w.heap.size → ¬ S k → w'.heap[k]? = w.heap[k]?
theorem Chg.refl (S : zBo) (w : World) : Chg S w w := ⟨rfl, rfl, rfl, Nat.le_refl _, fun _ _ _ => rfl⟩
theorem Chg.trans {S : zBo} {a b c : World} (h : Chg S a b) (k : Chg S b c) : Chg S a c :=
 ⟨k.os.trans h.os, k.tape.trans h.tape, k.output.trans h.output, Nat.le_trans h.size k.size, fun j hj hn => (k.block j (Nat.lt_of_lt_of_le hj h.size) hn).trans (h.block j hj hn)⟩
theorem Chg.mono {S T : zBo} {a b : World} (h : Chg S a b) (s : Sub S T) : Chg T a b := ⟨h.os, h.tape, h.output, h.size, fun k hk hn => h.block k hk fun x => hn (s k x)⟩
theorem Chg.keeps {S T : zBo} {a b : World} (h : Chg S a b) (d : Dis T S) : Keeps T a b := fun k hk hl => h.block k hl fun x => d k hk x
theorem Chg.below {S : zBo} {B : Nat} {a w w' : World} (hb : Below B a w) (h : Chg S w w') (hS : ∀ k, S k → B ≤ k) (h2 : B ≤ w.heap.size) : Below B a w' :=
 hb.trans ⟨h.os, h.tape, h.output, h.size, fun k hk => h.block k (by omega) (fun x => by have := hS k x; omega)⟩
theorem zDs {S : zBo} {g : Nat} {w w' : World} (h : w.grownBy w' (some g)) (hg : S g) : Chg S w w' :=
 ⟨h.os, h.tape, h.output, h.size, fun k hk hn => h.block k hk (fun e => by cases e; exact hn hg)⟩
structure Rep (α : Type) where
 size : Nat
 tys : List TypeId
 rd : World → List Value → α → Prop
 own : World → zBo → List Value → α → Prop
 rd_len : ∀ {w : World} {cs : List Value} {a : α}, rd w cs a → cs.length = size
 rd_keep : ∀ {w w' : World} {cs : List Value} {a : α}, rd w cs a → (∀ k, k < w.heap.size → w'.heap[k]? = w.heap[k]?) → rd w' cs a
 own_rd : ∀ {w : World} {S : zBo} {cs : List Value} {a : α}, own w S cs a → rd w cs a
 own_mono : ∀ {w : World} {S T : zBo} {cs : List Value} {a : α}, own w S cs a → Sub S T → own w T cs a
 own_keep : ∀ {w w' : World} {S : zBo} {cs : List Value} {a : α}, own w S cs a → Keeps S w w' → own w' S cs a
 own_tight : ∀ {w : World} {S : zBo} {cs : List Value} {a : α}, own w S cs a → own w (fun k => S k ∧ ∃ cur t, t ∈ tys ∧ w.heap[k]? = some (.cells cur t (0, 0))) cs a
def zAN (a : Int) : Prop := -9223372036854775808 ≤ a ∧ a ≤ 9223372036854775807
def zAG : Rep Int where
 size := 1
 tys := []
 rd _ cs a := cs = [.int .i64 a] ∧ zAN a
 own _ _ cs a := cs = [.int .i64 a] ∧ zAN a
 rd_len h := by rw [h.1]; rfl
 rd_keep h _ := h
 own_rd h := h
 own_mono h _ := h
 own_keep h _ := h
 own_tight h := h
def boolR : Rep Bool where
 size := 1
 tys := []
 rd _ cs a := cs = [.bool a]
 own _ _ cs a := cs = [.bool a]
 rd_len h := by rw [h]; rfl
 rd_keep h _ := h
 own_rd h := h
 own_mono h _ := h
 own_keep h _ := h
 own_tight h := h
section
variable {α β : Type}
def zBp (R : Rep α) (Q : Rep β) : Rep (α × β) where
 size := R.size + Q.size
 tys := R.tys ++ Q.tys
 rd w cs a := ∃ c1 c2, cs = c1 ++ c2 ∧ R.rd w c1 a.1 ∧ Q.rd w c2 a.2
 own w S cs a := ∃ c1 c2 S1 S2, cs = c1 ++ c2 ∧ R.own w S1 c1 a.1 ∧ Q.own w S2 c2 a.2 ∧ Sub S1 S ∧ Sub S2 S ∧ Dis S1 S2
 rd_len := by
  rintro w cs a ⟨c1, c2, rfl, h1, h2⟩;rw [List.length_append, R.rd_len h1, Q.rd_len h2]
 rd_keep := by
  rintro w w' cs a ⟨c1, c2, rfl, h1, h2⟩ hk;exact ⟨c1, c2, rfl, R.rd_keep h1 hk, Q.rd_keep h2 hk⟩
 own_rd := by
  rintro w S cs a ⟨c1, c2, S1, S2, rfl, h1, h2, _⟩;exact ⟨c1, c2, rfl, R.own_rd h1, Q.own_rd h2⟩
 own_mono := by
  rintro w S T cs a ⟨c1, c2, S1, S2, rfl, h1, h2, a1, a2, d⟩ hs;exact ⟨c1, c2, S1, S2, rfl, h1, h2, a1.trans hs, a2.trans hs, d⟩
 own_keep := by
  rintro w w' S cs a ⟨c1, c2, S1, S2, rfl, h1, h2, a1, a2, d⟩ hk;exact ⟨c1, c2, S1, S2, rfl, R.own_keep h1 (hk.sub a1), Q.own_keep h2 (hk.sub a2), a1, a2, d⟩
 own_tight := by
  rintro w S cs a ⟨c1, c2, S1, S2, rfl, h1, h2, a1, a2, d⟩;refine ⟨c1, c2, _, _, rfl, R.own_tight h1, Q.own_tight h2, ?_, ?_, ?_⟩
  ·rintro k ⟨hk, cur, t, ht, hh⟩;exact ⟨a1 k hk, cur, t, List.mem_append.2 (.inl ht), hh⟩
  ·rintro k ⟨hk, cur, t, ht, hh⟩;exact ⟨a2 k hk, cur, t, List.mem_append.2 (.inr ht), hh⟩
  ·exact d.sub (fun k h => h.1) (fun k h => h.1)
def lrd (R : Rep α) (w : World) : List Value → List α → Prop
 | cs, [] => cs = []
 | cs, a :: r => ∃ c1 c2, cs = c1 ++ c2 ∧ R.rd w c1 a ∧ lrd R w c2 r
def zIB (R : Rep α) (w : World) : zBo → List Value → List α → Prop
 | _, cs, [] => cs = []
 | S, cs, a :: r => ∃ c1 c2 S1 S2, cs = c1 ++ c2 ∧ R.own w S1 c1 a ∧ zIB R w S2 c2 r ∧ Sub S1 S ∧ Sub S2 S ∧ Dis S1 S2
theorem zNd {R : Rep α} {w : World} : ∀ {cs : List Value} {xs : List α}, lrd R w cs xs → cs.length = xs.length * R.size
 | _, [], h => by rw [show _ = [] from h]; simp
 | _, x :: xs, ⟨c1, c2, e, h1, h2⟩ => by
  rw [e, List.length_append, R.rd_len h1, zNd h2, List.length_cons, Nat.add_one_mul];omega
theorem zHJ {R : Rep α} {w w' : World} : ∀ {cs : List Value} {xs : List α}, lrd R w cs xs → (∀ k, k < w.heap.size → w'.heap[k]? = w.heap[k]?) → lrd R w' cs xs
 | _, [], h, _ => h
 | _, x :: xs, ⟨c1, c2, e, h1, h2⟩, hk => ⟨c1, c2, e, R.rd_keep h1 hk, zHJ h2 hk⟩
theorem zHK {R : Rep α} {w : World} : ∀ {S : zBo} {cs : List Value} {xs : List α}, zIB R w S cs xs → lrd R w cs xs
 | _, _, [], h => h
 | _, _, x :: xs, ⟨c1, c2, _, _, e, h1, h2, _⟩ => ⟨c1, c2, e, R.own_rd h1, zHK h2⟩
theorem zHL {R : Rep α} {w : World} {S : zBo} {cs : List Value} {xs : List α} (h : zIB R w S cs xs) : cs.length = xs.length * R.size := zNd (zHK h)
theorem zEd {R : Rep α} {w w' : World} : ∀ {S : zBo} {cs : List Value} {xs : List α}, zIB R w S cs xs → Keeps S w w' → zIB R w' S cs xs
 | _, _, [], h, _ => h
 | _, _, x :: xs, ⟨c1, c2, S1, S2, e, h1, h2, a1, a2, d⟩, hk => ⟨c1, c2, S1, S2, e, R.own_keep h1 (hk.sub a1), zEd h2 (hk.sub a2), a1, a2, d⟩
theorem zHy {R : Rep α} {w : World} : ∀ {S : zBo} {cs : List Value} {xs : List α}, zIB R w S cs xs → zIB R w (fun k => S k ∧ ∃ cur t, t ∈ R.tys ∧ w.heap[k]? = some (.cells cur t (0, 0))) cs xs
 | _, _, [], h => h
 | _, _, x :: xs, ⟨c1, c2, S1, S2, e, h1, h2, a1, a2, d⟩ =>
  ⟨c1, c2, _, _, e, R.own_tight h1, zHy h2, fun k h => ⟨a1 k h.1, h.2⟩, fun k h => ⟨a2 k h.1, h.2⟩, d.sub (fun k h => h.1) (fun k h => h.1)⟩
theorem lrd_at {R : Rep α} {w : World} : ∀ {xs : List α} {cs : List Value} {j : Nat} {x : α}, lrd R w cs xs → xs[j]? = some x → R.rd w ((cs.drop (j * R.size)).take R.size) x
 | [], _, j, x, _, hx => by simp at hx
 | y :: ys, cs, 0, x, ⟨c1, c2, e, h1, h2⟩, hx => by
  simp at hx
  subst hx e;have a := R.rd_len h1;rw [Nat.zero_mul, List.drop_zero, List.take_append_of_le_length (by omega), List.take_of_length_le (by omega)];exact h1
 | y :: ys, cs, j + 1, x, ⟨c1, c2, e, h1, h2⟩, hx => by
  simp at hx
  subst e;have a := R.rd_len h1;have := lrd_at h2 hx;rw [Nat.add_one_mul, List.drop_append, List.drop_of_length_le (by omega), List.nil_append, show j * R.size + R.size - c1.length = j * R.size by omega];exact this
theorem zIG {R : Rep α} {w : World} {T U : zBo} {c : List Value} {x : α} : ∀ {S : zBo} {cs : List Value} {xs : List α}, zIB R w S cs xs → R.own w T c x → Dis S T → Sub S U → Sub T U → zIB R w U (cs ++ c) (xs ++ [x])
 | S, cs, [], h, ho, hd, s1, s2 => by
  rw [show cs = [] from h];exact ⟨c, [], T, fun _ => False, by simp, ho, rfl, s2, fun _ h => h.elim, fun _ _ h => h⟩
 | S, cs, y :: ys, ⟨c1, c2, S1, S2, e, h1, h2, a1, a2, d⟩, ho, hd, s1, s2 => by
  subst e;refine ⟨c1, c2 ++ c, S1, (fun k => S2 k ∨ T k), by simp, h1, ?_, a1.trans s1, ?_, ?_⟩
  ·exact zIG h2 ho (hd.sub a2 (Sub.refl _)) (fun k h => .inl h) (fun k h => .inr h)
  ·rintro k (h | h)
   ·exact s1 k (a2 k h)
   ·exact s2 k h
  ·rintro k h (a | a)
   ·exact d k h a
   ·exact hd k (a1 k h) a
theorem zHz {R : Rep α} {w : World} : ∀ {xs : List α} {S : zBo} {cs : List Value} {j : Nat} {x : α}, zIB R w S cs xs → xs[j]? = some x →
    ∃ Sj T, R.own w Sj ((cs.drop (j * R.size)).take R.size) x ∧ Sub Sj S ∧ Sub T S ∧ Dis Sj T ∧
     ∀ w' c' x' U V, Keeps T w w' → R.own w' U c' x' → Dis U T → Sub U V → Sub T V → zIB R w' V (cs.take (j * R.size) ++ (c' ++ cs.drop (j * R.size + R.size))) (xs.set j x')
 | [], S, _, j, x, _, hx => by simp at hx
 | y :: ys, S, cs, 0, x, ⟨c1, c2, S1, S2, e, h1, h2, a1, a2, d⟩, hx => by
  simp at hx
  subst hx e;have p := R.rd_len (R.own_rd h1);refine ⟨S1, S2, ?_, a1, a2, d, fun w' c' x' U V hk ho hd hs ht => ?_⟩
  ·rw [Nat.zero_mul, List.drop_zero, List.take_append_of_le_length (by omega), List.take_of_length_le (by omega)];exact h1
  ·rw [Nat.zero_mul, List.take_zero, List.nil_append, Nat.zero_add, List.drop_append, List.drop_of_length_le (by omega), List.nil_append, show R.size - c1.length = 0 by omega, List.drop_zero];exact ⟨c', c2, U, S2, rfl, ho, zEd h2 hk, hs, ht, hd⟩
 | y :: ys, S, cs, j + 1, x, ⟨c1, c2, S1, S2, e, h1, h2, a1, a2, d⟩, hx => by
  simp at hx
  subst e;have p := R.rd_len (R.own_rd h1);obtain ⟨Sj, T, o, g, i, n, m⟩ := zHz h2 hx;have b : (j + 1) * R.size = c1.length + j * R.size := by rw [Nat.add_one_mul]; omega
  refine ⟨Sj, (fun k => S1 k ∨ T k), ?_, g.trans a2, ?_, ?_, fun w' c' x' U V hk ho hd hs ht => ?_⟩
  ·rw [b, List.drop_append, List.drop_of_length_le (by omega), List.nil_append, show c1.length + j * R.size - c1.length = j * R.size by omega];exact o
  ·rintro k (h | h)
   ·exact a1 k h
   ·exact a2 k (i k h)
  ·rintro k h (a | a)
   ·exact d k a (g k h)
   ·exact n k h a
  ·have f : Keeps S1 w w' := hk.sub fun k h => .inl h;have c : Keeps T w w' := hk.sub fun k h => .inr h;have l : Dis U S1 := hd.sub (Sub.refl _) fun k h => .inl h;have r := m w' c' x' U (fun k => U k ∨ T k) c ho (hd.sub (Sub.refl _) fun k h => .inr h) (fun k h => .inl h) (fun k h => .inr h)
   rw [b, List.take_append, List.take_of_length_le (by omega), show c1.length + j * R.size - c1.length = j * R.size by omega,
    show c1.length + j * R.size + R.size = c1.length + (j * R.size + R.size) by omega, List.drop_append, List.drop_of_length_le (by omega), List.nil_append,
    show c1.length + (j * R.size + R.size) - c1.length = j * R.size + R.size by omega, List.append_assoc, List.set_cons_succ]
   refine ⟨c1, _, S1, _, rfl, R.own_keep h1 f, r, fun k h => ht k (.inl h), ?_, ?_⟩
   ·rintro k (h | h)
    ·exact hs k h
    ·exact ht k (.inr h)
   ·rintro k h (a | a)
    ·exact l k a h
    ·exact d k h (i k a)
end
section
variable {α β : Type}
theorem zIH {w : World} {base size n g : Nat} {e : TypeId} {v : Value} {xs : List Value} (h : w.ownsRow base e size v n xs) (hg : v.ownBlock = some g) : ∃ a, w.heap[g]? = some (.cells a e (0, 0)) := by
 rcases h.2 with ⟨rfl, _⟩ | ⟨g', c, a, rfl, _, b, _⟩
 ·simp [Value.ownBlock] at hg
 ·simp [Value.ownBlock] at hg
  subst hg;exact ⟨a, b⟩
theorem zII {w w' : World} {base size n : Nat} {e : TypeId} {v : Value} {xs : List Value} (h : w.ownsRow base e size v n xs) (hk : ∀ g, v.ownBlock = some g → w'.heap[g]? = w.heap[g]?) : w'.ownsRow base e size v n xs := by
 refine ⟨h.1, ?_⟩;rcases h.2 with f | ⟨g, b, a, rfl, c, d, rest⟩
 ·exact .inl f
 ·exact .inr ⟨g, b, a, rfl, c, by rw [hk g rfl]; exact d, rest⟩
theorem zKW {w : World} {base base' size n : Nat} {e : TypeId} {v : Value} {xs : List Value} (h : w.ownsRow base e size v n xs) (hb : ∀ g, v.ownBlock = some g → base' ≤ g) : w.ownsRow base' e size v n xs := by
 refine ⟨h.1, ?_⟩;rcases h.2 with c | ⟨g, b, a, rfl, _, rest⟩
 ·exact .inl c
 ·exact .inr ⟨g, b, a, rfl, hb g rfl, rest⟩
def zA4 (R : Rep α) (w : World) (a : Option Addr) (xs : List α) : Prop :=
 xs = [] ∨ ∃ b off rows, a = some ⟨b, off, none⟩ ∧ lrd R w rows xs ∧ ∀ j u, rows[j]? = some u → w.cell? ⟨b, off + j, none⟩ = some u
def slR (e : TypeId) (R : Rep α) : Rep (List α) where
 size := 1
 tys := e :: R.tys
 rd w cs xs := ∃ a cap, cs = [.slice a xs.length cap] ∧ xs.length ≤ cap ∧ cap ≤ maxLen ∧ zA4 R w a xs
 own w S cs xs := ∃ v rows S', cs = [v] ∧ w.ownsRow 0 e R.size v xs.length rows ∧ (∀ g, v.ownBlock = some g → S g ∧ ¬ S' g) ∧ Sub S' S ∧ zIB R w S' rows xs
 rd_len := by
  rintro w cs xs ⟨a, cap, rfl, _⟩;rfl
 rd_keep := by
  rintro w w' cs xs ⟨a, cap, rfl, h1, h2, h3⟩ hk;refine ⟨a, cap, rfl, h1, h2, ?_⟩;rcases h3 with h3 | ⟨b, off, rows, rfl, h4, h5⟩
  ·exact .inl h3
  ·refine .inr ⟨b, off, rows, rfl, zHJ h4 hk, fun j u hu => ?_⟩;have := h5 j u hu;have hl := World.block_lt_of_cell? w ⟨b, off + j, none⟩ this;rw [World.cell?_of_block (w := w) (hk b hl)];exact this
 own_rd := by
  rintro w S cs xs ⟨v, rows, S', rfl, hr, _, _, hl⟩;rcases hr.2 with ⟨rfl, h0⟩ | ⟨g, cap, cur, rfl, hb, hh, hc, hm, hs, ht⟩
  ·have : xs = [] := List.eq_nil_of_length_eq_zero h0;subst this;exact ⟨none, 0, rfl, Nat.le_refl _, Nat.zero_le _, .inl rfl⟩
  ·refine ⟨_, cap, rfl, hc, hm, .inr ⟨g, 0, rows, rfl, zHK hl, fun j u hu => ?_⟩⟩;have hj : j < rows.length := (List.getElem?_eq_some_iff.1 hu).1;rw [Nat.zero_add, World.ownsRow.cellAt hr j (by have := hr.1; omega)];exact hu
 own_mono := by
  rintro w S T cs xs ⟨v, rows, S', rfl, hr, hg, hs, hl⟩ hst;exact ⟨v, rows, S', rfl, hr, fun g h => ⟨hst g (hg g h).1, (hg g h).2⟩, hs.trans hst, hl⟩
 own_keep := by
  rintro w w' S cs xs ⟨v, rows, S', rfl, hr, hg, hs, hl⟩ hk;refine ⟨v, rows, S', rfl, zII hr fun g h => ?_, hg, hs, zEd hl (hk.sub hs)⟩;obtain ⟨cur, hh⟩ := zIH hr h;exact hk g (hg g h).1 (ltH hh)
 own_tight := by
  rintro w S cs xs ⟨v, rows, S', rfl, hr, hg, hs, hl⟩;refine ⟨v, rows, _, rfl, hr, fun g h => ?_, ?_, zHy hl⟩
  ·obtain ⟨cur, hh⟩ := zIH hr h;exact ⟨⟨(hg g h).1, cur, e, by simp, hh⟩, fun h' => (hg g h).2 h'.1⟩
  ·rintro k ⟨hk, cur, t, ht, hh⟩;exact ⟨hs k hk, cur, t, List.mem_cons_of_mem _ ht, hh⟩
theorem zAy {R : Rep α} {w : World} {a : Option Addr} {xs : List α} {j : Nat} {x : α} (h : zA4 R w a xs) (hx : xs[j]? = some x) :
    ∃ b d c, a = some ⟨b, d, none⟩ ∧ R.rd w c x ∧ ∀ i u, c[i]? = some u → w.cell? ⟨b, d + (j * R.size + i), none⟩ = some u := by
 rcases h with rfl | ⟨b, d, f, rfl, k, g⟩
 ·simp at hx
 ·refine ⟨b, d, _, rfl, lrd_at k hx, fun i u hu => ?_⟩;refine g (j * R.size + i) u ?_;rw [List.getElem?_take] at hu;split at hu
  ·rw [List.getElem?_drop] at hu;exact hu
  ·cases hu
theorem zAq {R : Rep α} {w w' : World} {a : Option Addr} {xs : List α} (h : zA4 R w a xs) (hk : ∀ k, k < w.heap.size → w'.heap[k]? = w.heap[k]?) : zA4 R w' a xs := by
 rcases h with f | ⟨b, c, d, rfl, l, g⟩
 ·exact .inl f
 ·refine .inr ⟨b, c, d, rfl, zHJ l hk, fun j u hu => ?_⟩;have := g j u hu;have i := World.block_lt_of_cell? w ⟨b, c + j, none⟩ this;rw [World.cell?_of_block (w := w) (hk b i)];exact this
theorem zCl {e : TypeId} {R : Rep α} {w : World} {S : zBo} {v : Value} {xs : List α} {j : Nat} {x : α} (h : (slR e R).own w S [v] xs) (hx : xs[j]? = some x) :
    ∃ g f b Sj T c, v = .slice (some ⟨g, 0, none⟩) xs.length f ∧ S g ∧ w.heap[g]? = some (.cells b e (0, 0)) ∧ (∀ i, i < R.size → b[j * R.size + i]? = c[i]?) ∧ c.length = R.size ∧ R.own w Sj c x ∧
     Sub Sj S ∧ Sub T S ∧ Dis Sj T ∧ ¬ Sj g ∧ ¬ T g ∧
     ∀ r a s A U V, r.heap[g]? = some (.cells a e (0, 0)) → a.size = b.size → (∀ i, ¬ (j * R.size ≤ i ∧ i < j * R.size + R.size) → a[i]? = b[i]?) → (∀ i, i < R.size → a[j * R.size + i]? = s[i]?) →
      Keeps T w r → R.own r U s A → Dis U T → ¬ U g → V g → Sub U V → Sub T V → (slR e R).own r V [v] (xs.set j A) := by
 obtain ⟨v', d, S', M, hr, Y, L, O⟩ := h;simp only [List.cons.injEq, and_true] at M;subst M;have hj : j < xs.length := (List.getElem?_eq_some_iff.1 hx).1;obtain ⟨Sj, T, o, J, B, b3, b4⟩ := zHz O hx;have iA := zHL O;rcases hr.2 with ⟨rfl, h0⟩ | ⟨g, f, b, rfl, hb, hh, K, hm, kA, ht⟩
 ·omega
 have n := Y g rfl;have aA : j * R.size + R.size ≤ xs.length * R.size := by
  have : (j + 1) * R.size ≤ xs.length * R.size := Nat.mul_le_mul_right _ hj;rw [Nat.add_one_mul] at this;exact this
 have X : xs.length * R.size ≤ f * R.size := Nat.mul_le_mul_right _ K;have l : ∀ i, i < xs.length * R.size → b[i]? = d[i]? := by
  intro i p;rw [← ht, List.getElem?_take, if_pos p, Array.getElem?_toList]
 refine ⟨g, f, b, Sj, T, _, rfl, n.1, hh, ?_, ?_, o, J.trans L, B.trans L, b3, fun h => n.2 (J g h), fun h => n.2 (B g h), ?_⟩
 ·intro i p;rw [List.getElem?_take, if_pos p, List.getElem?_drop, l _ (by omega)]
 ·exact R.rd_len (R.own_rd o)
 ·intro r a s A U V E N q C I z hd D G F H;have m : s.length = R.size := R.rd_len (R.own_rd z);refine ⟨_, d.take (j * R.size) ++ (s ++ d.drop (j * R.size + R.size)), (fun k => U k ∨ T k), rfl, ⟨?_, .inr ⟨g, f, a, by rw [List.length_set], Nat.zero_le _, E, by rw [List.length_set]; exact K, hm, by omega, ?_⟩⟩, ?_, ?_, ?_⟩
  ·simp only [List.length_append, List.length_take, List.length_drop, List.length_set, m];omega
  ·rw [List.length_set];apply List.ext_getElem?
   intro i;rw [List.getElem?_take];by_cases p : i < xs.length * R.size
   ·rw [if_pos p, Array.getElem?_toList];by_cases Z : i < j * R.size
    ·rw [List.getElem?_append_left (by simp; omega), List.getElem?_take, if_pos Z, q i (by omega), l i p]
    ·rw [List.getElem?_append_right (by simp; omega)];have e1 : (d.take (j * R.size)).length = j * R.size := by simp; omega
     rw [e1];by_cases h2 : i < j * R.size + R.size
     ·rw [List.getElem?_append_left (by omega), ← C (i - j * R.size) (by omega), show j * R.size + (i - j * R.size) = i by omega]
     ·rw [List.getElem?_append_right (by omega), List.getElem?_drop, m, show j * R.size + R.size + (i - j * R.size - R.size) = i by omega, q i (by omega), l i p]
   ·rw [if_neg p, List.getElem?_eq_none];simp only [List.length_append, List.length_take, List.length_drop, m];omega
  ·rintro g' y;simp [Value.ownBlock] at y
   subst y;refine ⟨G, ?_⟩;rintro (h | h)
   ·exact D h
   ·exact n.2 (B _ h)
  ·rintro k (h | h)
   ·exact F k h
   ·exact H k h
  ·exact b4 r s A U _ I z hd (fun k h => .inl h) (fun k h => .inr h)
end
section
variable {α β : Type}
def zC2 (P : Program) (t : TypeId) (R : Rep α) : Prop :=
 ∀ (H : Type) (enc : TypeId × Value → H) (w : World) (base : Nat) (spare : Nat → Bool) (held : Bool) (fuel : Nat) (cs : List Value) (x : DataW H × List MemPlace), DataW.trod enc P w base spare held fuel t cs = some x → ∃ a, R.rd w cs a
def zKX (P : Program) (off : Nat) (fs : List Field) (R : Rep α) : Prop :=
 ∀ (H : Type) (enc : TypeId × Value → H) (w : World) (base : Nat) (spare : Nat → Bool) (held : Bool) (n : Nat) (cs : List Value), cs.length = off + R.size →
  (∀ f ∈ fs, ∃ x, DataW.trod enc P w base spare held n f.type ((cs.drop f.offset).take (P.cellsOf f.type)) = some x) → ∃ a, R.rd w (cs.drop off) a
theorem zNe {P : Program} {t : TypeId} (ht : P.underlying t = some (.int .i64)) : zC2 P t zAG := by
 intro H g w c a f b cs x h;obtain ⟨n, rfl, _, d⟩ := DataW.trod_int ht h;refine ⟨n, rfl, ?_⟩;simp only [Lit.wf, Bool.and_eq_true, decide_eq_true_eq] at d;exact d
theorem zF3 {P : Program} {t : TypeId} (ht : P.underlying t = some .bool) : zC2 P t boolR := by
 intro H g w d a f c cs x h;obtain ⟨b, rfl, _⟩ := DataW.trod_bool ht h;exact ⟨b, rfl⟩
theorem zBC {P : Program} {off : Nat} {f : Field} {R : Rep α} (hf : f.offset = off) (hc : P.cellsOf f.type = R.size) (h : zC2 P f.type R) : zKX P off [f] R := by
 intro H g w b a c n cs hl d;obtain ⟨x, d⟩ := d f (by simp);rw [hf, hc, List.take_of_length_le (by simp; omega)] at d;exact h H g w b a c n _ x d
theorem zAu {P : Program} {off : Nat} {f : Field} {fs : List Field} {R : Rep α} {Q : Rep β} (hf : f.offset = off) (hc : P.cellsOf f.type = R.size) (h : zC2 P f.type R) (hr : zKX P (off + R.size) fs Q) : zKX P off (f :: fs) (zBp R Q) := by
 intro H j w d c i n m q k;have p : m.length = off + (R.size + Q.size) := q;obtain ⟨x, l⟩ := k f (by simp);rw [hf, hc] at l;obtain ⟨a, r⟩ := h H j w d c i n _ x l;obtain ⟨b, o⟩ := hr H j w d c i n m (by omega) (fun g hg => k g (by simp [hg]));refine ⟨(a, b), _, _, ?_, r, o⟩;rw [← List.drop_drop, List.take_append_drop]
theorem zBf {P : Program} {t : TypeId} {fs : Array Field} {R : Rep α} (ht : P.underlying t = some (.struct fs)) (hc : P.cellsOf t = R.size) (h : zKX P 0 fs.toList R) : zC2 P t R := by
 intro H g w b a c j l x o;obtain ⟨q, n, _, _, hl, m, p⟩ := DataW.trod_struct ht o
 have := h H g w b a c n l (by omega) (fun f hf' => by
  obtain ⟨i, k, rfl⟩ := List.getElem_of_mem hf';have d : i < fs.size := by simpa using k
  refine ⟨q[i]'(by omega), ?_⟩
  rw [p i _ (by simp [d]), List.getElem?_eq_getElem (by omega)])
 simpa using this
theorem zKY {R : Rep α} {w : World} {b off : Nat} : ∀ (n k : Nat), (∀ i, k ≤ i → i < k + n → ∃ c x, R.rd w c x ∧ ∀ r u, c[r]? = some u → w.cell? ⟨b, off + (i * R.size + r), none⟩ = some u) →
    ∃ (a : List Value) (d : List α), d.length = n ∧ lrd R w a d ∧ ∀ j u, a[j]? = some u → w.cell? ⟨b, off + (k * R.size + j), none⟩ = some u
 | 0, k, _ => ⟨[], [], rfl, rfl, by simp⟩
 | n + 1, k, h => by
  obtain ⟨c, x, f, p⟩ := h k (Nat.le_refl _) (by omega);obtain ⟨a, d, g, o, l⟩ := zKY n (k + 1) (fun i h3 h4 => h i (by omega) (by omega));have m := R.rd_len f;refine ⟨c ++ a, x :: d, by simp [g], ⟨c, a, rfl, f, o⟩, fun j u hu => ?_⟩;by_cases hj : j < R.size
  ·rw [List.getElem?_append_left (by omega)] at hu;exact p j u hu
  ·rw [List.getElem?_append_right (by omega)] at hu;have := l _ u hu;rw [m, Nat.add_one_mul, show k * R.size + R.size + (j - R.size) = k * R.size + j by omega] at this;exact this
theorem add_add (a : Addr) (m r : Nat) : (a.add m).add r = a.add (m + r) := by
 unfold Addr.add;by_cases c : m = 0
 ·subst c;simp
 ·by_cases b : r = 0
  ·subst b;simp
  ·simp [c, b, Nat.add_assoc]
theorem zBI {P : Program} {t e e' : TypeId} {R : Rep α} (ht : P.underlying t = some (.slice e)) (hc : P.cellsOf e = R.size) (hpos : 0 < R.size) (h : zC2 P e R) : zC2 P t (slR e' R) := by
 intro H C w p o v F cs x I;rcases DataW.trod_slice ht I with ⟨rfl, _⟩ | ⟨a, m, q, B, rest, n, _, rfl, _, hb, hl, G, N, l, _⟩
 ·exact ⟨[], none, 0, rfl, Nat.le_refl _, Nat.zero_le _, .inl rfl⟩
 by_cases K : m = 0
 ·subst K;exact ⟨[], some a, q, rfl, Nat.zero_le _, G, .inl rfl⟩
 have f : ∀ i, i < m → ∃ c y, R.rd w c y ∧ ∀ r u, c[r]? = some u → w.cell? (a.add (i * R.size + r)) = some u := by
  intro i D;have E := l i D;rw [List.getElem?_eq_getElem (by omega), Option.bind_eq_some_iff] at E;obtain ⟨c, s, J⟩ := E;obtain ⟨y, z⟩ := h H C w p o v n c _ J;refine ⟨c, y, z, fun r u g => ?_⟩;unfold World.cells? at s;split at s
  ·have L : r < P.cellsOf e := by
     have := mapM_some_length s;have h4 := (List.getElem?_eq_some_iff.1 g).1;simp at this
     omega
   have := mapM_some_get s r r (by simp [L]);rw [g, hc, add_add] at this;exact this
  ·cases s
 have d : a.spot = none := by
  obtain ⟨c, y, z, k⟩ := f 0 (by omega);have O := R.rd_len z;obtain ⟨u, g⟩ : ∃ u, c[0]? = some u := ⟨_, List.getElem?_eq_getElem (by omega)⟩;have := World.cell?_spot (k 0 u g);simpa [Addr.add] using this
 obtain ⟨b, off, spot⟩ := a;simp at d
 subst d
 obtain ⟨A, S, T, M, U⟩ := zKY (R := R) (w := w) (b := b) (off := off) m 0 (fun i _ D => by
  obtain ⟨c, y, z, k⟩ := f i (by omega)
  exact ⟨c, y, z, fun r u g => by have := k r u g; rwa [Go.WideShapes.add_plain] at this⟩)
 refine ⟨S, some ⟨b, off, none⟩, q, by rw [T], by omega, G, .inr ⟨b, off, A, rfl, M, fun j u g => ?_⟩⟩;simpa using U j u g
theorem open_rep {H : Type} {enc : TypeId × Value → H} {P : Program} {w : World} {base : Nat} {spare : Nat → Bool} {held : Bool} {t : TypeId} {v : Value} {d : DataW H} {p : List MemPlace} {R : Rep α} (ho : zC2 P t R)
    (h : DataW.Trod enc P w base spare held t v d p) : ∃ a, R.rd w v.cells.toList a := by
 obtain ⟨b, c⟩ := h;exact ho H enc w base spare held b _ _ c
theorem open_struct {H : Type} {enc : TypeId × Value → H} {P : Program} {w : World} {base b0 : Nat} {spare : Nat → Bool} {held : Bool} {r : Reach} {t : TypeId} {fs : Array Field} {v : Value} {d : DataW H} {p : List MemPlace} {R : Rep α}
    (hs : P.underlying t = some (.struct fs)) (ho : zC2 P t R) (hv : Value.okWide P w r b0 t v) (h : DataW.Trod enc P w base spare held t v d p) : ∃ b a, v = .agg b ∧ R.rd w b.toList a := by
 obtain ⟨a, c⟩ := open_rep ho h;unfold Value.okWide at hv;rw [hs] at hv;obtain ⟨b, rfl, _⟩ := hv;exact ⟨b, a, rfl, by simpa [Value.cells] using c⟩
abbrev RepOf {α : Type} (R : Rep α) : Type := α
end
section
variable {α β : Type}
def zAI (R : Rep α) (w w' : World) (cs : List Value) (a : α) : Prop := R.own w' (rng w.heap.size w'.heap.size) cs a ∧ Below w.heap.size w w'
theorem zLN {w w1 w2 : World} (h : Below w.heap.size w w1) (h2 : Below w1.heap.size w1 w2) : Below w.heap.size w w2 := h.trans (h2.mono h.size)
theorem own_next {R : Rep α} {lo : Nat} {w w1 : World} {cs : List Value} {a : α} (h : R.own w (rng lo w.heap.size) cs a) (hb : Below w.heap.size w w1) : R.own w1 (rng lo w.heap.size) cs a :=
 R.own_keep h fun k hk _ => hb.block k hk.2
theorem zAS {R : Rep α} {lo hi D : Nat} {w w1 : World} {cs : List Value} {a : α} (h : R.own w (rng lo hi) cs a) (hb : Below D w w1) (hD : hi ≤ D) : R.own w1 (rng lo hi) cs a :=
 R.own_keep h fun k hk _ => hb.block k (Nat.lt_of_lt_of_le hk.2 hD)
theorem zAC {R : Rep α} {S T : zBo} {w w1 : World} {cs : List Value} {a : α} (h : R.own w S cs a) (hb : Chg T w w1) (hd : Dis S T) : R.own w1 S cs a := R.own_keep h (hb.keeps hd)
theorem zAr {R : Rep α} {w w1 : World} {cs : List Value} {a : α} (h : R.rd w cs a) (hb : Below w.heap.size w w1) : R.rd w1 cs a := R.rd_keep h fun k hk => hb.block k hk
theorem zAm {R : Rep α} {w w1 : World} {a : Option Addr} {xs : List α} (h : zA4 R w a xs) (hb : Below w.heap.size w w1) : zA4 R w1 a xs := zAq h fun k hk => hb.block k hk
def putC (w : World) (g : Nat) : Nat → List Value → World
 | _, [] => w
 | off, c :: cs => putC (w.setCell ⟨g, off, none⟩ c) g (off + 1) cs
theorem zHM (xs : List Value) (off : Nat) (c : Value) (h : off < xs.length) : xs.set off c = xs.take off ++ (c :: xs.drop (off + 1)) := by
 rw [List.set_eq_take_append_cons_drop, if_pos h]
theorem zKZ {base e size g n cap : Nat} : ∀ {cs : List Value} {w : World} {off : Nat} {xs : List Value}, w.ownsRow base e size (.slice (some ⟨g, 0, none⟩) n cap) n xs → off + cs.length ≤ n * size →
    (putC w g off cs).ownsRow base e size (.slice (some ⟨g, 0, none⟩) n cap) n (xs.take off ++ (cs ++ xs.drop (off + cs.length))) ∧ w.grownBy (putC w g off cs) (some g)
 | [], w, off, xs, h, hl => by
  simp only [putC, List.nil_append, List.length_nil, Nat.add_zero, List.take_append_drop];exact ⟨h, World.grownBy.refl _ _⟩
 | c :: cs, w, off, xs, h, hl => by
  simp only [List.length_cons] at hl;have d : off < xs.length := by have := h.1; omega
  have R := World.ownsRow.stored h off c;have r := zKZ (cs := cs) (off := off + 1) R.1 (by omega);refine ⟨?_, zEL R.2 r.2⟩;have b : (xs.set off c).take (off + 1) ++ (cs ++ (xs.set off c).drop (off + 1 + cs.length)) = xs.take off ++ (c :: cs ++ xs.drop (off + (c :: cs).length)) := by
   rw [zHM xs off c d];have a : (xs.take off).length = off := by simp; omega
   rw [List.take_append, List.take_of_length_le (by omega), a, show off + 1 - off = 1 by omega, List.take_succ_cons, List.take_zero, List.drop_append, List.drop_of_length_le (by omega), List.nil_append, a,
    show off + 1 + cs.length - off = cs.length + 1 by omega, List.drop_succ_cons, List.drop_drop]
   simp only [List.length_cons, List.append_assoc, List.cons_append, List.nil_append];rw [show off + 1 + cs.length = off + (cs.length + 1) by omega]
  rw [← b];exact r.1
def zLa (e : TypeId) (R : Rep α) (w0 w : World) (n : Nat) (xs : List α) : Prop :=
 ∃ rows rest, w.ownsRow 0 e R.size (.slice (some ⟨w0.heap.size, 0, none⟩) n n) n (rows ++ rest) ∧ zIB R w (rng (w0.heap.size + 1) w.heap.size) rows xs ∧ Below w0.heap.size w0 w ∧ w0.heap.size < w.heap.size
theorem zBV {e : TypeId} {R : Rep α} {w0 : World} {n : Nat} {cs : Array Value} (hm : n ≤ maxLen) (hs : cs.size = n * R.size) : zLa e R w0 (w0.alloc (.cells cs e)) n [] :=
 ⟨[], cs.toList, by simpa using World.ownsRow_lit (base := 0) (e := e) (size := R.size) w0 cs n (Nat.zero_le _) hm hs, rfl, (Below.refl _ _).alloc (Nat.le_refl _) _, by simp⟩
theorem zCt {e : TypeId} {R : Rep α} {w0 w w1 : World} {n k : Nat} {xs : List α} {c : List Value} {x : α} (h : zLa e R w0 w n xs) (hk : xs.length = k) (hkn : k < n) (hm : zAI R w w1 c x) :
    (∀ i, i < R.size → ∃ u, w1.cell? ⟨w0.heap.size, k * R.size + i, none⟩ = some u) ∧ (∀ i, w1.frozen? ⟨w0.heap.size, i, none⟩ = false) ∧ zLa e R w0 (putC w1 w0.heap.size (k * R.size) c) n (xs ++ [x]) := by
 obtain ⟨a, rest, y, s, v, m⟩ := h;have hc := R.rd_len (R.own_rd hm.1);have o := zHL s;rw [hk] at o;have B : k * R.size + R.size ≤ n * R.size := by
  have : (k + 1) * R.size ≤ n * R.size := Nat.mul_le_mul_right _ hkn;rwa [Nat.add_one_mul] at this
 have d : w1.ownsRow 0 e R.size (.slice (some ⟨w0.heap.size, 0, none⟩) n n) n (a ++ rest) := zII y fun g hg => by
  simp [Value.ownBlock] at hg
  subst hg;exact hm.2.block _ m
 have p : zIB R w1 (rng (w0.heap.size + 1) w.heap.size) a xs := zEd s fun j hj _ => hm.2.block j hj.2;obtain ⟨q, f⟩ := zKZ (cs := c) (off := k * R.size) d (by omega);have r := d.1;have l := hm.2.size;refine ⟨fun i hi => ?_, fun i => World.ownsRow.frozenAt d i, a ++ c, (a ++ rest).drop (k * R.size + c.length), ?_, ?_, ?_, ?_⟩
 ·rw [World.ownsRow.cellAt d _ (by omega)];exact ⟨_, List.getElem?_eq_getElem (by omega)⟩
 ·rw [List.append_assoc];rw [List.take_append_of_le_length (by omega), List.take_of_length_le (by omega)] at q;exact q
 ·have b : ∀ j, j ≠ w0.heap.size → j < w1.heap.size → (putC w1 w0.heap.size (k * R.size) c).heap[j]? = w1.heap[j]? := fun j hj hlj => f.block j hlj (fun e => hj (by simpa using e));have z : R.own (putC w1 w0.heap.size (k * R.size) c) (rng w.heap.size w1.heap.size) c x := R.own_keep hm.1 fun j hj hlj => b j (by have := hj.1; omega) hlj;have A : zIB R (putC w1 w0.heap.size (k * R.size) c) (rng (w0.heap.size + 1) w.heap.size) a xs := zEd p fun j hj hlj => b j (by have := hj.1; omega) hlj;exact zIG A z (zBk (.inl (Nat.le_refl _))) (zAZ (Nat.le_refl _) (Nat.le_trans l f.size)) (zAZ (by omega) f.size)
 ·exact (zLN v hm.2).grown f (by omega) (fun j hj => by cases hj; exact Nat.le_refl _)
 ·have := f.size;omega
theorem zCD {e : TypeId} {R : Rep α} {w0 w : World} {n : Nat} {xs : List α} (h : zLa e R w0 w n xs) (hn : xs.length = n) : zAI (slR e R) w0 w [.slice (some ⟨w0.heap.size, 0, none⟩) xs.length n] xs := by
 obtain ⟨b, rest, c, i, j, d⟩ := h;have f := zHL i;have a := c.1;have : rest = [] := by
  rw [hn] at f;rw [List.length_append] at a;exact List.eq_nil_of_length_eq_zero (by omega)
 subst this;rw [List.append_nil] at c;refine ⟨⟨_, b, rng (w0.heap.size + 1) w.heap.size, rfl, by rw [hn]; exact c, fun g hg => ?_, zAZ (by omega) (Nat.le_refl _), i⟩, j⟩;simp [Value.ownBlock] at hg
 subst hg;exact ⟨⟨Nat.le_refl _, d⟩, fun h => by have := h.1; omega⟩
end
end Go.Proofs.YtcocbafhcpdheaaGreatDoor
