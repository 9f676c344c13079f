import Derived.Test.YtmaopldahnejdaaGreatDoorH00Box
import Derived.Below
import Derived.Laws.OwnMore
import Derived.ChangeArms
import Derived.Test.YtmaopldahnejdaaGreatDoorH01
namespace Go.Proofs.YtmaopldahnejdaaGreatDoor
open Go.ChangeShapes Go.WideShapes Go.ChangeAt Go.RowKit
set_option linter.unusedVariables false
abbrev Foot := Nat → Prop
def Sub (S T : Foot) : Prop := ∀ k, S k → T k
def Dis (S T : Foot) : Prop := ∀ k, S k → T k → False
def rng (lo hi : Nat) : Foot := fun k => lo ≤ k ∧ k < hi
def Keeps (S : Foot) (w w' : World) : Prop := ∀ k, S k → k < w.heap.size → w'.heap[k]? = w.heap[k]?
theorem Sub.refl (S : Foot) : Sub S S := fun _ h => h
theorem Sub.trans {S T U : Foot} (h : Sub S T) (k : Sub T U) : Sub S U := fun i hi => k i (h i hi)
theorem Dis.symm {S T : Foot} (h : Dis S T) : Dis T S := fun k a b => h k b a
theorem Dis.sub {S T S' T' : Foot} (h : Dis S T) (a : Sub S' S) (b : Sub T' T) : Dis S' T' := fun k x y => h k (a k x) (b k y)
theorem Keeps.sub {S T : Foot} {w w' : World} (h : Keeps T w w') (s : Sub S T) : Keeps S w w' := fun k hk hl => h k (s k hk) hl
theorem rng_sub {lo hi lo' hi' : Nat} (h : lo' ≤ lo) (k : hi ≤ hi') : Sub (rng lo hi) (rng lo' hi') := fun _ hi => ⟨Nat.le_trans h hi.1, Nat.lt_of_lt_of_le hi.2 k⟩
theorem rng_dis {lo hi lo' hi' : Nat} (h : hi ≤ lo' ∨ hi' ≤ lo) : Dis (rng lo hi) (rng lo' hi') := fun k a b => by
 have a1 := a.1;have a2 := a.2;have b1 := b.1;have b2 := b.2;omega
structure Chg (S : Foot) (w w' : World) : Prop where
 os : w'.os = w.os
 tape : w'.tape = w.tape
 output : w'.output = w.output
 size : w.heap.size ≤ w'.heap.size
 block : ∀ k, k < w.heap.size → ¬ S k → w'.heap[k]? = w.heap[k]?
theorem Chg.refl (S : Foot) (w : World) : Chg S w w := ⟨rfl, rfl, rfl, Nat.le_refl _, fun _ _ _ => rfl⟩
theorem Chg.trans {S : Foot} {a b c : World} (h : Chg S a b) (k : Chg S b c) : Chg S a c :=
 ⟨k.os.trans h.os, k.tape.trans h.tape, k.output.trans h.output, Nat.le_trans h.size k.size, fun j hj hn => (k.block j (Nat.lt_of_lt_of_le hj h.size) hn).trans (h.block j hj hn)⟩
theorem Chg.mono {S T : Foot} {a b : World} (h : Chg S a b) (s : Sub S T) : Chg T a b := ⟨h.os, h.tape, h.output, h.size, fun k hk hn => h.block k hk fun x => hn (s k x)⟩
theorem Chg.keeps {S T : Foot} {a b : World} (h : Chg S a b) (d : Dis T S) : Keeps T a b := fun k hk hl => h.block k hl fun x => d k hk x
theorem Chg.below {S : Foot} {B : Nat} {a w w' : World} (hb : Below B a w) (h : Chg S w w') (hS : ∀ k, S k → B ≤ k) (h2 : B ≤ w.heap.size) : Below B a w' :=
 hb.trans ⟨h.os, h.tape, h.output, h.size, fun k hk => h.block k (by omega) (fun x => by have := hS k x; omega)⟩
theorem chg_grown {S : Foot} {g : Nat} {w w' : World} (h : w.grownBy w' (some g)) (hg : S g) : Chg S w w' :=
 ⟨h.os, h.tape, h.output, h.size, fun k hk hn => h.block k hk (fun e => by cases e; exact hn hg)⟩
theorem chg_below {S : Foot} {w w' : World} (h : Bl w w') : Chg S w w' := ⟨h.os, h.tape, h.output, h.size, fun k hk _ => h.block k hk⟩
theorem keeps_below {S : Foot} {w w' : World} (h : Bl w w') : Keeps S w w' := fun k _ hl => h.block k hl
theorem keeps_below_of {S : Foot} {D : Nat} {w w' : World} (h : Below D w w') (hS : ∀ k, S k → k < D) : Keeps S w w' := fun k hk _ => h.block k (hS k hk)
structure Rep (α : Type) where
 size : Nat
 tys : List TypeId
 rd : World → List Value → α → Prop
 own : World → Foot → List Value → α → Prop
 rd_len : ∀ {w : World} {cs : List Value} {a : α}, rd w cs a → cs.length = size
 rd_keep : ∀ {w w' : World} {cs : List Value} {a : α}, rd w cs a → (∀ k, k < w.heap.size → w'.heap[k]? = w.heap[k]?) → rd w' cs a
 own_rd : ∀ {w : World} {S : Foot} {cs : List Value} {a : α}, own w S cs a → rd w cs a
 own_mono : ∀ {w : World} {S T : Foot} {cs : List Value} {a : α}, own w S cs a → Sub S T → own w T cs a
 own_keep : ∀ {w w' : World} {S : Foot} {cs : List Value} {a : α}, own w S cs a → Keeps S w w' → own w' S cs a
 own_tight : ∀ {w : World} {S : Foot} {cs : List Value} {a : α}, own w S cs a → own w (fun k => S k ∧ ∃ cur t, t ∈ tys ∧ w.heap[k]? = some (.cells cur t (0, 0))) cs a
def In64 (a : Int) : Prop := -9223372036854775808 ≤ a ∧ a ≤ 9223372036854775807
def intR : Rep Int where
 size := 1
 tys := []
 rd _ cs a := cs = [.int .i64 a] ∧ In64 a
 own _ _ cs a := cs = [.int .i64 a] ∧ In64 a
 rd_len h := by rw [h.1]; rfl
 rd_keep h _ := h
 own_rd h := h
 own_mono h _ := h
 own_keep h _ := h
 own_tight h := h
def boolR : Rep Bool where
 size := 1
 tys := []
 rd _ cs a := cs = [.bool a]
 own _ _ cs a := cs = [.bool a]
 rd_len h := by rw [h]; rfl
 rd_keep h _ := h
 own_rd h := h
 own_mono h _ := h
 own_keep h _ := h
 own_tight h := h
section
variable {α β : Type}
def prodR (R : Rep α) (Q : Rep β) : Rep (α × β) where
 size := R.size + Q.size
 tys := R.tys ++ Q.tys
 rd w cs a := ∃ c1 c2, cs = c1 ++ c2 ∧ R.rd w c1 a.1 ∧ Q.rd w c2 a.2
 own w S cs a := ∃ c1 c2 S1 S2, cs = c1 ++ c2 ∧ R.own w S1 c1 a.1 ∧ Q.own w S2 c2 a.2 ∧ Sub S1 S ∧ Sub S2 S ∧ Dis S1 S2
 rd_len := by
  rintro w cs a ⟨c1, c2, rfl, h1, h2⟩;rw [List.length_append, R.rd_len h1, Q.rd_len h2]
 rd_keep := by
  rintro w w' cs a ⟨c1, c2, rfl, h1, h2⟩ hk;exact ⟨c1, c2, rfl, R.rd_keep h1 hk, Q.rd_keep h2 hk⟩
 own_rd := by
  rintro w S cs a ⟨c1, c2, S1, S2, rfl, h1, h2, _⟩;exact ⟨c1, c2, rfl, R.own_rd h1, Q.own_rd h2⟩
 own_mono := by
  rintro w S T cs a ⟨c1, c2, S1, S2, rfl, h1, h2, a1, a2, d⟩ hs;exact ⟨c1, c2, S1, S2, rfl, h1, h2, a1.trans hs, a2.trans hs, d⟩
 own_keep := by
  rintro w w' S cs a ⟨c1, c2, S1, S2, rfl, h1, h2, a1, a2, d⟩ hk;exact ⟨c1, c2, S1, S2, rfl, R.own_keep h1 (hk.sub a1), Q.own_keep h2 (hk.sub a2), a1, a2, d⟩
 own_tight := by
  rintro w S cs a ⟨c1, c2, S1, S2, rfl, h1, h2, a1, a2, d⟩;refine ⟨c1, c2, _, _, rfl, R.own_tight h1, Q.own_tight h2, ?_, ?_, ?_⟩
  ·rintro k ⟨hk, cur, t, ht, hh⟩;exact ⟨a1 k hk, cur, t, List.mem_append.2 (.inl ht), hh⟩
  ·rintro k ⟨hk, cur, t, ht, hh⟩;exact ⟨a2 k hk, cur, t, List.mem_append.2 (.inr ht), hh⟩
  ·exact d.sub (fun k h => h.1) (fun k h => h.1)
def lrd (R : Rep α) (w : World) : List Value → List α → Prop
 | cs, [] => cs = []
 | cs, a :: r => ∃ c1 c2, cs = c1 ++ c2 ∧ R.rd w c1 a ∧ lrd R w c2 r
def lown (R : Rep α) (w : World) : Foot → List Value → List α → Prop
 | _, cs, [] => cs = []
 | S, cs, a :: r => ∃ c1 c2 S1 S2, cs = c1 ++ c2 ∧ R.own w S1 c1 a ∧ lown R w S2 c2 r ∧ Sub S1 S ∧ Sub S2 S ∧ Dis S1 S2
theorem lrd_len {R : Rep α} {w : World} : ∀ {cs : List Value} {xs : List α}, lrd R w cs xs → cs.length = xs.length * R.size
 | _, [], h => by rw [show _ = [] from h]; simp
 | _, x :: xs, ⟨c1, c2, e, h1, h2⟩ => by
  rw [e, List.length_append, R.rd_len h1, lrd_len h2, List.length_cons, Nat.add_one_mul];omega
theorem lrd_keep {R : Rep α} {w w' : World} : ∀ {cs : List Value} {xs : List α}, lrd R w cs xs → (∀ k, k < w.heap.size → w'.heap[k]? = w.heap[k]?) → lrd R w' cs xs
 | _, [], h, _ => h
 | _, x :: xs, ⟨c1, c2, e, h1, h2⟩, hk => ⟨c1, c2, e, R.rd_keep h1 hk, lrd_keep h2 hk⟩
theorem lown_rd {R : Rep α} {w : World} : ∀ {S : Foot} {cs : List Value} {xs : List α}, lown R w S cs xs → lrd R w cs xs
 | _, _, [], h => h
 | _, _, x :: xs, ⟨c1, c2, _, _, e, h1, h2, _⟩ => ⟨c1, c2, e, R.own_rd h1, lown_rd h2⟩
theorem lown_len {R : Rep α} {w : World} {S : Foot} {cs : List Value} {xs : List α} (h : lown R w S cs xs) : cs.length = xs.length * R.size := lrd_len (lown_rd h)
theorem lown_mono {R : Rep α} {w : World} {S T : Foot} {cs : List Value} {xs : List α} (h : lown R w S cs xs) (hs : Sub S T) : lown R w T cs xs := by
 cases xs with
 | nil => exact h
 | cons x xs =>
  obtain ⟨c, k, j, b, e, a, f, i, g, d⟩ := h;exact ⟨c, k, j, b, e, a, f, i.trans hs, g.trans hs, d⟩
theorem lown_keep {R : Rep α} {w w' : World} : ∀ {S : Foot} {cs : List Value} {xs : List α}, lown R w S cs xs → Keeps S w w' → lown R w' S cs xs
 | _, _, [], h, _ => h
 | _, _, x :: xs, ⟨c1, c2, S1, S2, e, h1, h2, a1, a2, d⟩, hk => ⟨c1, c2, S1, S2, e, R.own_keep h1 (hk.sub a1), lown_keep h2 (hk.sub a2), a1, a2, d⟩
theorem lown_tight {R : Rep α} {w : World} : ∀ {S : Foot} {cs : List Value} {xs : List α}, lown R w S cs xs → lown R w (fun k => S k ∧ ∃ cur t, t ∈ R.tys ∧ w.heap[k]? = some (.cells cur t (0, 0))) cs xs
 | _, _, [], h => h
 | _, _, x :: xs, ⟨c1, c2, S1, S2, e, h1, h2, a1, a2, d⟩ =>
  ⟨c1, c2, _, _, e, R.own_tight h1, lown_tight h2, fun k h => ⟨a1 k h.1, h.2⟩, fun k h => ⟨a2 k h.1, h.2⟩, d.sub (fun k h => h.1) (fun k h => h.1)⟩
theorem lrd_at {R : Rep α} {w : World} : ∀ {xs : List α} {cs : List Value} {j : Nat} {x : α}, lrd R w cs xs → xs[j]? = some x → R.rd w ((cs.drop (j * R.size)).take R.size) x
 | [], _, j, x, _, hx => by simp at hx
 | y :: ys, cs, 0, x, ⟨c1, c2, e, h1, h2⟩, hx => by
  simp at hx
  subst hx e;have a := R.rd_len h1;rw [Nat.zero_mul, List.drop_zero, List.take_append_of_le_length (by omega), List.take_of_length_le (by omega)];exact h1
 | y :: ys, cs, j + 1, x, ⟨c1, c2, e, h1, h2⟩, hx => by
  simp at hx
  subst e;have a := R.rd_len h1;have := lrd_at h2 hx;rw [Nat.add_one_mul, List.drop_append, List.drop_of_length_le (by omega), List.nil_append, show j * R.size + R.size - c1.length = j * R.size by omega];exact this
theorem lown_push {R : Rep α} {w : World} {T U : Foot} {c : List Value} {x : α} : ∀ {S : Foot} {cs : List Value} {xs : List α}, lown R w S cs xs → R.own w T c x → Dis S T → Sub S U → Sub T U → lown R w U (cs ++ c) (xs ++ [x])
 | S, cs, [], h, ho, hd, s1, s2 => by
  rw [show cs = [] from h];exact ⟨c, [], T, fun _ => False, by simp, ho, rfl, s2, fun _ h => h.elim, fun _ _ h => h⟩
 | S, cs, y :: ys, ⟨c1, c2, S1, S2, e, h1, h2, a1, a2, d⟩, ho, hd, s1, s2 => by
  subst e;refine ⟨c1, c2 ++ c, S1, (fun k => S2 k ∨ T k), by simp, h1, ?_, a1.trans s1, ?_, ?_⟩
  ·exact lown_push h2 ho (hd.sub a2 (Sub.refl _)) (fun k h => .inl h) (fun k h => .inr h)
  ·rintro k (h | h)
   ·exact s1 k (a2 k h)
   ·exact s2 k h
  ·rintro k h (a | a)
   ·exact d k h a
   ·exact hd k (a1 k h) a
theorem lown_focus {R : Rep α} {w : World} : ∀ {xs : List α} {S : Foot} {cs : List Value} {j : Nat} {x : α}, lown R w S cs xs → xs[j]? = some x →
    ∃ Sj T, R.own w Sj ((cs.drop (j * R.size)).take R.size) x ∧ Sub Sj S ∧ Sub T S ∧ Dis Sj T ∧
     ∀ w' c' x' U V, Keeps T w w' → R.own w' U c' x' → Dis U T → Sub U V → Sub T V → lown R w' V (cs.take (j * R.size) ++ (c' ++ cs.drop (j * R.size + R.size))) (xs.set j x')
 | [], S, _, j, x, _, hx => by simp at hx
 | y :: ys, S, cs, 0, x, ⟨c1, c2, S1, S2, e, h1, h2, a1, a2, d⟩, hx => by
  simp at hx
  subst hx e;have m := R.rd_len (R.own_rd h1);refine ⟨S1, S2, ?_, a1, a2, d, fun w' c' x' U V hk ho hd hs ht => ?_⟩
  ·rw [Nat.zero_mul, List.drop_zero, List.take_append_of_le_length (by omega), List.take_of_length_le (by omega)];exact h1
  ·rw [Nat.zero_mul, List.take_zero, List.nil_append, Nat.zero_add, List.drop_append, List.drop_of_length_le (by omega), List.nil_append, show R.size - c1.length = 0 by omega, List.drop_zero];exact ⟨c', c2, U, S2, rfl, ho, lown_keep h2 hk, hs, ht, hd⟩
 | y :: ys, S, cs, j + 1, x, ⟨c1, c2, S1, S2, e, h1, h2, a1, a2, d⟩, hx => by
  simp at hx
  subst e;have m := R.rd_len (R.own_rd h1);obtain ⟨Sj, T, o, g, i, p, l⟩ := lown_focus h2 hx;have b : (j + 1) * R.size = c1.length + j * R.size := by rw [Nat.add_one_mul]; omega
  refine ⟨Sj, (fun k => S1 k ∨ T k), ?_, g.trans a2, ?_, ?_, fun w' c' x' U V hk ho hd hs ht => ?_⟩
  ·rw [b, List.drop_append, List.drop_of_length_le (by omega), List.nil_append, show c1.length + j * R.size - c1.length = j * R.size by omega];exact o
  ·rintro k (h | h)
   ·exact a1 k h
   ·exact a2 k (i k h)
  ·rintro k h (a | a)
   ·exact d k a (g k h)
   ·exact p k h a
  ·have c : Keeps S1 w w' := hk.sub fun k h => .inl h;have f : Keeps T w w' := hk.sub fun k h => .inr h;have n : Dis U S1 := hd.sub (Sub.refl _) fun k h => .inl h;have r := l w' c' x' U (fun k => U k ∨ T k) f ho (hd.sub (Sub.refl _) fun k h => .inr h) (fun k h => .inl h) (fun k h => .inr h)
   rw [b, List.take_append, List.take_of_length_le (by omega), show c1.length + j * R.size - c1.length = j * R.size by omega,
    show c1.length + j * R.size + R.size = c1.length + (j * R.size + R.size) by omega, List.drop_append, List.drop_of_length_le (by omega), List.nil_append,
    show c1.length + (j * R.size + R.size) - c1.length = j * R.size + R.size by omega, List.append_assoc, List.set_cons_succ]
   refine ⟨c1, _, S1, _, rfl, R.own_keep h1 c, r, fun k h => ht k (.inl h), ?_, ?_⟩
   ·rintro k (h | h)
    ·exact hs k h
    ·exact ht k (.inr h)
   ·rintro k h (a | a)
    ·exact n k a h
    ·exact d k h (i k a)
end
section
variable {α β : Type}
theorem row_block {w : World} {base size n g : Nat} {e : TypeId} {v : Value} {xs : List Value} (h : w.ownsRow base e size v n xs) (hg : v.ownBlock = some g) : ∃ a, w.heap[g]? = some (.cells a e (0, 0)) := by
 rcases h.2 with ⟨rfl, _⟩ | ⟨g', c, a, rfl, _, b, _⟩
 ·simp [Value.ownBlock] at hg
 ·simp [Value.ownBlock] at hg
  subst hg;exact ⟨a, b⟩
theorem orow_keep {w w' : World} {base size n : Nat} {e : TypeId} {v : Value} {xs : List Value} (h : w.ownsRow base e size v n xs) (hk : ∀ g, v.ownBlock = some g → w'.heap[g]? = w.heap[g]?) : w'.ownsRow base e size v n xs := by
 refine ⟨h.1, ?_⟩;rcases h.2 with d | ⟨g, b, a, rfl, c, f, rest⟩
 ·exact .inl d
 ·exact .inr ⟨g, b, a, rfl, c, by rw [hk g rfl]; exact f, rest⟩
theorem row_base {w : World} {base base' size n : Nat} {e : TypeId} {v : Value} {xs : List Value} (h : w.ownsRow base e size v n xs) (hb : ∀ g, v.ownBlock = some g → base' ≤ g) : w.ownsRow base' e size v n xs := by
 refine ⟨h.1, ?_⟩;rcases h.2 with c | ⟨g, b, a, rfl, _, rest⟩
 ·exact .inl c
 ·exact .inr ⟨g, b, a, rfl, hb g rfl, rest⟩
def SlRd (R : Rep α) (w : World) (a : Option Addr) (xs : List α) : Prop :=
 xs = [] ∨ ∃ b off rows, a = some ⟨b, off, none⟩ ∧ lrd R w rows xs ∧ ∀ j u, rows[j]? = some u → w.cell? ⟨b, off + j, none⟩ = some u
def slR (e : TypeId) (R : Rep α) : Rep (List α) where
 size := 1
 tys := e :: R.tys
 rd w cs xs := ∃ a cap, cs = [.slice a xs.length cap] ∧ xs.length ≤ cap ∧ cap ≤ maxLen ∧ SlRd R w a xs
 own w S cs xs := ∃ v rows S', cs = [v] ∧ w.ownsRow 0 e R.size v xs.length rows ∧ (∀ g, v.ownBlock = some g → S g ∧ ¬ S' g) ∧ Sub S' S ∧ lown R w S' rows xs
 rd_len := by
  rintro w cs xs ⟨a, cap, rfl, _⟩;rfl
 rd_keep := by
  rintro w w' cs xs ⟨a, cap, rfl, h1, h2, h3⟩ hk;refine ⟨a, cap, rfl, h1, h2, ?_⟩;rcases h3 with h3 | ⟨b, off, rows, rfl, h4, h5⟩
  ·exact .inl h3
  ·refine .inr ⟨b, off, rows, rfl, lrd_keep h4 hk, fun j u hu => ?_⟩;have := h5 j u hu;have hl := World.block_lt_of_cell? w ⟨b, off + j, none⟩ this;rw [World.cell?_of_block (w := w) (hk b hl)];exact this
 own_rd := by
  rintro w S cs xs ⟨v, rows, S', rfl, hr, _, _, hl⟩;rcases hr.2 with ⟨rfl, h0⟩ | ⟨g, cap, cur, rfl, hb, hh, hc, hm, hs, ht⟩
  ·have : xs = [] := List.eq_nil_of_length_eq_zero h0;subst this;exact ⟨none, 0, rfl, Nat.le_refl _, Nat.zero_le _, .inl rfl⟩
  ·refine ⟨_, cap, rfl, hc, hm, .inr ⟨g, 0, rows, rfl, lown_rd hl, fun j u hu => ?_⟩⟩;have hj : j < rows.length := (List.getElem?_eq_some_iff.1 hu).1;rw [Nat.zero_add, World.ownsRow.cellAt hr j (by have := hr.1; omega)];exact hu
 own_mono := by
  rintro w S T cs xs ⟨v, rows, S', rfl, hr, hg, hs, hl⟩ hst;exact ⟨v, rows, S', rfl, hr, fun g h => ⟨hst g (hg g h).1, (hg g h).2⟩, hs.trans hst, hl⟩
 own_keep := by
  rintro w w' S cs xs ⟨v, rows, S', rfl, hr, hg, hs, hl⟩ hk;refine ⟨v, rows, S', rfl, orow_keep hr fun g h => ?_, hg, hs, lown_keep hl (hk.sub hs)⟩;obtain ⟨cur, hh⟩ := row_block hr h;exact hk g (hg g h).1 (ltH hh)
 own_tight := by
  rintro w S cs xs ⟨v, rows, S', rfl, hr, hg, hs, hl⟩;refine ⟨v, rows, _, rfl, hr, fun g h => ?_, ?_, lown_tight hl⟩
  ·obtain ⟨cur, hh⟩ := row_block hr h;exact ⟨⟨(hg g h).1, cur, e, by simp, hh⟩, fun h' => (hg g h).2 h'.1⟩
  ·rintro k ⟨hk, cur, t, ht, hh⟩;exact ⟨hs k hk, cur, t, List.mem_cons_of_mem _ ht, hh⟩
theorem slrd_at {R : Rep α} {w : World} {a : Option Addr} {xs : List α} {j : Nat} {x : α} (h : SlRd R w a xs) (hx : xs[j]? = some x) :
    ∃ b d c, a = some ⟨b, d, none⟩ ∧ R.rd w c x ∧ ∀ i u, c[i]? = some u → w.cell? ⟨b, d + (j * R.size + i), none⟩ = some u := by
 rcases h with rfl | ⟨b, d, f, rfl, g, k⟩
 ·simp at hx
 ·refine ⟨b, d, _, rfl, lrd_at g hx, fun i u hu => ?_⟩;refine k (j * R.size + i) u ?_;rw [List.getElem?_take] at hu;split at hu
  ·rw [List.getElem?_drop] at hu;exact hu
  ·cases hu
theorem slrd_keep {R : Rep α} {w w' : World} {a : Option Addr} {xs : List α} (h : SlRd R w a xs) (hk : ∀ k, k < w.heap.size → w'.heap[k]? = w.heap[k]?) : SlRd R w' a xs := by
 rcases h with f | ⟨b, c, d, rfl, g, l⟩
 ·exact .inl f
 ·refine .inr ⟨b, c, d, rfl, lrd_keep g hk, fun j u hu => ?_⟩;have := l j u hu;have i := World.block_lt_of_cell? w ⟨b, c + j, none⟩ this;rw [World.cell?_of_block (w := w) (hk b i)];exact this
theorem slown_focus {e : TypeId} {R : Rep α} {w : World} {S : Foot} {v : Value} {xs : List α} {j : Nat} {x : α} (h : (slR e R).own w S [v] xs) (hx : xs[j]? = some x) :
    ∃ g l b Sj T c, v = sL (some ⟨g, 0, none⟩) xs.length l ∧ S g ∧ w.heap[g]? = some (.cells b e (0, 0)) ∧ (∀ i, i < R.size → b[j * R.size + i]? = c[i]?) ∧ c.length = R.size ∧ R.own w Sj c x ∧
     Sub Sj S ∧ Sub T S ∧ Dis Sj T ∧ ¬ Sj g ∧ ¬ T g ∧
     ∀ s a r A U V, s.heap[g]? = some (.cells a e (0, 0)) → a.size = b.size → (∀ i, ¬ (j * R.size ≤ i ∧ i < j * R.size + R.size) → a[i]? = b[i]?) → (∀ i, i < R.size → a[j * R.size + i]? = r[i]?) →
      Keeps T w s → R.own s U r A → Dis U T → ¬ U g → V g → Sub U V → Sub T V → (slR e R).own s V [v] (xs.set j A) := by
 obtain ⟨v', d, S', N, X, hg, J, M⟩ := h;simp only [List.cons.injEq, and_true] at N;subst N;have hj : j < xs.length := (List.getElem?_eq_some_iff.1 hx).1;obtain ⟨Sj, T, o, O, E, b3, b4⟩ := lown_focus M hx;have Z := lown_len M;rcases X.2 with ⟨rfl, h0⟩ | ⟨g, l, b, rfl, hb, hh, K, hm, dA, Y⟩
 ·omega
 have n := hg g rfl;have cA : j * R.size + R.size ≤ xs.length * R.size := by
  have : (j + 1) * R.size ≤ xs.length * R.size := Nat.mul_le_mul_right _ hj;rw [Nat.add_one_mul] at this;exact this
 have mA : xs.length * R.size ≤ l * R.size := Nat.mul_le_mul_right _ K;have f : ∀ i, i < xs.length * R.size → b[i]? = d[i]? := by
  intro i q;rw [← Y, List.getElem?_take, if_pos q, Array.getElem?_toList]
 refine ⟨g, l, b, Sj, T, _, rfl, n.1, hh, ?_, ?_, o, O.trans J, E.trans J, b3, fun h => n.2 (O g h), fun h => n.2 (E g h), ?_⟩
 ·intro i q;rw [List.getElem?_take, if_pos q, List.getElem?_drop, f _ (by omega)]
 ·exact R.rd_len (R.own_rd o)
 ·intro s a r A U V B L p H D y hd G I F C;have m : r.length = R.size := R.rd_len (R.own_rd y);refine ⟨_, d.take (j * R.size) ++ (r ++ d.drop (j * R.size + R.size)), (fun k => U k ∨ T k), rfl, ⟨?_, .inr ⟨g, l, a, by rw [List.length_set], Nat.zero_le _, B, by rw [List.length_set]; exact K, hm, by omega, ?_⟩⟩, ?_, ?_, ?_⟩
  ·simp only [List.length_append, List.length_take, List.length_drop, List.length_set, m];omega
  ·rw [List.length_set];apply List.ext_getElem?
   intro i;rw [List.getElem?_take];by_cases q : i < xs.length * R.size
   ·rw [if_pos q, Array.getElem?_toList];by_cases h1 : i < j * R.size
    ·rw [List.getElem?_append_left (by simp; omega), List.getElem?_take, if_pos h1, p i (by omega), f i q]
    ·rw [List.getElem?_append_right (by simp; omega)];have e1 : (d.take (j * R.size)).length = j * R.size := by simp; omega
     rw [e1];by_cases h2 : i < j * R.size + R.size
     ·rw [List.getElem?_append_left (by omega), ← H (i - j * R.size) (by omega), show j * R.size + (i - j * R.size) = i by omega]
     ·rw [List.getElem?_append_right (by omega), List.getElem?_drop, m, show j * R.size + R.size + (i - j * R.size - R.size) = i by omega, p i (by omega), f i q]
   ·rw [if_neg q, List.getElem?_eq_none];simp only [List.length_append, List.length_take, List.length_drop, m];omega
  ·rintro g' z;simp [Value.ownBlock] at z
   subst z;refine ⟨I, ?_⟩;rintro (h | h)
   ·exact G h
   ·exact n.2 (E _ h)
  ·rintro k (h | h)
   ·exact F k h
   ·exact C k h
  ·exact b4 s r A U _ D y hd (fun k h => .inl h) (fun k h => .inr h)
end
section
variable {α β : Type}
def Opens (P : Program) (t : TypeId) (R : Rep α) : Prop :=
 ∀ (H : Type) (enc : TypeId × Value → H) (w : World) (base : Nat) (spare : Nat → Bool) (held : Bool) (fuel : Nat) (cs : List Value) (x : DataW H × List MemPlace), DataW.trod enc P w base spare held fuel t cs = some x → ∃ a, R.rd w cs a
def OpensF (P : Program) (off : Nat) (fs : List Field) (R : Rep α) : Prop :=
 ∀ (H : Type) (enc : TypeId × Value → H) (w : World) (base : Nat) (spare : Nat → Bool) (held : Bool) (n : Nat) (cs : List Value), cs.length = off + R.size →
  (∀ f ∈ fs, ∃ x, DataW.trod enc P w base spare held n f.type ((cs.drop f.offset).take (P.cellsOf f.type)) = some x) → ∃ a, R.rd w (cs.drop off) a
theorem opens_int {P : Program} {t : TypeId} (ht : P.underlying t = some (.int .i64)) : Opens P t intR := by
 intro H g w f a b d cs x h;obtain ⟨n, rfl, _, c⟩ := DataW.trod_int ht h;refine ⟨n, rfl, ?_⟩;simp only [Lit.wf, Bool.and_eq_true, decide_eq_true_eq] at c;exact c
theorem opens_bool {P : Program} {t : TypeId} (ht : P.underlying t = some .bool) : Opens P t boolR := by
 intro H g w f a c d cs x h;obtain ⟨b, rfl, _⟩ := DataW.trod_bool ht h;exact ⟨b, rfl⟩
theorem opensF_one {P : Program} {off : Nat} {f : Field} {R : Rep α} (hf : f.offset = off) (hc : P.cellsOf f.type = R.size) (h : Opens P f.type R) : OpensF P off [f] R := by
 intro H g w c a b n cs hl d;obtain ⟨x, d⟩ := d f (by simp);rw [hf, hc, List.take_of_length_le (by simp; omega)] at d;exact h H g w c a b n _ x d
theorem opensF_cons {P : Program} {off : Nat} {f : Field} {fs : List Field} {R : Rep α} {Q : Rep β} (hf : f.offset = off) (hc : P.cellsOf f.type = R.size) (h : Opens P f.type R) (hr : OpensF P (off + R.size) fs Q) : OpensF P off (f :: fs) (prodR R Q) := by
 intro H j w i c d n k r m;have o : k.length = off + (R.size + Q.size) := r;obtain ⟨x, l⟩ := m f (by simp);rw [hf, hc] at l;obtain ⟨a, p⟩ := h H j w i c d n _ x l;obtain ⟨b, q⟩ := hr H j w i c d n k (by omega) (fun g hg => m g (by simp [hg]));refine ⟨(a, b), _, _, ?_, p, q⟩;rw [← List.drop_drop, List.take_append_drop]
theorem opens_struct {P : Program} {t : TypeId} {fs : Array Field} {R : Rep α} (ht : P.underlying t = some (.struct fs)) (hc : P.cellsOf t = R.size) (h : OpensF P 0 fs.toList R) : Opens P t R := by
 intro H d w b a c j p x m;obtain ⟨o, n, _, _, hl, q, k⟩ := DataW.trod_struct ht m
 have := h H d w b a c n p (by omega) (fun f hf' => by
  obtain ⟨i, l, rfl⟩ := List.getElem_of_mem hf';have g : i < fs.size := by simpa using l
  refine ⟨o[i]'(by omega), ?_⟩
  rw [k i _ (by simp [g]), List.getElem?_eq_getElem (by omega)])
 simpa using this
theorem lrd_from {R : Rep α} {w : World} {b off : Nat} : ∀ (n k : Nat), (∀ i, k ≤ i → i < k + n → ∃ c x, R.rd w c x ∧ ∀ r u, c[r]? = some u → w.cell? ⟨b, off + (i * R.size + r), none⟩ = some u) →
    ∃ (a : List Value) (d : List α), d.length = n ∧ lrd R w a d ∧ ∀ j u, a[j]? = some u → w.cell? ⟨b, off + (k * R.size + j), none⟩ = some u
 | 0, k, _ => ⟨[], [], rfl, rfl, by simp⟩
 | n + 1, k, h => by
  obtain ⟨c, x, f, m⟩ := h k (Nat.le_refl _) (by omega);obtain ⟨a, d, g, o, l⟩ := lrd_from n (k + 1) (fun i h3 h4 => h i (by omega) (by omega));have p := R.rd_len f;refine ⟨c ++ a, x :: d, by simp [g], ⟨c, a, rfl, f, o⟩, fun j u hu => ?_⟩;by_cases hj : j < R.size
  ·rw [List.getElem?_append_left (by omega)] at hu;exact m j u hu
  ·rw [List.getElem?_append_right (by omega)] at hu;have := l _ u hu;rw [p, Nat.add_one_mul, show k * R.size + R.size + (j - R.size) = k * R.size + j by omega] at this;exact this
theorem add_add (a : Addr) (m r : Nat) : (a.add m).add r = a.add (m + r) := by
 unfold Addr.add;by_cases c : m = 0
 ·subst c;simp
 ·by_cases b : r = 0
  ·subst b;simp
  ·simp [c, b, Nat.add_assoc]
theorem opens_slice {P : Program} {t e e' : TypeId} {R : Rep α} (ht : P.underlying t = some (.slice e)) (hc : P.cellsOf e = R.size) (hpos : 0 < R.size) (h : Opens P e R) : Opens P t (slR e' R) := by
 intro H B w p l A F cs x L;rcases DataW.trod_slice ht L with ⟨rfl, _⟩ | ⟨a, m, q, C, rest, n, _, rfl, _, hb, hl, G, J, k, _⟩
 ·exact ⟨[], none, 0, rfl, Nat.le_refl _, Nat.zero_le _, .inl rfl⟩
 by_cases U : m = 0
 ·subst U;exact ⟨[], some a, q, rfl, Nat.zero_le _, G, .inl rfl⟩
 have g : ∀ i, i < m → ∃ c y, R.rd w c y ∧ ∀ r u, c[r]? = some u → w.cell? (a.add (i * R.size + r)) = some u := by
  intro i E;have D := k i E;rw [List.getElem?_eq_getElem (by omega), Option.bind_eq_some_iff] at D;obtain ⟨c, z, M⟩ := D;obtain ⟨y, v⟩ := h H B w p l A n c _ M;refine ⟨c, y, v, fun r u f => ?_⟩;unfold World.cells? at z;split at z
  ·have I : r < P.cellsOf e := by
     have := mapM_some_length z;have h4 := (List.getElem?_eq_some_iff.1 f).1;simp at this
     omega
   have := mapM_some_get z r r (by simp [I]);rw [f, hc, add_add] at this;exact this
  ·cases z
 have d : a.spot = none := by
  obtain ⟨c, y, v, o⟩ := g 0 (by omega);have K := R.rd_len v;obtain ⟨u, f⟩ : ∃ u, c[0]? = some u := ⟨_, List.getElem?_eq_getElem (by omega)⟩;have := World.cell?_spot (o 0 u f);simpa [Addr.add] using this
 obtain ⟨b, off, spot⟩ := a;simp at d
 subst d
 obtain ⟨s, N, S, O, T⟩ := lrd_from (R := R) (w := w) (b := b) (off := off) m 0 (fun i _ E => by
  obtain ⟨c, y, v, o⟩ := g i (by omega)
  exact ⟨c, y, v, fun r u f => by have := o r u f; rwa [Go.WideShapes.add_plain] at this⟩)
 refine ⟨N, some ⟨b, off, none⟩, q, by rw [S], by omega, G, .inr ⟨b, off, s, rfl, O, fun j u f => ?_⟩⟩;simpa using T j u f
theorem open_rep {H : Type} {enc : TypeId × Value → H} {P : Program} {w : World} {base : Nat} {spare : Nat → Bool} {held : Bool} {t : TypeId} {v : Value} {d : DataW H} {p : List MemPlace} {R : Rep α} (ho : Opens P t R)
    (h : DataW.Trod enc P w base spare held t v d p) : ∃ a, R.rd w v.cells.toList a := by
 obtain ⟨b, c⟩ := h;exact ho H enc w base spare held b _ _ c
theorem open_struct {H : Type} {enc : TypeId × Value → H} {P : Program} {w : World} {base b0 : Nat} {spare : Nat → Bool} {held : Bool} {r : Reach} {t : TypeId} {fs : Array Field} {v : Value} {d : DataW H} {p : List MemPlace} {R : Rep α}
    (hs : P.underlying t = some (.struct fs)) (ho : Opens P t R) (hv : Value.okWide P w r b0 t v) (h : DataW.Trod enc P w base spare held t v d p) : ∃ b a, v = .agg b ∧ R.rd w b.toList a := by
 obtain ⟨a, c⟩ := open_rep ho h;unfold Value.okWide at hv;rw [hs] at hv;obtain ⟨b, rfl, _⟩ := hv;exact ⟨b, a, rfl, by simpa [Value.cells] using c⟩
abbrev RepOf {α : Type} (R : Rep α) : Type := α
end
section
variable {α β : Type}
def MadeR (R : Rep α) (w w' : World) (cs : List Value) (a : α) : Prop := R.own w' (rng w.heap.size w'.heap.size) cs a ∧ Below w.heap.size w w'
theorem below_next {w w1 w2 : World} (h : Bl w w1) (h2 : Bl w1 w2) : Bl w w2 := h.trans (h2.mono h.size)
theorem own_next {R : Rep α} {lo : Nat} {w w1 : World} {cs : List Value} {a : α} (h : R.own w (rng lo w.heap.size) cs a) (hb : Bl w w1) : R.own w1 (rng lo w.heap.size) cs a :=
 R.own_keep h fun k hk _ => hb.block k hk.2
theorem own_stay {R : Rep α} {lo hi D : Nat} {w w1 : World} {cs : List Value} {a : α} (h : R.own w (rng lo hi) cs a) (hb : Below D w w1) (hD : hi ≤ D) : R.own w1 (rng lo hi) cs a :=
 R.own_keep h fun k hk _ => hb.block k (Nat.lt_of_lt_of_le hk.2 hD)
theorem own_chg {R : Rep α} {S T : Foot} {w w1 : World} {cs : List Value} {a : α} (h : R.own w S cs a) (hb : Chg T w w1) (hd : Dis S T) : R.own w1 S cs a := R.own_keep h (hb.keeps hd)
theorem rd_next {R : Rep α} {w w1 : World} {cs : List Value} {a : α} (h : R.rd w cs a) (hb : Bl w w1) : R.rd w1 cs a := R.rd_keep h fun k hk => hb.block k hk
theorem slrd_next {R : Rep α} {w w1 : World} {a : Option Addr} {xs : List α} (h : SlRd R w a xs) (hb : Bl w w1) : SlRd R w1 a xs := slrd_keep h fun k hk => hb.block k hk
def putC (w : World) (g : Nat) : Nat → List Value → World
 | _, [] => w
 | off, c :: cs => putC (w.setCell ⟨g, off, none⟩ c) g (off + 1) cs
theorem set_take_drop (xs : List Value) (off : Nat) (c : Value) (h : off < xs.length) : xs.set off c = xs.take off ++ (c :: xs.drop (off + 1)) := by
 rw [List.set_eq_take_append_cons_drop, if_pos h]
theorem putC_row {base e size g n cap : Nat} : ∀ {cs : List Value} {w : World} {off : Nat} {xs : List Value}, w.ownsRow base e size (sL (some ⟨g, 0, none⟩) n cap) n xs → off + cs.length ≤ n * size →
    (putC w g off cs).ownsRow base e size (sL (some ⟨g, 0, none⟩) n cap) n (xs.take off ++ (cs ++ xs.drop (off + cs.length))) ∧ w.grownBy (putC w g off cs) (some g)
 | [], w, off, xs, h, hl => by
  simp only [putC, List.nil_append, List.length_nil, Nat.add_zero, List.take_append_drop];exact ⟨h, World.grownBy.refl _ _⟩
 | c :: cs, w, off, xs, h, hl => by
  simp only [List.length_cons] at hl;have d : off < xs.length := by have := h.1; omega
  have R := World.ownsRow.stored h off c;have r := putC_row (cs := cs) (off := off + 1) R.1 (by omega);refine ⟨?_, grown_trans R.2 r.2⟩;have b : (xs.set off c).take (off + 1) ++ (cs ++ (xs.set off c).drop (off + 1 + cs.length)) = xs.take off ++ (c :: cs ++ xs.drop (off + (c :: cs).length)) := by
   rw [set_take_drop xs off c d];have a : (xs.take off).length = off := by simp; omega
   rw [List.take_append, List.take_of_length_le (by omega), a, show off + 1 - off = 1 by omega, List.take_succ_cons, List.take_zero, List.drop_append, List.drop_of_length_le (by omega), List.nil_append, a,
    show off + 1 + cs.length - off = cs.length + 1 by omega, List.drop_succ_cons, List.drop_drop]
   simp only [List.length_cons, List.append_assoc, List.cons_append, List.nil_append];rw [show off + 1 + cs.length = off + (cs.length + 1) by omega]
  rw [← b];exact r.1
def Fill (e : TypeId) (R : Rep α) (w0 w : World) (n : Nat) (xs : List α) : Prop :=
 ∃ rows rest, w.ownsRow 0 e R.size (.slice (some ⟨w0.heap.size, 0, none⟩) n n) n (rows ++ rest) ∧ lown R w (rng (w0.heap.size + 1) w.heap.size) rows xs ∧ Below w0.heap.size w0 w ∧ w0.heap.size < w.heap.size
theorem fillR_start {e : TypeId} {R : Rep α} {w0 : World} {n : Nat} {cs : Array Value} (hm : n ≤ maxLen) (hs : cs.size = n * R.size) : Fill e R w0 (w0.alloc (.cells cs e)) n [] :=
 ⟨[], cs.toList, by simpa using World.ownsRow_lit (base := 0) (e := e) (size := R.size) w0 cs n (Nat.zero_le _) hm hs, rfl, (Below.refl _ _).alloc (Nat.le_refl _) _, by simp⟩
theorem fillR_step {e : TypeId} {R : Rep α} {w0 w w1 : World} {n k : Nat} {xs : List α} {c : List Value} {x : α} (h : Fill e R w0 w n xs) (hk : xs.length = k) (hkn : k < n) (hm : MadeR R w w1 c x) :
    (∀ i, i < R.size → ∃ u, w1.cell? ⟨w0.heap.size, k * R.size + i, none⟩ = some u) ∧ (∀ i, w1.frozen? ⟨w0.heap.size, i, none⟩ = false) ∧ Fill e R w0 (putC w1 w0.heap.size (k * R.size) c) n (xs ++ [x]) := by
 obtain ⟨a, rest, z, s, v, l⟩ := h;have hc := R.rd_len (R.own_rd hm.1);have p := lown_len s;rw [hk] at p;have B : k * R.size + R.size ≤ n * R.size := by
  have : (k + 1) * R.size ≤ n * R.size := Nat.mul_le_mul_right _ hkn;rwa [Nat.add_one_mul] at this
 have d : w1.ownsRow 0 e R.size (sL (some ⟨w0.heap.size, 0, none⟩) n n) n (a ++ rest) := orow_keep z fun g hg => by
  simp [Value.ownBlock] at hg
  subst hg;exact hm.2.block _ l
 have o : lown R w1 (rng (w0.heap.size + 1) w.heap.size) a xs := lown_keep s fun j hj _ => hm.2.block j hj.2;obtain ⟨q, f⟩ := putC_row (cs := c) (off := k * R.size) d (by omega);have r := d.1;have m := hm.2.size;refine ⟨fun i hi => ?_, fun i => World.ownsRow.frozenAt d i, a ++ c, (a ++ rest).drop (k * R.size + c.length), ?_, ?_, ?_, ?_⟩
 ·rw [World.ownsRow.cellAt d _ (by omega)];exact ⟨_, List.getElem?_eq_getElem (by omega)⟩
 ·rw [List.append_assoc];rw [List.take_append_of_le_length (by omega), List.take_of_length_le (by omega)] at q;exact q
 ·have b : ∀ j, j ≠ w0.heap.size → j < w1.heap.size → (putC w1 w0.heap.size (k * R.size) c).heap[j]? = w1.heap[j]? := fun j hj hlj => f.block j hlj (fun e => hj (by simpa using e));have y : R.own (putC w1 w0.heap.size (k * R.size) c) (rng w.heap.size w1.heap.size) c x := R.own_keep hm.1 fun j hj hlj => b j (by have := hj.1; omega) hlj;have A : lown R (putC w1 w0.heap.size (k * R.size) c) (rng (w0.heap.size + 1) w.heap.size) a xs := lown_keep o fun j hj hlj => b j (by have := hj.1; omega) hlj;exact lown_push A y (rng_dis (.inl (Nat.le_refl _))) (rng_sub (Nat.le_refl _) (Nat.le_trans m f.size)) (rng_sub (by omega) f.size)
 ·exact (below_next v hm.2).grown f (by omega) (fun j hj => by cases hj; exact Nat.le_refl _)
 ·have := f.size;omega
theorem fillR_end {e : TypeId} {R : Rep α} {w0 w : World} {n : Nat} {xs : List α} (h : Fill e R w0 w n xs) (hn : xs.length = n) : MadeR (slR e R) w0 w [sL (some ⟨w0.heap.size, 0, none⟩) xs.length n] xs := by
 obtain ⟨a, rest, d, i, j, c⟩ := h;have f := lown_len i;have b := d.1;have : rest = [] := by
  rw [hn] at f;rw [List.length_append] at b;exact List.eq_nil_of_length_eq_zero (by omega)
 subst this;rw [List.append_nil] at d;refine ⟨⟨_, a, rng (w0.heap.size + 1) w.heap.size, rfl, by rw [hn]; exact d, fun g hg => ?_, rng_sub (by omega) (Nat.le_refl _), i⟩, j⟩;simp [Value.ownBlock] at hg
 subst hg;exact ⟨⟨Nat.le_refl _, c⟩, fun h => by have := h.1; omega⟩
end
end Go.Proofs.YtmaopldahnejdaaGreatDoor
