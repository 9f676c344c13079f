/- Whatever is laid in cells (numbers, truths, structs of these, slices of these): what it reads as, and what a call owns of it alone. No program here. -/
import Derived.Test.YtfpbchohfkbpbaaRows
import Derived.WalkKit
import Derived.ProofKit
import Derived.OpenShut
import Derived.Below
import Derived.Laws.OwnMore
namespace Go.Proofs.Ytfpbchohfkbpbaa
open Go.ChangeShapes Go.WideShapes Go.ChangeAt Go.RowKit
set_option linter.unusedVariables false

abbrev Foot := Nat → Prop
def Sub (S T : Foot) : Prop := ∀ k, S k → T k
def Dis (S T : Foot) : Prop := ∀ k, S k → T k → False
def rng (lo hi : Nat) : Foot := fun k => lo ≤ k ∧ k < hi
def Keeps (S : Foot) (w w' : World) : Prop := ∀ k, S k → k < w.heap.size → w'.heap[k]? = w.heap[k]?

theorem Sub.refl (S : Foot) : Sub S S := fun _ h => h
theorem Sub.trans {S T U : Foot} (h : Sub S T) (k : Sub T U) : Sub S U := fun i hi => k i (h i hi)
theorem Dis.symm {S T : Foot} (h : Dis S T) : Dis T S := fun k a b => h k b a
theorem Dis.sub {S T S' T' : Foot} (h : Dis S T) (a : Sub S' S) (b : Sub T' T) : Dis S' T' := fun k x y => h k (a k x) (b k y)
theorem Keeps.sub {S T : Foot} {w w' : World} (h : Keeps T w w') (s : Sub S T) : Keeps S w w' := fun k hk hl => h k (s k hk) hl
theorem rng_sub {lo hi lo' hi' : Nat} (h : lo' ≤ lo) (k : hi ≤ hi') : Sub (rng lo hi) (rng lo' hi') := fun _ hi => ⟨Nat.le_trans h hi.1, Nat.lt_of_lt_of_le hi.2 k⟩
theorem rng_dis {lo hi lo' hi' : Nat} (h : hi ≤ lo' ∨ hi' ≤ lo) : Dis (rng lo hi) (rng lo' hi') := fun k a b => by
  have a1 := a.1
  have a2 := a.2
  have b1 := b.1
  have b2 := b.2
  omega

/-- Only blocks of S may have turned. -/
structure Chg (S : Foot) (w w' : World) : Prop where
  os : w'.os = w.os
  tape : w'.tape = w.tape
  output : w'.output = w.output
  size : w.heap.size ≤ w'.heap.size
  block : ∀ k, k < w.heap.size → ¬ S k → w'.heap[k]? = w.heap[k]?
theorem Chg.refl (S : Foot) (w : World) : Chg S w w := ⟨rfl, rfl, rfl, Nat.le_refl _, fun _ _ _ => rfl⟩
theorem Chg.trans {S : Foot} {a b c : World} (h : Chg S a b) (k : Chg S b c) : Chg S a c :=
  ⟨k.os.trans h.os, k.tape.trans h.tape, k.output.trans h.output, Nat.le_trans h.size k.size, fun j hj hn => (k.block j (Nat.lt_of_lt_of_le hj h.size) hn).trans (h.block j hj hn)⟩
theorem Chg.mono {S T : Foot} {a b : World} (h : Chg S a b) (s : Sub S T) : Chg T a b := ⟨h.os, h.tape, h.output, h.size, fun k hk hn => h.block k hk fun x => hn (s k x)⟩
theorem Chg.keeps {S T : Foot} {a b : World} (h : Chg S a b) (d : Dis T S) : Keeps T a b := fun k hk hl => h.block k hl fun x => d k hk x
theorem Chg.below {S : Foot} {B : Nat} {a w w' : World} (hb : Below B a w) (h : Chg S w w') (hS : ∀ k, S k → B ≤ k) (h2 : B ≤ w.heap.size) : Below B a w' :=
  hb.trans ⟨h.os, h.tape, h.output, h.size, fun k hk => h.block k (by omega) (fun x => by have := hS k x; omega)⟩
theorem chg_grown {S : Foot} {g : Nat} {w w' : World} (h : w.grownBy w' (some g)) (hg : S g) : Chg S w w' :=
  ⟨h.os, h.tape, h.output, h.size, fun k hk hn => h.block k hk (fun e => by cases e; exact hn hg)⟩
theorem chg_below {S : Foot} {w w' : World} (h : Below w.heap.size w w') : Chg S w w' := ⟨h.os, h.tape, h.output, h.size, fun k hk _ => h.block k hk⟩
theorem keeps_below {S : Foot} {w w' : World} (h : Below w.heap.size w w') : Keeps S w w' := fun k _ hl => h.block k hl
theorem keeps_below_of {S : Foot} {D : Nat} {w w' : World} (h : Below D w w') (hS : ∀ k, S k → k < D) : Keeps S w w' := fun k hk _ => h.block k (hS k hk)

structure Rep (α : Type) where
  size : Nat
  tys : List TypeId
  rd : World → List Value → α → Prop
  own : World → Foot → List Value → α → Prop
  rd_len : ∀ {w : World} {cs : List Value} {a : α}, rd w cs a → cs.length = size
  rd_keep : ∀ {w w' : World} {cs : List Value} {a : α}, rd w cs a → (∀ k, k < w.heap.size → w'.heap[k]? = w.heap[k]?) → rd w' cs a
  own_rd : ∀ {w : World} {S : Foot} {cs : List Value} {a : α}, own w S cs a → rd w cs a
  own_mono : ∀ {w : World} {S T : Foot} {cs : List Value} {a : α}, own w S cs a → Sub S T → own w T cs a
  own_keep : ∀ {w w' : World} {S : Foot} {cs : List Value} {a : α}, own w S cs a → Keeps S w w' → own w' S cs a
  own_tight : ∀ {w : World} {S : Foot} {cs : List Value} {a : α}, own w S cs a → own w (fun k => S k ∧ ∃ cur t, t ∈ tys ∧ w.heap[k]? = some (.cells cur t (0, 0))) cs a

def In64 (a : Int) : Prop := -9223372036854775808 ≤ a ∧ a ≤ 9223372036854775807

def intR : Rep Int where
  size := 1
  tys := []
  rd _ cs a := cs = [.int .i64 a] ∧ In64 a
  own _ _ cs a := cs = [.int .i64 a] ∧ In64 a
  rd_len h := by rw [h.1]; rfl
  rd_keep h _ := h
  own_rd h := h
  own_mono h _ := h
  own_keep h _ := h
  own_tight h := h

def boolR : Rep Bool where
  size := 1
  tys := []
  rd _ cs a := cs = [.bool a]
  own _ _ cs a := cs = [.bool a]
  rd_len h := by rw [h]; rfl
  rd_keep h _ := h
  own_rd h := h
  own_mono h _ := h
  own_keep h _ := h
  own_tight h := h

section
variable {α β : Type}

def prodR (R : Rep α) (Q : Rep β) : Rep (α × β) where
  size := R.size + Q.size
  tys := R.tys ++ Q.tys
  rd w cs a := ∃ c1 c2, cs = c1 ++ c2 ∧ R.rd w c1 a.1 ∧ Q.rd w c2 a.2
  own w S cs a := ∃ c1 c2 S1 S2, cs = c1 ++ c2 ∧ R.own w S1 c1 a.1 ∧ Q.own w S2 c2 a.2 ∧ Sub S1 S ∧ Sub S2 S ∧ Dis S1 S2
  rd_len := by
    rintro w cs a ⟨c1, c2, rfl, h1, h2⟩
    rw [List.length_append, R.rd_len h1, Q.rd_len h2]
  rd_keep := by
    rintro w w' cs a ⟨c1, c2, rfl, h1, h2⟩ hk
    exact ⟨c1, c2, rfl, R.rd_keep h1 hk, Q.rd_keep h2 hk⟩
  own_rd := by
    rintro w S cs a ⟨c1, c2, S1, S2, rfl, h1, h2, _⟩
    exact ⟨c1, c2, rfl, R.own_rd h1, Q.own_rd h2⟩
  own_mono := by
    rintro w S T cs a ⟨c1, c2, S1, S2, rfl, h1, h2, a1, a2, d⟩ hs
    exact ⟨c1, c2, S1, S2, rfl, h1, h2, a1.trans hs, a2.trans hs, d⟩
  own_keep := by
    rintro w w' S cs a ⟨c1, c2, S1, S2, rfl, h1, h2, a1, a2, d⟩ hk
    exact ⟨c1, c2, S1, S2, rfl, R.own_keep h1 (hk.sub a1), Q.own_keep h2 (hk.sub a2), a1, a2, d⟩
  own_tight := by
    rintro w S cs a ⟨c1, c2, S1, S2, rfl, h1, h2, a1, a2, d⟩
    refine ⟨c1, c2, _, _, rfl, R.own_tight h1, Q.own_tight h2, ?_, ?_, ?_⟩
    · rintro k ⟨hk, cur, t, ht, hh⟩
      exact ⟨a1 k hk, cur, t, List.mem_append.2 (.inl ht), hh⟩
    · rintro k ⟨hk, cur, t, ht, hh⟩
      exact ⟨a2 k hk, cur, t, List.mem_append.2 (.inr ht), hh⟩
    · exact d.sub (fun k h => h.1) (fun k h => h.1)

def lrd (R : Rep α) (w : World) : List Value → List α → Prop
  | cs, [] => cs = []
  | cs, a :: r => ∃ c1 c2, cs = c1 ++ c2 ∧ R.rd w c1 a ∧ lrd R w c2 r
def lown (R : Rep α) (w : World) : Foot → List Value → List α → Prop
  | _, cs, [] => cs = []
  | S, cs, a :: r => ∃ c1 c2 S1 S2, cs = c1 ++ c2 ∧ R.own w S1 c1 a ∧ lown R w S2 c2 r ∧ Sub S1 S ∧ Sub S2 S ∧ Dis S1 S2

theorem lrd_len {R : Rep α} {w : World} : ∀ {cs : List Value} {xs : List α}, lrd R w cs xs → cs.length = xs.length * R.size
  | _, [], h => by rw [show _ = [] from h]; simp
  | _, x :: xs, ⟨c1, c2, e, h1, h2⟩ => by
    rw [e, List.length_append, R.rd_len h1, lrd_len h2, List.length_cons, Nat.add_one_mul]
    omega
theorem lrd_keep {R : Rep α} {w w' : World} : ∀ {cs : List Value} {xs : List α}, lrd R w cs xs → (∀ k, k < w.heap.size → w'.heap[k]? = w.heap[k]?) → lrd R w' cs xs
  | _, [], h, _ => h
  | _, x :: xs, ⟨c1, c2, e, h1, h2⟩, hk => ⟨c1, c2, e, R.rd_keep h1 hk, lrd_keep h2 hk⟩
theorem lown_rd {R : Rep α} {w : World} : ∀ {S : Foot} {cs : List Value} {xs : List α}, lown R w S cs xs → lrd R w cs xs
  | _, _, [], h => h
  | _, _, x :: xs, ⟨c1, c2, _, _, e, h1, h2, _⟩ => ⟨c1, c2, e, R.own_rd h1, lown_rd h2⟩
theorem lown_len {R : Rep α} {w : World} {S : Foot} {cs : List Value} {xs : List α} (h : lown R w S cs xs) : cs.length = xs.length * R.size := lrd_len (lown_rd h)
theorem lown_mono {R : Rep α} {w : World} {S T : Foot} {cs : List Value} {xs : List α} (h : lown R w S cs xs) (hs : Sub S T) : lown R w T cs xs := by
  cases xs with
  | nil => exact h
  | cons x xs =>
    obtain ⟨c1, c2, S1, S2, e, h1, h2, a1, a2, d⟩ := h
    exact ⟨c1, c2, S1, S2, e, h1, h2, a1.trans hs, a2.trans hs, d⟩
theorem lown_keep {R : Rep α} {w w' : World} : ∀ {S : Foot} {cs : List Value} {xs : List α}, lown R w S cs xs → Keeps S w w' → lown R w' S cs xs
  | _, _, [], h, _ => h
  | _, _, x :: xs, ⟨c1, c2, S1, S2, e, h1, h2, a1, a2, d⟩, hk => ⟨c1, c2, S1, S2, e, R.own_keep h1 (hk.sub a1), lown_keep h2 (hk.sub a2), a1, a2, d⟩
theorem lown_tight {R : Rep α} {w : World} : ∀ {S : Foot} {cs : List Value} {xs : List α}, lown R w S cs xs → lown R w (fun k => S k ∧ ∃ cur t, t ∈ R.tys ∧ w.heap[k]? = some (.cells cur t (0, 0))) cs xs
  | _, _, [], h => h
  | _, _, x :: xs, ⟨c1, c2, S1, S2, e, h1, h2, a1, a2, d⟩ =>
    ⟨c1, c2, _, _, e, R.own_tight h1, lown_tight h2, fun k h => ⟨a1 k h.1, h.2⟩, fun k h => ⟨a2 k h.1, h.2⟩, d.sub (fun k h => h.1) (fun k h => h.1)⟩

theorem lrd_at {R : Rep α} {w : World} : ∀ {xs : List α} {cs : List Value} {j : Nat} {x : α}, lrd R w cs xs → xs[j]? = some x → R.rd w ((cs.drop (j * R.size)).take R.size) x
  | [], _, j, x, _, hx => by simp at hx
  | y :: ys, cs, 0, x, ⟨c1, c2, e, h1, h2⟩, hx => by
    simp at hx
    subst hx e
    have hl := R.rd_len h1
    rw [Nat.zero_mul, List.drop_zero, List.take_append_of_le_length (by omega), List.take_of_length_le (by omega)]
    exact h1
  | y :: ys, cs, j + 1, x, ⟨c1, c2, e, h1, h2⟩, hx => by
    simp at hx
    subst e
    have hl := R.rd_len h1
    have := lrd_at h2 hx
    rw [Nat.add_one_mul, List.drop_append, List.drop_of_length_le (by omega), List.nil_append, show j * R.size + R.size - c1.length = j * R.size by omega]
    exact this

theorem lown_push {R : Rep α} {w : World} {T U : Foot} {c : List Value} {x : α} : ∀ {S : Foot} {cs : List Value} {xs : List α}, lown R w S cs xs → R.own w T c x → Dis S T → Sub S U → Sub T U → lown R w U (cs ++ c) (xs ++ [x])
  | S, cs, [], h, ho, hd, s1, s2 => by
    rw [show cs = [] from h]
    exact ⟨c, [], T, fun _ => False, by simp, ho, rfl, s2, fun _ h => h.elim, fun _ _ h => h⟩
  | S, cs, y :: ys, ⟨c1, c2, S1, S2, e, h1, h2, a1, a2, d⟩, ho, hd, s1, s2 => by
    subst e
    refine ⟨c1, c2 ++ c, S1, (fun k => S2 k ∨ T k), by simp, h1, ?_, a1.trans s1, ?_, ?_⟩
    · exact lown_push h2 ho (hd.sub a2 (Sub.refl _)) (fun k h => .inl h) (fun k h => .inr h)
    · rintro k (h | h)
      · exact s1 k (a2 k h)
      · exact s2 k h
    · rintro k h (h' | h')
      · exact d k h h'
      · exact hd k (a1 k h) h'

/-- One of them, by itself; whatever becomes of it, the others stay. -/
theorem lown_focus {R : Rep α} {w : World} : ∀ {xs : List α} {S : Foot} {cs : List Value} {j : Nat} {x : α}, lown R w S cs xs → xs[j]? = some x →
    ∃ Sj T, R.own w Sj ((cs.drop (j * R.size)).take R.size) x ∧ Sub Sj S ∧ Sub T S ∧ Dis Sj T ∧
      ∀ w' c' x' U V, Keeps T w w' → R.own w' U c' x' → Dis U T → Sub U V → Sub T V → lown R w' V (cs.take (j * R.size) ++ (c' ++ cs.drop (j * R.size + R.size))) (xs.set j x')
  | [], S, _, j, x, _, hx => by simp at hx
  | y :: ys, S, cs, 0, x, ⟨c1, c2, S1, S2, e, h1, h2, a1, a2, d⟩, hx => by
    simp at hx
    subst hx e
    have hl := R.rd_len (R.own_rd h1)
    refine ⟨S1, S2, ?_, a1, a2, d, fun w' c' x' U V hk ho hd hs ht => ?_⟩
    · rw [Nat.zero_mul, List.drop_zero, List.take_append_of_le_length (by omega), List.take_of_length_le (by omega)]
      exact h1
    · rw [Nat.zero_mul, List.take_zero, List.nil_append, Nat.zero_add, List.drop_append, List.drop_of_length_le (by omega), List.nil_append, show R.size - c1.length = 0 by omega, List.drop_zero]
      exact ⟨c', c2, U, S2, rfl, ho, lown_keep h2 hk, hs, ht, hd⟩
  | y :: ys, S, cs, j + 1, x, ⟨c1, c2, S1, S2, e, h1, h2, a1, a2, d⟩, hx => by
    simp at hx
    subst e
    have hl := R.rd_len (R.own_rd h1)
    obtain ⟨Sj, T, o, b1, b2, b3, b4⟩ := lown_focus h2 hx
    have key : (j + 1) * R.size = c1.length + j * R.size := by rw [Nat.add_one_mul]; omega
    refine ⟨Sj, (fun k => S1 k ∨ T k), ?_, b1.trans a2, ?_, ?_, fun w' c' x' U V hk ho hd hs ht => ?_⟩
    · rw [key, List.drop_append, List.drop_of_length_le (by omega), List.nil_append, show c1.length + j * R.size - c1.length = j * R.size by omega]
      exact o
    · rintro k (h | h)
      · exact a1 k h
      · exact a2 k (b2 k h)
    · rintro k h (h' | h')
      · exact d k h' (b1 k h)
      · exact b3 k h h'
    · have hk1 : Keeps S1 w w' := hk.sub fun k h => .inl h
      have hk2 : Keeps T w w' := hk.sub fun k h => .inr h
      have hU : Dis U S1 := hd.sub (Sub.refl _) fun k h => .inl h
      have r := b4 w' c' x' U (fun k => U k ∨ T k) hk2 ho (hd.sub (Sub.refl _) fun k h => .inr h) (fun k h => .inl h) (fun k h => .inr h)
      rw [key, List.take_append, List.take_of_length_le (by omega), show c1.length + j * R.size - c1.length = j * R.size by omega,
        show c1.length + j * R.size + R.size = c1.length + (j * R.size + R.size) by omega, List.drop_append, List.drop_of_length_le (by omega), List.nil_append,
        show c1.length + (j * R.size + R.size) - c1.length = j * R.size + R.size by omega, List.append_assoc, List.set_cons_succ]
      refine ⟨c1, _, S1, _, rfl, R.own_keep h1 hk1, r, fun k h => ht k (.inl h), ?_, ?_⟩
      · rintro k (h | h)
        · exact hs k h
        · exact ht k (.inr h)
      · rintro k h (h' | h')
        · exact hU k h' h
        · exact d k h (b2 k h')

end
end Go.Proofs.Ytfpbchohfkbpbaa
