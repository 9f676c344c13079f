import Derived.Test.YtdamokokcdcedaaGreatDoorE00Box
import Derived.Test.YtdamokokcdcedaaGreatDoorRows
import Derived.WalkKit
import Derived.ProofKit
import Derived.OpenShut
import Derived.Deep.QuietTactic
import Derived.BigQuiet
import Derived.WalkSmall
import Derived.Below
import Derived.Laws.OwnMore
import Derived.ChangeArms
namespace Go.Proofs.YtdamokokcdcedaaGreatDoor
open Go.ChangeShapes Go.WideShapes Go.ChangeAt Go.RowKit
def Reads (w : World) (a : Option Addr) (xs : List Int) : Prop :=
 xs = [] ∨ ∃ b off, a = some ⟨b, off, none⟩ ∧ ∀ j, j < xs.length → w.cell? ⟨b, off + j, none⟩ = some (.int .i64 (xs.getD j 0))
set_option maxHeartbeats 400000 in
theorem eqInts_any (a1 a2 : Option Addr) (xs : List Int) (c1 c2 : Nat) (w : World) (h1 : Reads w a1 xs) (h2 : Reads w a2 xs) (hm : xs.length ≤ 2305843009213693952) :
    Calls Tryz.prog 39 #[sL a1 xs.length c1, sL a2 xs.length c2] w fun e w' => e = .returned (.bool true) ∧ ∃ n, w' = w.drewN n := by
 go_enter Tryz.func39, Tryz.ntmps39;go_wp2;go_loopw [5] (fun i wr => ∃ k : Nat, k ≤ xs.length ∧ i = nI k ∧ ∃ n, wr = w.drewN n) (fun i _ => xs.length - (intOf i).toNat)
 case atStart => exact ⟨0, Nat.zero_le _, rfl, 0, rfl⟩
 case round =>
  obtain ⟨k, hk, rfl, n, rfl⟩ := hrel;by_cases a : k < xs.length
  ·rcases h1 with rfl | ⟨b1, o1, rfl, c⟩
   ·simp at a
   rcases h2 with rfl | ⟨b2, o2, rfl, b⟩
   ·simp at a
   have g1 := c k a;have g2 := b k a;have d : (k : Int) < (xs.length : Int) := by omega
   clear c b;go_wp2;go_quiet (fail)
   go_wp2;go_roundw
   case rel => exact ⟨k + 1, by omega, by go_num, _, rfl⟩
   case measure => simp [intOf]; omega
  ·go_wp2;go_ret
   exact ⟨rfl, _, rfl⟩
theorem grown_trans {a b c : World} {row : Option Nat} (h : a.grownBy b row) (k : b.grownBy c row) : a.grownBy c row :=
 ⟨k.os.trans h.os, k.tape.trans h.tape, k.output.trans h.output, Nat.le_trans h.size k.size, fun j hj hne => (k.block j (Nat.lt_of_lt_of_le hj h.size) hne).trans (h.block j hj hne)⟩
theorem own_below {w w' : World} {base e size g n cap B : Nat} {xs : List Value} (h : w.ownsRow base e size (sL (some ⟨g, 0, none⟩) n cap) n xs) (hb : Below B w w') (hg : g < B) :
    w'.ownsRow base e size (sL (some ⟨g, 0, none⟩) n cap) n xs := by
 refine ⟨h.1, ?_⟩;rcases h.2 with ⟨a, _⟩ | ⟨g', f, c, a, d, b, rest⟩
 ·simp at a
 ·simp only [Value.slice.injEq, Option.some.injEq, Addr.mk.injEq, and_true, true_and] at a;obtain ⟨rfl, rfl⟩ := a;exact .inr ⟨g, cap, c, rfl, d, by rw [hb.block g hg]; exact b, rest⟩
theorem own_grown {w w' : World} {base e size g n cap r : Nat} {xs : List Value} (h : w.ownsRow base e size (sL (some ⟨g, 0, none⟩) n cap) n xs) (hb : w.grownBy w' (some r)) (hg : g ≠ r) :
    w'.ownsRow base e size (sL (some ⟨g, 0, none⟩) n cap) n xs :=
 h.kept hb (.inr (by simp [Value.ownBlock, hg]))
set_option linter.unusedVariables false
abbrev Foot := Nat → Prop
def Sub (S T : Foot) : Prop := ∀ k, S k → T k
def Dis (S T : Foot) : Prop := ∀ k, S k → T k → False
def rng (lo hi : Nat) : Foot := fun k => lo ≤ k ∧ k < hi
def Keeps (S : Foot) (w w' : World) : Prop := ∀ k, S k → k < w.heap.size → w'.heap[k]? = w.heap[k]?
theorem Sub.refl (S : Foot) : Sub S S := fun _ h => h
theorem Sub.trans {S T U : Foot} (h : Sub S T) (k : Sub T U) : Sub S U := fun i hi => k i (h i hi)
theorem Dis.symm {S T : Foot} (h : Dis S T) : Dis T S := fun k a b => h k b a
theorem Dis.sub {S T S' T' : Foot} (h : Dis S T) (a : Sub S' S) (b : Sub T' T) : Dis S' T' := fun k x y => h k (a k x) (b k y)
theorem Keeps.sub {S T : Foot} {w w' : World} (h : Keeps T w w') (s : Sub S T) : Keeps S w w' := fun k hk hl => h k (s k hk) hl
theorem rng_sub {lo hi lo' hi' : Nat} (h : lo' ≤ lo) (k : hi ≤ hi') : Sub (rng lo hi) (rng lo' hi') := fun _ hi => ⟨Nat.le_trans h hi.1, Nat.lt_of_lt_of_le hi.2 k⟩
theorem rng_dis {lo hi lo' hi' : Nat} (h : hi ≤ lo' ∨ hi' ≤ lo) : Dis (rng lo hi) (rng lo' hi') := fun k a b => by
 have a1 := a.1;have a2 := a.2;have b1 := b.1;have b2 := b.2;omega
structure Chg (S : Foot) (w w' : World) : Prop where
 os : w'.os = w.os
 tape : w'.tape = w.tape
 output : w'.output = w.output
 size : w.heap.size ≤ w'.heap.size
 block : ∀ k, k < w.heap.size → ¬ S k → w'.heap[k]? = w.heap[k]?
theorem Chg.refl (S : Foot) (w : World) : Chg S w w := ⟨rfl, rfl, rfl, Nat.le_refl _, fun _ _ _ => rfl⟩
theorem Chg.trans {S : Foot} {a b c : World} (h : Chg S a b) (k : Chg S b c) : Chg S a c :=
 ⟨k.os.trans h.os, k.tape.trans h.tape, k.output.trans h.output, Nat.le_trans h.size k.size, fun j hj hn => (k.block j (Nat.lt_of_lt_of_le hj h.size) hn).trans (h.block j hj hn)⟩
theorem Chg.mono {S T : Foot} {a b : World} (h : Chg S a b) (s : Sub S T) : Chg T a b := ⟨h.os, h.tape, h.output, h.size, fun k hk hn => h.block k hk fun x => hn (s k x)⟩
theorem Chg.keeps {S T : Foot} {a b : World} (h : Chg S a b) (d : Dis T S) : Keeps T a b := fun k hk hl => h.block k hl fun x => d k hk x
theorem Chg.below {S : Foot} {B : Nat} {a w w' : World} (hb : Below B a w) (h : Chg S w w') (hS : ∀ k, S k → B ≤ k) (h2 : B ≤ w.heap.size) : Below B a w' :=
 hb.trans ⟨h.os, h.tape, h.output, h.size, fun k hk => h.block k (by omega) (fun x => by have := hS k x; omega)⟩
theorem chg_grown {S : Foot} {g : Nat} {w w' : World} (h : w.grownBy w' (some g)) (hg : S g) : Chg S w w' :=
 ⟨h.os, h.tape, h.output, h.size, fun k hk hn => h.block k hk (fun e => by cases e; exact hn hg)⟩
structure Rep (α : Type) where
 size : Nat
 tys : List TypeId
 rd : World → List Value → α → Prop
 own : World → Foot → List Value → α → Prop
 rd_len : ∀ {w : World} {cs : List Value} {a : α}, rd w cs a → cs.length = size
 rd_keep : ∀ {w w' : World} {cs : List Value} {a : α}, rd w cs a → (∀ k, k < w.heap.size → w'.heap[k]? = w.heap[k]?) → rd w' cs a
 own_rd : ∀ {w : World} {S : Foot} {cs : List Value} {a : α}, own w S cs a → rd w cs a
 own_mono : ∀ {w : World} {S T : Foot} {cs : List Value} {a : α}, own w S cs a → Sub S T → own w T cs a
 own_keep : ∀ {w w' : World} {S : Foot} {cs : List Value} {a : α}, own w S cs a → Keeps S w w' → own w' S cs a
 own_tight : ∀ {w : World} {S : Foot} {cs : List Value} {a : α}, own w S cs a → own w (fun k => S k ∧ ∃ cur t, t ∈ tys ∧ w.heap[k]? = some (.cells cur t (0, 0))) cs a
def In64 (a : Int) : Prop := -9223372036854775808 ≤ a ∧ a ≤ 9223372036854775807
def intR : Rep Int where
 size := 1
 tys := []
 rd _ cs a := cs = [.int .i64 a] ∧ In64 a
 own _ _ cs a := cs = [.int .i64 a] ∧ In64 a
 rd_len h := by rw [h.1]; rfl
 rd_keep h _ := h
 own_rd h := h
 own_mono h _ := h
 own_keep h _ := h
 own_tight h := h
def boolR : Rep Bool where
 size := 1
 tys := []
 rd _ cs a := cs = [.bool a]
 own _ _ cs a := cs = [.bool a]
 rd_len h := by rw [h]; rfl
 rd_keep h _ := h
 own_rd h := h
 own_mono h _ := h
 own_keep h _ := h
 own_tight h := h
section
variable {α β : Type}
def prodR (R : Rep α) (Q : Rep β) : Rep (α × β) where
 size := R.size + Q.size
 tys := R.tys ++ Q.tys
 rd w cs a := ∃ c1 c2, cs = c1 ++ c2 ∧ R.rd w c1 a.1 ∧ Q.rd w c2 a.2
 own w S cs a := ∃ c1 c2 S1 S2, cs = c1 ++ c2 ∧ R.own w S1 c1 a.1 ∧ Q.own w S2 c2 a.2 ∧ Sub S1 S ∧ Sub S2 S ∧ Dis S1 S2
 rd_len := by
  rintro w cs a ⟨c1, c2, rfl, h1, h2⟩;rw [List.length_append, R.rd_len h1, Q.rd_len h2]
 rd_keep := by
  rintro w w' cs a ⟨c1, c2, rfl, h1, h2⟩ hk;exact ⟨c1, c2, rfl, R.rd_keep h1 hk, Q.rd_keep h2 hk⟩
 own_rd := by
  rintro w S cs a ⟨c1, c2, S1, S2, rfl, h1, h2, _⟩;exact ⟨c1, c2, rfl, R.own_rd h1, Q.own_rd h2⟩
 own_mono := by
  rintro w S T cs a ⟨c1, c2, S1, S2, rfl, h1, h2, a1, a2, d⟩ hs;exact ⟨c1, c2, S1, S2, rfl, h1, h2, a1.trans hs, a2.trans hs, d⟩
 own_keep := by
  rintro w w' S cs a ⟨c1, c2, S1, S2, rfl, h1, h2, a1, a2, d⟩ hk;exact ⟨c1, c2, S1, S2, rfl, R.own_keep h1 (hk.sub a1), Q.own_keep h2 (hk.sub a2), a1, a2, d⟩
 own_tight := by
  rintro w S cs a ⟨c1, c2, S1, S2, rfl, h1, h2, a1, a2, d⟩;refine ⟨c1, c2, _, _, rfl, R.own_tight h1, Q.own_tight h2, ?_, ?_, ?_⟩
  ·rintro k ⟨hk, cur, t, ht, hh⟩;exact ⟨a1 k hk, cur, t, List.mem_append.2 (.inl ht), hh⟩
  ·rintro k ⟨hk, cur, t, ht, hh⟩;exact ⟨a2 k hk, cur, t, List.mem_append.2 (.inr ht), hh⟩
  ·exact d.sub (fun k h => h.1) (fun k h => h.1)
def lrd (R : Rep α) (w : World) : List Value → List α → Prop
 | cs, [] => cs = []
 | cs, a :: r => ∃ c1 c2, cs = c1 ++ c2 ∧ R.rd w c1 a ∧ lrd R w c2 r
def lown (R : Rep α) (w : World) : Foot → List Value → List α → Prop
 | _, cs, [] => cs = []
 | S, cs, a :: r => ∃ c1 c2 S1 S2, cs = c1 ++ c2 ∧ R.own w S1 c1 a ∧ lown R w S2 c2 r ∧ Sub S1 S ∧ Sub S2 S ∧ Dis S1 S2
theorem lrd_len {R : Rep α} {w : World} : ∀ {cs : List Value} {xs : List α}, lrd R w cs xs → cs.length = xs.length * R.size
 | _, [], h => by rw [show _ = [] from h]; simp
 | _, x :: xs, ⟨c1, c2, e, h1, h2⟩ => by
  rw [e, List.length_append, R.rd_len h1, lrd_len h2, List.length_cons, Nat.add_one_mul];omega
theorem lrd_keep {R : Rep α} {w w' : World} : ∀ {cs : List Value} {xs : List α}, lrd R w cs xs → (∀ k, k < w.heap.size → w'.heap[k]? = w.heap[k]?) → lrd R w' cs xs
 | _, [], h, _ => h
 | _, x :: xs, ⟨c1, c2, e, h1, h2⟩, hk => ⟨c1, c2, e, R.rd_keep h1 hk, lrd_keep h2 hk⟩
theorem lown_rd {R : Rep α} {w : World} : ∀ {S : Foot} {cs : List Value} {xs : List α}, lown R w S cs xs → lrd R w cs xs
 | _, _, [], h => h
 | _, _, x :: xs, ⟨c1, c2, _, _, e, h1, h2, _⟩ => ⟨c1, c2, e, R.own_rd h1, lown_rd h2⟩
theorem lown_len {R : Rep α} {w : World} {S : Foot} {cs : List Value} {xs : List α} (h : lown R w S cs xs) : cs.length = xs.length * R.size := lrd_len (lown_rd h)
theorem lown_keep {R : Rep α} {w w' : World} : ∀ {S : Foot} {cs : List Value} {xs : List α}, lown R w S cs xs → Keeps S w w' → lown R w' S cs xs
 | _, _, [], h, _ => h
 | _, _, x :: xs, ⟨c1, c2, S1, S2, e, h1, h2, a1, a2, d⟩, hk => ⟨c1, c2, S1, S2, e, R.own_keep h1 (hk.sub a1), lown_keep h2 (hk.sub a2), a1, a2, d⟩
theorem lown_tight {R : Rep α} {w : World} : ∀ {S : Foot} {cs : List Value} {xs : List α}, lown R w S cs xs → lown R w (fun k => S k ∧ ∃ cur t, t ∈ R.tys ∧ w.heap[k]? = some (.cells cur t (0, 0))) cs xs
 | _, _, [], h => h
 | _, _, x :: xs, ⟨c1, c2, S1, S2, e, h1, h2, a1, a2, d⟩ =>
  ⟨c1, c2, _, _, e, R.own_tight h1, lown_tight h2, fun k h => ⟨a1 k h.1, h.2⟩, fun k h => ⟨a2 k h.1, h.2⟩, d.sub (fun k h => h.1) (fun k h => h.1)⟩
theorem lrd_at {R : Rep α} {w : World} : ∀ {xs : List α} {cs : List Value} {j : Nat} {x : α}, lrd R w cs xs → xs[j]? = some x → R.rd w ((cs.drop (j * R.size)).take R.size) x
 | [], _, j, x, _, hx => by simp at hx
 | y :: ys, cs, 0, x, ⟨c1, c2, e, h1, h2⟩, hx => by
  simp at hx
  subst hx e;have a := R.rd_len h1;rw [Nat.zero_mul, List.drop_zero, List.take_append_of_le_length (by omega), List.take_of_length_le (by omega)];exact h1
 | y :: ys, cs, j + 1, x, ⟨c1, c2, e, h1, h2⟩, hx => by
  simp at hx
  subst e;have a := R.rd_len h1;have := lrd_at h2 hx;rw [Nat.add_one_mul, List.drop_append, List.drop_of_length_le (by omega), List.nil_append, show j * R.size + R.size - c1.length = j * R.size by omega];exact this
theorem lown_push {R : Rep α} {w : World} {T U : Foot} {c : List Value} {x : α} : ∀ {S : Foot} {cs : List Value} {xs : List α}, lown R w S cs xs → R.own w T c x → Dis S T → Sub S U → Sub T U → lown R w U (cs ++ c) (xs ++ [x])
 | S, cs, [], h, ho, hd, s1, s2 => by
  rw [show cs = [] from h];exact ⟨c, [], T, fun _ => False, by simp, ho, rfl, s2, fun _ h => h.elim, fun _ _ h => h⟩
 | S, cs, y :: ys, ⟨c1, c2, S1, S2, e, h1, h2, a1, a2, d⟩, ho, hd, s1, s2 => by
  subst e;refine ⟨c1, c2 ++ c, S1, (fun k => S2 k ∨ T k), by simp, h1, ?_, a1.trans s1, ?_, ?_⟩
  ·exact lown_push h2 ho (hd.sub a2 (Sub.refl _)) (fun k h => .inl h) (fun k h => .inr h)
  ·rintro k (h | h)
   ·exact s1 k (a2 k h)
   ·exact s2 k h
  ·rintro k h (a | a)
   ·exact d k h a
   ·exact hd k (a1 k h) a
end
section
variable {α β : Type}
theorem row_block {w : World} {base size n g : Nat} {e : TypeId} {v : Value} {xs : List Value} (h : w.ownsRow base e size v n xs) (hg : v.ownBlock = some g) : ∃ a, w.heap[g]? = some (.cells a e (0, 0)) := by
 rcases h.2 with ⟨rfl, _⟩ | ⟨g', b, a, rfl, _, c, _⟩
 ·simp [Value.ownBlock] at hg
 ·simp [Value.ownBlock] at hg
  subst hg;exact ⟨a, c⟩
theorem orow_keep {w w' : World} {base size n : Nat} {e : TypeId} {v : Value} {xs : List Value} (h : w.ownsRow base e size v n xs) (hk : ∀ g, v.ownBlock = some g → w'.heap[g]? = w.heap[g]?) : w'.ownsRow base e size v n xs := by
 refine ⟨h.1, ?_⟩;rcases h.2 with c | ⟨g, b, a, rfl, d, f, rest⟩
 ·exact .inl c
 ·exact .inr ⟨g, b, a, rfl, d, by rw [hk g rfl]; exact f, rest⟩
theorem row_base {w : World} {base base' size n : Nat} {e : TypeId} {v : Value} {xs : List Value} (h : w.ownsRow base e size v n xs) (hb : ∀ g, v.ownBlock = some g → base' ≤ g) : w.ownsRow base' e size v n xs := by
 refine ⟨h.1, ?_⟩;rcases h.2 with c | ⟨g, b, a, rfl, _, rest⟩
 ·exact .inl c
 ·exact .inr ⟨g, b, a, rfl, hb g rfl, rest⟩
def SlRd (R : Rep α) (w : World) (a : Option Addr) (xs : List α) : Prop :=
 xs = [] ∨ ∃ b off rows, a = some ⟨b, off, none⟩ ∧ lrd R w rows xs ∧ ∀ j u, rows[j]? = some u → w.cell? ⟨b, off + j, none⟩ = some u
def slR (e : TypeId) (R : Rep α) : Rep (List α) where
 size := 1
 tys := e :: R.tys
 rd w cs xs := ∃ a cap, cs = [.slice a xs.length cap] ∧ xs.length ≤ cap ∧ cap ≤ maxLen ∧ SlRd R w a xs
 own w S cs xs := ∃ v rows S', cs = [v] ∧ w.ownsRow 0 e R.size v xs.length rows ∧ (∀ g, v.ownBlock = some g → S g ∧ ¬ S' g) ∧ Sub S' S ∧ lown R w S' rows xs
 rd_len := by
  rintro w cs xs ⟨a, cap, rfl, _⟩;rfl
 rd_keep := by
  rintro w w' cs xs ⟨a, cap, rfl, h1, h2, h3⟩ hk;refine ⟨a, cap, rfl, h1, h2, ?_⟩;rcases h3 with h3 | ⟨b, off, rows, rfl, h4, h5⟩
  ·exact .inl h3
  ·refine .inr ⟨b, off, rows, rfl, lrd_keep h4 hk, fun j u hu => ?_⟩;have := h5 j u hu;have hl := World.block_lt_of_cell? w ⟨b, off + j, none⟩ this;rw [World.cell?_of_block (w := w) (hk b hl)];exact this
 own_rd := by
  rintro w S cs xs ⟨v, rows, S', rfl, hr, _, _, hl⟩;rcases hr.2 with ⟨rfl, h0⟩ | ⟨g, cap, cur, rfl, hb, hh, hc, hm, hs, ht⟩
  ·have : xs = [] := List.eq_nil_of_length_eq_zero h0;subst this;exact ⟨none, 0, rfl, Nat.le_refl _, Nat.zero_le _, .inl rfl⟩
  ·refine ⟨_, cap, rfl, hc, hm, .inr ⟨g, 0, rows, rfl, lown_rd hl, fun j u hu => ?_⟩⟩;have hj : j < rows.length := (List.getElem?_eq_some_iff.1 hu).1;rw [Nat.zero_add, World.ownsRow.cellAt hr j (by have := hr.1; omega)];exact hu
 own_mono := by
  rintro w S T cs xs ⟨v, rows, S', rfl, hr, hg, hs, hl⟩ hst;exact ⟨v, rows, S', rfl, hr, fun g h => ⟨hst g (hg g h).1, (hg g h).2⟩, hs.trans hst, hl⟩
 own_keep := by
  rintro w w' S cs xs ⟨v, rows, S', rfl, hr, hg, hs, hl⟩ hk;refine ⟨v, rows, S', rfl, orow_keep hr fun g h => ?_, hg, hs, lown_keep hl (hk.sub hs)⟩;obtain ⟨cur, hh⟩ := row_block hr h;exact hk g (hg g h).1 (ltH hh)
 own_tight := by
  rintro w S cs xs ⟨v, rows, S', rfl, hr, hg, hs, hl⟩;refine ⟨v, rows, _, rfl, hr, fun g h => ?_, ?_, lown_tight hl⟩
  ·obtain ⟨cur, hh⟩ := row_block hr h;exact ⟨⟨(hg g h).1, cur, e, by simp, hh⟩, fun h' => (hg g h).2 h'.1⟩
  ·rintro k ⟨hk, cur, t, ht, hh⟩;exact ⟨hs k hk, cur, t, List.mem_cons_of_mem _ ht, hh⟩
theorem slrd_at {R : Rep α} {w : World} {a : Option Addr} {xs : List α} {j : Nat} {x : α} (h : SlRd R w a xs) (hx : xs[j]? = some x) :
    ∃ b d c, a = some ⟨b, d, none⟩ ∧ R.rd w c x ∧ ∀ i u, c[i]? = some u → w.cell? ⟨b, d + (j * R.size + i), none⟩ = some u := by
 rcases h with rfl | ⟨b, d, f, rfl, g, k⟩
 ·simp at hx
 ·refine ⟨b, d, _, rfl, lrd_at g hx, fun i u hu => ?_⟩;refine k (j * R.size + i) u ?_;rw [List.getElem?_take] at hu;split at hu
  ·rw [List.getElem?_drop] at hu;exact hu
  ·cases hu
theorem slrd_keep {R : Rep α} {w w' : World} {a : Option Addr} {xs : List α} (h : SlRd R w a xs) (hk : ∀ k, k < w.heap.size → w'.heap[k]? = w.heap[k]?) : SlRd R w' a xs := by
 rcases h with i | ⟨b, d, c, rfl, f, l⟩
 ·exact .inl i
 ·refine .inr ⟨b, d, c, rfl, lrd_keep f hk, fun j u hu => ?_⟩;have := l j u hu;have g := World.block_lt_of_cell? w ⟨b, d + j, none⟩ this;rw [World.cell?_of_block (w := w) (hk b g)];exact this
end
section
variable {α β : Type}
def Opens (P : Program) (t : TypeId) (R : Rep α) : Prop :=
 ∀ (H : Type) (enc : TypeId × Value → H) (w : World) (base : Nat) (spare : Nat → Bool) (held : Bool) (fuel : Nat) (cs : List Value) (x : DataW H × List MemPlace), DataW.trod enc P w base spare held fuel t cs = some x → ∃ a, R.rd w cs a
def OpensF (P : Program) (off : Nat) (fs : List Field) (R : Rep α) : Prop :=
 ∀ (H : Type) (enc : TypeId × Value → H) (w : World) (base : Nat) (spare : Nat → Bool) (held : Bool) (n : Nat) (cs : List Value), cs.length = off + R.size →
  (∀ f ∈ fs, ∃ x, DataW.trod enc P w base spare held n f.type ((cs.drop f.offset).take (P.cellsOf f.type)) = some x) → ∃ a, R.rd w (cs.drop off) a
theorem opens_int {P : Program} {t : TypeId} (ht : P.underlying t = some (.int .i64)) : Opens P t intR := by
 intro H g w b a c f cs x h;obtain ⟨n, rfl, _, d⟩ := DataW.trod_int ht h;refine ⟨n, rfl, ?_⟩;simp only [Lit.wf, Bool.and_eq_true, decide_eq_true_eq] at d;exact d
theorem opens_bool {P : Program} {t : TypeId} (ht : P.underlying t = some .bool) : Opens P t boolR := by
 intro H g w c a d f cs x h;obtain ⟨b, rfl, _⟩ := DataW.trod_bool ht h;exact ⟨b, rfl⟩
theorem opensF_one {P : Program} {off : Nat} {f : Field} {R : Rep α} (hf : f.offset = off) (hc : P.cellsOf f.type = R.size) (h : Opens P f.type R) : OpensF P off [f] R := by
 intro H g w b a c n cs hl d;obtain ⟨x, d⟩ := d f (by simp);rw [hf, hc, List.take_of_length_le (by simp; omega)] at d;exact h H g w b a c n _ x d
theorem opensF_cons {P : Program} {off : Nat} {f : Field} {fs : List Field} {R : Rep α} {Q : Rep β} (hf : f.offset = off) (hc : P.cellsOf f.type = R.size) (h : Opens P f.type R) (hr : OpensF P (off + R.size) fs Q) : OpensF P off (f :: fs) (prodR R Q) := by
 intro H j w d c i n k p l;have q : k.length = off + (R.size + Q.size) := p;obtain ⟨x, m⟩ := l f (by simp);rw [hf, hc] at m;obtain ⟨a, o⟩ := h H j w d c i n _ x m;obtain ⟨b, r⟩ := hr H j w d c i n k (by omega) (fun g hg => l g (by simp [hg]));refine ⟨(a, b), _, _, ?_, o, r⟩;rw [← List.drop_drop, List.take_append_drop]
theorem opens_struct {P : Program} {t : TypeId} {fs : Array Field} {R : Rep α} (ht : P.underlying t = some (.struct fs)) (hc : P.cellsOf t = R.size) (h : OpensF P 0 fs.toList R) : Opens P t R := by
 intro H g w b a c j o x q;obtain ⟨k, n, _, _, hl, l, p⟩ := DataW.trod_struct ht q
 have := h H g w b a c n o (by omega) (fun f hf' => by
  obtain ⟨i, m, rfl⟩ := List.getElem_of_mem hf';have d : i < fs.size := by simpa using m
  refine ⟨k[i]'(by omega), ?_⟩
  rw [p i _ (by simp [d]), List.getElem?_eq_getElem (by omega)])
 simpa using this
theorem lrd_from {R : Rep α} {w : World} {b off : Nat} : ∀ (n k : Nat), (∀ i, k ≤ i → i < k + n → ∃ c x, R.rd w c x ∧ ∀ r u, c[r]? = some u → w.cell? ⟨b, off + (i * R.size + r), none⟩ = some u) →
    ∃ (a : List Value) (d : List α), d.length = n ∧ lrd R w a d ∧ ∀ j u, a[j]? = some u → w.cell? ⟨b, off + (k * R.size + j), none⟩ = some u
 | 0, k, _ => ⟨[], [], rfl, rfl, by simp⟩
 | n + 1, k, h => by
  obtain ⟨c, x, f, o⟩ := h k (Nat.le_refl _) (by omega);obtain ⟨a, d, m, g, p⟩ := lrd_from n (k + 1) (fun i h3 h4 => h i (by omega) (by omega));have l := R.rd_len f;refine ⟨c ++ a, x :: d, by simp [m], ⟨c, a, rfl, f, g⟩, fun j u hu => ?_⟩;by_cases hj : j < R.size
  ·rw [List.getElem?_append_left (by omega)] at hu;exact o j u hu
  ·rw [List.getElem?_append_right (by omega)] at hu;have := p _ u hu;rw [l, Nat.add_one_mul, show k * R.size + R.size + (j - R.size) = k * R.size + j by omega] at this;exact this
theorem add_add (a : Addr) (m r : Nat) : (a.add m).add r = a.add (m + r) := by
 unfold Addr.add;by_cases c : m = 0
 ·subst c;simp
 ·by_cases b : r = 0
  ·subst b;simp
  ·simp [c, b, Nat.add_assoc]
theorem opens_slice {P : Program} {t e e' : TypeId} {R : Rep α} (ht : P.underlying t = some (.slice e)) (hc : P.cellsOf e = R.size) (hpos : 0 < R.size) (h : Opens P e R) : Opens P t (slR e' R) := by
 intro H C w s o v E cs x M;rcases DataW.trod_slice ht M with ⟨rfl, _⟩ | ⟨a, l, q, B, rest, n, _, rfl, _, hb, hl, G, L, m, _⟩
 ·exact ⟨[], none, 0, rfl, Nat.le_refl _, Nat.zero_le _, .inl rfl⟩
 by_cases U : l = 0
 ·subst U;exact ⟨[], some a, q, rfl, Nat.zero_le _, G, .inl rfl⟩
 have f : ∀ i, i < l → ∃ c y, R.rd w c y ∧ ∀ r u, c[r]? = some u → w.cell? (a.add (i * R.size + r)) = some u := by
  intro i F;have D := m i F;rw [List.getElem?_eq_getElem (by omega), Option.bind_eq_some_iff] at D;obtain ⟨c, A, S⟩ := D;obtain ⟨y, z⟩ := h H C w s o v n c _ S;refine ⟨c, y, z, fun r u g => ?_⟩;unfold World.cells? at A;split at A
  ·have J : r < P.cellsOf e := by
     have := mapM_some_length A;have h4 := (List.getElem?_eq_some_iff.1 g).1;simp at this
     omega
   have := mapM_some_get A r r (by simp [J]);rw [g, hc, add_add] at this;exact this
  ·cases A
 have d : a.spot = none := by
  obtain ⟨c, y, z, k⟩ := f 0 (by omega);have O := R.rd_len z;obtain ⟨u, g⟩ : ∃ u, c[0]? = some u := ⟨_, List.getElem?_eq_getElem (by omega)⟩;have := World.cell?_spot (k 0 u g);simpa [Addr.add] using this
 obtain ⟨b, off, spot⟩ := a;simp at d
 subst d
 obtain ⟨p, I, K, T, N⟩ := lrd_from (R := R) (w := w) (b := b) (off := off) l 0 (fun i _ F => by
  obtain ⟨c, y, z, k⟩ := f i (by omega)
  exact ⟨c, y, z, fun r u g => by have := k r u g; rwa [Go.WideShapes.add_plain] at this⟩)
 refine ⟨I, some ⟨b, off, none⟩, q, by rw [K], by omega, G, .inr ⟨b, off, p, rfl, T, fun j u g => ?_⟩⟩;simpa using N j u g
theorem open_rep {H : Type} {enc : TypeId × Value → H} {P : Program} {w : World} {base : Nat} {spare : Nat → Bool} {held : Bool} {t : TypeId} {v : Value} {d : DataW H} {p : List MemPlace} {R : Rep α} (ho : Opens P t R)
    (h : DataW.Trod enc P w base spare held t v d p) : ∃ a, R.rd w v.cells.toList a := by
 obtain ⟨b, c⟩ := h;exact ho H enc w base spare held b _ _ c
theorem open_struct {H : Type} {enc : TypeId × Value → H} {P : Program} {w : World} {base b0 : Nat} {spare : Nat → Bool} {held : Bool} {r : Reach} {t : TypeId} {fs : Array Field} {v : Value} {d : DataW H} {p : List MemPlace} {R : Rep α}
    (hs : P.underlying t = some (.struct fs)) (ho : Opens P t R) (hv : Value.okWide P w r b0 t v) (h : DataW.Trod enc P w base spare held t v d p) : ∃ b a, v = .agg b ∧ R.rd w b.toList a := by
 obtain ⟨a, c⟩ := open_rep ho h;unfold Value.okWide at hv;rw [hs] at hv;obtain ⟨b, rfl, _⟩ := hv;exact ⟨b, a, rfl, by simpa [Value.cells] using c⟩
abbrev RepOf {α : Type} (R : Rep α) : Type := α
end
section
variable {α β : Type}
def MadeR (R : Rep α) (w w' : World) (cs : List Value) (a : α) : Prop := R.own w' (rng w.heap.size w'.heap.size) cs a ∧ Below w.heap.size w w'
theorem below_next {w w1 w2 : World} (h : Bl w w1) (h2 : Bl w1 w2) : Bl w w2 := h.trans (h2.mono h.size)
theorem own_stay {R : Rep α} {lo hi D : Nat} {w w1 : World} {cs : List Value} {a : α} (h : R.own w (rng lo hi) cs a) (hb : Below D w w1) (hD : hi ≤ D) : R.own w1 (rng lo hi) cs a :=
 R.own_keep h fun k hk _ => hb.block k (Nat.lt_of_lt_of_le hk.2 hD)
theorem own_chg {R : Rep α} {S T : Foot} {w w1 : World} {cs : List Value} {a : α} (h : R.own w S cs a) (hb : Chg T w w1) (hd : Dis S T) : R.own w1 S cs a := R.own_keep h (hb.keeps hd)
theorem rd_next {R : Rep α} {w w1 : World} {cs : List Value} {a : α} (h : R.rd w cs a) (hb : Bl w w1) : R.rd w1 cs a := R.rd_keep h fun k hk => hb.block k hk
theorem slrd_next {R : Rep α} {w w1 : World} {a : Option Addr} {xs : List α} (h : SlRd R w a xs) (hb : Bl w w1) : SlRd R w1 a xs := slrd_keep h fun k hk => hb.block k hk
def putC (w : World) (g : Nat) : Nat → List Value → World
 | _, [] => w
 | off, c :: cs => putC (w.setCell ⟨g, off, none⟩ c) g (off + 1) cs
theorem set_take_drop (xs : List Value) (off : Nat) (c : Value) (h : off < xs.length) : xs.set off c = xs.take off ++ (c :: xs.drop (off + 1)) := by
 rw [List.set_eq_take_append_cons_drop, if_pos h]
theorem putC_row {base e size g n cap : Nat} : ∀ {cs : List Value} {w : World} {off : Nat} {xs : List Value}, w.ownsRow base e size (sL (some ⟨g, 0, none⟩) n cap) n xs → off + cs.length ≤ n * size →
    (putC w g off cs).ownsRow base e size (sL (some ⟨g, 0, none⟩) n cap) n (xs.take off ++ (cs ++ xs.drop (off + cs.length))) ∧ w.grownBy (putC w g off cs) (some g)
 | [], w, off, xs, h, hl => by
  simp only [putC, List.nil_append, List.length_nil, Nat.add_zero, List.take_append_drop];exact ⟨h, World.grownBy.refl _ _⟩
 | c :: cs, w, off, xs, h, hl => by
  simp only [List.length_cons] at hl;have d : off < xs.length := by have := h.1; omega
  have R := World.ownsRow.stored h off c;have r := putC_row (cs := cs) (off := off + 1) R.1 (by omega);refine ⟨?_, grown_trans R.2 r.2⟩;have b : (xs.set off c).take (off + 1) ++ (cs ++ (xs.set off c).drop (off + 1 + cs.length)) = xs.take off ++ (c :: cs ++ xs.drop (off + (c :: cs).length)) := by
   rw [set_take_drop xs off c d];have a : (xs.take off).length = off := by simp; omega
   rw [List.take_append, List.take_of_length_le (by omega), a, show off + 1 - off = 1 by omega, List.take_succ_cons, List.take_zero, List.drop_append, List.drop_of_length_le (by omega), List.nil_append, a,
    show off + 1 + cs.length - off = cs.length + 1 by omega, List.drop_succ_cons, List.drop_drop]
   simp only [List.length_cons, List.append_assoc, List.cons_append, List.nil_append];rw [show off + 1 + cs.length = off + (cs.length + 1) by omega]
  rw [← b];exact r.1
def Fill (e : TypeId) (R : Rep α) (w0 w : World) (n : Nat) (xs : List α) : Prop :=
 ∃ rows rest, w.ownsRow 0 e R.size (.slice (some ⟨w0.heap.size, 0, none⟩) n n) n (rows ++ rest) ∧ lown R w (rng (w0.heap.size + 1) w.heap.size) rows xs ∧ Below w0.heap.size w0 w ∧ w0.heap.size < w.heap.size
theorem fillR_start {e : TypeId} {R : Rep α} {w0 : World} {n : Nat} {cs : Array Value} (hm : n ≤ maxLen) (hs : cs.size = n * R.size) : Fill e R w0 (w0.alloc (.cells cs e)) n [] :=
 ⟨[], cs.toList, by simpa using World.ownsRow_lit (base := 0) (e := e) (size := R.size) w0 cs n (Nat.zero_le _) hm hs, rfl, (Below.refl _ _).alloc (Nat.le_refl _) _, by simp⟩
theorem fillR_step {e : TypeId} {R : Rep α} {w0 w w1 : World} {n k : Nat} {xs : List α} {c : List Value} {x : α} (h : Fill e R w0 w n xs) (hk : xs.length = k) (hkn : k < n) (hm : MadeR R w w1 c x) :
    (∀ i, i < R.size → ∃ u, w1.cell? ⟨w0.heap.size, k * R.size + i, none⟩ = some u) ∧ (∀ i, w1.frozen? ⟨w0.heap.size, i, none⟩ = false) ∧ Fill e R w0 (putC w1 w0.heap.size (k * R.size) c) n (xs ++ [x]) := by
 obtain ⟨a, rest, v, q, A, l⟩ := h;have hc := R.rd_len (R.own_rd hm.1);have m := lown_len q;rw [hk] at m;have z : k * R.size + R.size ≤ n * R.size := by
  have : (k + 1) * R.size ≤ n * R.size := Nat.mul_le_mul_right _ hkn;rwa [Nat.add_one_mul] at this
 have d : w1.ownsRow 0 e R.size (sL (some ⟨w0.heap.size, 0, none⟩) n n) n (a ++ rest) := orow_keep v fun g hg => by
  simp [Value.ownBlock] at hg
  subst hg;exact hm.2.block _ l
 have p : lown R w1 (rng (w0.heap.size + 1) w.heap.size) a xs := lown_keep q fun j hj _ => hm.2.block j hj.2;obtain ⟨s, f⟩ := putC_row (cs := c) (off := k * R.size) d (by omega);have r := d.1;have o := hm.2.size;refine ⟨fun i hi => ?_, fun i => World.ownsRow.frozenAt d i, a ++ c, (a ++ rest).drop (k * R.size + c.length), ?_, ?_, ?_, ?_⟩
 ·rw [World.ownsRow.cellAt d _ (by omega)];exact ⟨_, List.getElem?_eq_getElem (by omega)⟩
 ·rw [List.append_assoc];rw [List.take_append_of_le_length (by omega), List.take_of_length_le (by omega)] at s;exact s
 ·have b : ∀ j, j ≠ w0.heap.size → j < w1.heap.size → (putC w1 w0.heap.size (k * R.size) c).heap[j]? = w1.heap[j]? := fun j hj hlj => f.block j hlj (fun e => hj (by simpa using e));have y : R.own (putC w1 w0.heap.size (k * R.size) c) (rng w.heap.size w1.heap.size) c x := R.own_keep hm.1 fun j hj hlj => b j (by have := hj.1; omega) hlj;have B : lown R (putC w1 w0.heap.size (k * R.size) c) (rng (w0.heap.size + 1) w.heap.size) a xs := lown_keep p fun j hj hlj => b j (by have := hj.1; omega) hlj;exact lown_push B y (rng_dis (.inl (Nat.le_refl _))) (rng_sub (Nat.le_refl _) (Nat.le_trans o f.size)) (rng_sub (by omega) f.size)
 ·exact (below_next A hm.2).grown f (by omega) (fun j hj => by cases hj; exact Nat.le_refl _)
 ·have := f.size;omega
theorem fillR_end {e : TypeId} {R : Rep α} {w0 w : World} {n : Nat} {xs : List α} (h : Fill e R w0 w n xs) (hn : xs.length = n) : MadeR (slR e R) w0 w [sL (some ⟨w0.heap.size, 0, none⟩) xs.length n] xs := by
 obtain ⟨a, rest, c, i, j, d⟩ := h;have f := lown_len i;have b := c.1;have : rest = [] := by
  rw [hn] at f;rw [List.length_append] at b;exact List.eq_nil_of_length_eq_zero (by omega)
 subst this;rw [List.append_nil] at c;refine ⟨⟨_, a, rng (w0.heap.size + 1) w.heap.size, rfl, by rw [hn]; exact c, fun g hg => ?_, rng_sub (by omega) (Nat.le_refl _), i⟩, j⟩;simp [Value.ownBlock] at hg
 subst hg;exact ⟨⟨Nat.le_refl _, d⟩, fun h => by have := h.1; omega⟩
end
end Go.Proofs.YtdamokokcdcedaaGreatDoor
