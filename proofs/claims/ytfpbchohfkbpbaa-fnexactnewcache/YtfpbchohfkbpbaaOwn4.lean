/- What a call makes: whatever is laid in cells, in new memory alone; a row that is filled one by one, or appended to. No program here. -/
import Derived.Test.YtfpbchohfkbpbaaOwn2
import Derived.Test.YtfpbchohfkbpbaaLists
namespace Go.Proofs.Ytfpbchohfkbpbaa
open Go.ChangeShapes Go.WideShapes Go.ChangeAt Go.RowKit
set_option linter.unusedVariables false

section
variable {α β : Type}

def MadeR (R : Rep α) (w w' : World) (cs : List Value) (a : α) : Prop := R.own w' (rng w.heap.size w'.heap.size) cs a ∧ Below w.heap.size w w'

theorem below_next {w w1 w2 : World} (h : Below w.heap.size w w1) (h2 : Below w1.heap.size w1 w2) : Below w.heap.size w w2 := h.trans (h2.mono h.size)
theorem madeR_step {R : Rep α} {w w1 w2 : World} {cs : List Value} {a : α} (h : Below w.heap.size w w1) (h2 : MadeR R w1 w2 cs a) : MadeR R w w2 cs a :=
  ⟨R.own_mono h2.1 (rng_sub h.size (Nat.le_refl _)), below_next h h2.2⟩
theorem own_next {R : Rep α} {lo : Nat} {w w1 : World} {cs : List Value} {a : α} (h : R.own w (rng lo w.heap.size) cs a) (hb : Below w.heap.size w w1) : R.own w1 (rng lo w.heap.size) cs a :=
  R.own_keep h fun k hk _ => hb.block k hk.2
theorem own_stay {R : Rep α} {lo hi D : Nat} {w w1 : World} {cs : List Value} {a : α} (h : R.own w (rng lo hi) cs a) (hb : Below D w w1) (hD : hi ≤ D) : R.own w1 (rng lo hi) cs a :=
  R.own_keep h fun k hk _ => hb.block k (Nat.lt_of_lt_of_le hk.2 hD)
theorem own_chg {R : Rep α} {S T : Foot} {w w1 : World} {cs : List Value} {a : α} (h : R.own w S cs a) (hb : Chg T w w1) (hd : Dis S T) : R.own w1 S cs a := R.own_keep h (hb.keeps hd)
theorem rd_next {R : Rep α} {w w1 : World} {cs : List Value} {a : α} (h : R.rd w cs a) (hb : Below w.heap.size w w1) : R.rd w1 cs a := R.rd_keep h fun k hk => hb.block k hk
theorem slrd_next {R : Rep α} {w w1 : World} {a : Option Addr} {xs : List α} (h : SlRd R w a xs) (hb : Below w.heap.size w w1) : SlRd R w1 a xs := slrd_keep h fun k hk => hb.block k hk

/- Cells that are laid one behind the other. -/
def putC (w : World) (g : Nat) : Nat → List Value → World
  | _, [] => w
  | off, c :: cs => putC (w.setCell ⟨g, off, none⟩ c) g (off + 1) cs

theorem set_take_drop (xs : List Value) (off : Nat) (c : Value) (h : off < xs.length) : xs.set off c = xs.take off ++ (c :: xs.drop (off + 1)) := by
  rw [List.set_eq_take_append_cons_drop, if_pos h]

theorem putC_row {base e size g n cap : Nat} : ∀ {cs : List Value} {w : World} {off : Nat} {xs : List Value}, w.ownsRow base e size (.slice (some ⟨g, 0, none⟩) n cap) n xs → off + cs.length ≤ n * size →
    (putC w g off cs).ownsRow base e size (.slice (some ⟨g, 0, none⟩) n cap) n (xs.take off ++ (cs ++ xs.drop (off + cs.length))) ∧ w.grownBy (putC w g off cs) (some g)
  | [], w, off, xs, h, hl => by
    simp only [putC, List.nil_append, List.length_nil, Nat.add_zero, List.take_append_drop]
    exact ⟨h, World.grownBy.refl _ _⟩
  | c :: cs, w, off, xs, h, hl => by
    simp only [List.length_cons] at hl
    have hx : off < xs.length := by have := h.1; omega
    have R := World.ownsRow.stored h off c
    have r := putC_row (cs := cs) (off := off + 1) R.1 (by omega)
    refine ⟨?_, grown_trans R.2 r.2⟩
    have e1 : (xs.set off c).take (off + 1) ++ (cs ++ (xs.set off c).drop (off + 1 + cs.length)) = xs.take off ++ (c :: cs ++ xs.drop (off + (c :: cs).length)) := by
      rw [set_take_drop xs off c hx]
      have hl2 : (xs.take off).length = off := by simp; omega
      rw [List.take_append, List.take_of_length_le (by omega), hl2, show off + 1 - off = 1 by omega, List.take_succ_cons, List.take_zero, List.drop_append, List.drop_of_length_le (by omega), List.nil_append, hl2,
        show off + 1 + cs.length - off = cs.length + 1 by omega, List.drop_succ_cons, List.drop_drop]
      simp only [List.length_cons, List.append_assoc, List.cons_append, List.nil_append]
      rw [show off + 1 + cs.length = off + (cs.length + 1) by omega]
    rw [← e1]
    exact r.1

/- A row of n that is made at once and filled one by one: xs are there, rest is still as it was made. -/
def Fill (e : TypeId) (R : Rep α) (w0 w : World) (n : Nat) (xs : List α) : Prop :=
  ∃ rows rest, w.ownsRow 0 e R.size (.slice (some ⟨w0.heap.size, 0, none⟩) n n) n (rows ++ rest) ∧ lown R w (rng (w0.heap.size + 1) w.heap.size) rows xs ∧ Below w0.heap.size w0 w ∧ w0.heap.size < w.heap.size

theorem fillR_start {e : TypeId} {R : Rep α} {w0 : World} {n : Nat} {cs : Array Value} (hm : n ≤ maxLen) (hs : cs.size = n * R.size) : Fill e R w0 (w0.alloc (.cells cs e)) n [] :=
  ⟨[], cs.toList, by simpa using World.ownsRow_lit (base := 0) (e := e) (size := R.size) w0 cs n (Nat.zero_le _) hm hs, rfl, (Below.refl _ _).alloc (Nat.le_refl _) _, by simp⟩

theorem fillR_step {e : TypeId} {R : Rep α} {w0 w w1 : World} {n k : Nat} {xs : List α} {c : List Value} {x : α} (h : Fill e R w0 w n xs) (hk : xs.length = k) (hkn : k < n) (hm : MadeR R w w1 c x) :
    (∀ i, i < R.size → ∃ u, w1.cell? ⟨w0.heap.size, k * R.size + i, none⟩ = some u) ∧ (∀ i, w1.frozen? ⟨w0.heap.size, i, none⟩ = false) ∧ Fill e R w0 (putC w1 w0.heap.size (k * R.size) c) n (xs ++ [x]) := by
  obtain ⟨rows, rest, hr, hl, hb, hlt⟩ := h
  have hc := R.rd_len (R.own_rd hm.1)
  have hrl := lown_len hl
  rw [hk] at hrl
  have hle : k * R.size + R.size ≤ n * R.size := by
    have : (k + 1) * R.size ≤ n * R.size := Nat.mul_le_mul_right _ hkn
    rwa [Nat.add_one_mul] at this
  have hr1 : w1.ownsRow 0 e R.size (.slice (some ⟨w0.heap.size, 0, none⟩) n n) n (rows ++ rest) := orow_keep hr fun g hg => by
    simp [Value.ownBlock] at hg
    subst hg
    exact hm.2.block _ hlt
  have hl1 : lown R w1 (rng (w0.heap.size + 1) w.heap.size) rows xs := lown_keep hl fun j hj _ => hm.2.block j hj.2
  obtain ⟨p1, p2⟩ := putC_row (cs := c) (off := k * R.size) hr1 (by omega)
  have hlen := hr1.1
  have hsz := hm.2.size
  refine ⟨fun i hi => ?_, fun i => World.ownsRow.frozenAt hr1 i, rows ++ c, (rows ++ rest).drop (k * R.size + c.length), ?_, ?_, ?_, ?_⟩
  · rw [World.ownsRow.cellAt hr1 _ (by omega)]
    exact ⟨_, List.getElem?_eq_getElem (by omega)⟩
  · rw [List.append_assoc]
    rw [List.take_append_of_le_length (by omega), List.take_of_length_le (by omega)] at p1
    exact p1
  · have hkeep : ∀ j, j ≠ w0.heap.size → j < w1.heap.size → (putC w1 w0.heap.size (k * R.size) c).heap[j]? = w1.heap[j]? := fun j hj hlj => p2.block j hlj (fun e => hj (by simpa using e))
    have o1 : R.own (putC w1 w0.heap.size (k * R.size) c) (rng w.heap.size w1.heap.size) c x := R.own_keep hm.1 fun j hj hlj => hkeep j (by have := hj.1; omega) hlj
    have l1 : lown R (putC w1 w0.heap.size (k * R.size) c) (rng (w0.heap.size + 1) w.heap.size) rows xs := lown_keep hl1 fun j hj hlj => hkeep j (by have := hj.1; omega) hlj
    exact lown_push l1 o1 (rng_dis (.inl (Nat.le_refl _))) (rng_sub (Nat.le_refl _) (Nat.le_trans hsz p2.size)) (rng_sub (by omega) p2.size)
  · exact (below_next hb hm.2).grown p2 (by omega) (fun j hj => by cases hj; exact Nat.le_refl _)
  · have := p2.size
    omega

theorem fillR_end {e : TypeId} {R : Rep α} {w0 w : World} {n : Nat} {xs : List α} (h : Fill e R w0 w n xs) (hn : xs.length = n) : MadeR (slR e R) w0 w [.slice (some ⟨w0.heap.size, 0, none⟩) xs.length n] xs := by
  obtain ⟨rows, rest, hr, hl, hb, hlt⟩ := h
  have hrl := lown_len hl
  have hlen := hr.1
  have : rest = [] := by
    rw [hn] at hrl
    rw [List.length_append] at hlen
    exact List.eq_nil_of_length_eq_zero (by omega)
  subst this
  rw [List.append_nil] at hr
  refine ⟨⟨_, rows, rng (w0.heap.size + 1) w.heap.size, rfl, by rw [hn]; exact hr, fun g hg => ?_, rng_sub (by omega) (Nat.le_refl _), hl⟩, hb⟩
  simp [Value.ownBlock] at hg
  subst hg
  exact ⟨⟨Nat.le_refl _, hlt⟩, fun h => by have := h.1; omega⟩

/- A row that grows by append. -/
theorem slown_row {e : TypeId} {R : Rep α} {lo hi : Nat} {w : World} {v : Value} {xs : List α} (h : (slR e R).own w (rng lo hi) [v] xs) : ∃ rows, w.ownsRow lo e R.size v xs.length rows ∧ rows.length = xs.length * R.size := by
  obtain ⟨v', rows, S', hv, hr, hg, hs, hl⟩ := h
  simp only [List.cons.injEq, and_true] at hv
  subst hv
  exact ⟨rows, row_base hr fun g h => (hg g h).1.1, lown_len hl⟩

theorem appR_step {e : TypeId} {R : Rep α} {w0 w w1 w2 : World} {o : Obj} {v v' : Value} {xs : List α} {c : List Value} {x : α} (hty : e ∉ R.tys) (h : MadeR (slR e R) w0 w [v] xs) (hm : MadeR R w w1 c x)
    (happ : ∀ rows, w.ownsRow w0.heap.size e R.size v xs.length rows → w2.ownsRow w0.heap.size e R.size v' (xs.length + 1) (rows ++ c)) (hg : (w1.alloc o).grownBy w2 v.ownBlock) : MadeR (slR e R) w0 w2 [v'] (xs ++ [x]) := by
  obtain ⟨⟨v1, rows, S', hv, hr, hgg, hs, hl⟩, hb⟩ := h
  simp only [List.cons.injEq, and_true] at hv
  subst hv
  have hr0 := row_base (base' := w0.heap.size) hr fun g h => (hgg g h).1.1
  have hr2 := happ rows hr0
  have s1 := hm.2.size
  have s0 := hb.size
  have s2 : w1.heap.size + 1 ≤ w2.heap.size := by have := hg.size; simpa using this
  have lt := lown_tight hl
  have ot := R.own_tight hm.1
  have keepw : ∀ k, k < w1.heap.size → v.ownBlock ≠ some k → w2.heap[k]? = w1.heap[k]? := fun k hk hne => by
    rw [hg.block k (by simp; omega) (fun e => hne e.symm), Below.heap_alloc w1 o k hk]
  have L2 : lown R w2 (fun k => S' k ∧ ∃ cur t, t ∈ R.tys ∧ w.heap[k]? = some (.cells cur t (0, 0))) rows xs := lown_keep lt fun k hk hlk => by
    rw [keepw k (by omega) (fun e => (hgg k e).2 hk.1), hm.2.block k hlk]
  have O2 : R.own w2 (fun k => rng w.heap.size w1.heap.size k ∧ ∃ cur t, t ∈ R.tys ∧ w1.heap[k]? = some (.cells cur t (0, 0))) c x := R.own_keep ot fun k hk hlk =>
    keepw k hlk (fun e => by have := (hgg k e).1.2; have := hk.1.1; omega)
  refine ⟨⟨v', rows ++ c, (fun k => (S' k ∧ ∃ cur t, t ∈ R.tys ∧ w.heap[k]? = some (.cells cur t (0, 0))) ∨ (rng w.heap.size w1.heap.size k ∧ ∃ cur t, t ∈ R.tys ∧ w1.heap[k]? = some (.cells cur t (0, 0)))), rfl, by rw [List.length_append]; exact row_base hr2 (fun _ _ => Nat.zero_le _), fun g hg' => ?_, ?_, lown_push L2 O2 ?_ (fun k h => .inl h) (fun k h => .inr h)⟩, ?_⟩
  · obtain ⟨cur, hcur⟩ := row_block hr2 hg'
    have hin := World.ownsRow.lt hr2 g hg'
    refine ⟨⟨hin.1, hin.2⟩, ?_⟩
    rintro (⟨h1, cur', t, ht, hh⟩ | ⟨h1, cur', t, ht, hh⟩)
    · have hlk : g < w.heap.size := (Array.getElem?_eq_some_iff.1 hh).1
      have : w2.heap[g]? = w.heap[g]? := by rw [keepw g (by omega) (fun e => (hgg g e).2 h1), hm.2.block g hlk]
      rw [hcur, hh] at this
      simp at this
      rw [this.2] at hty
      exact hty ht
    · have hlk : g < w1.heap.size := (Array.getElem?_eq_some_iff.1 hh).1
      have : w2.heap[g]? = w1.heap[g]? := keepw g hlk (fun e => by have := (hgg g e).1.2; have := h1.1; omega)
      rw [hcur, hh] at this
      simp at this
      rw [this.2] at hty
      exact hty ht
  · rintro k (⟨h1, _⟩ | ⟨h1, _⟩)
    · have := hs k h1
      exact ⟨this.1, by have := this.2; omega⟩
    · exact ⟨by have := h1.1; omega, by have := h1.2; omega⟩
  · rintro k ⟨h1, _⟩ ⟨h2, _⟩
    have := (hs k h1).2
    have := h2.1
    omega
  · exact ((below_next hb hm.2).alloc (by omega) o).grown hg (by simp; omega) (fun k hk => (hgg k hk).1.1)

end
end Go.Proofs.Ytfpbchohfkbpbaa
