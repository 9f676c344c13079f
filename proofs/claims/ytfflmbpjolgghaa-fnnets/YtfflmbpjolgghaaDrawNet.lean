/- The draw of a net: some net of at most 61 letters is drawn, in new memory, and nothing that was there turns but the cursor. Conditions: the bytes are at most 2^61. -/
import Derived.Test.YtfflmbpjolgghaaDrawMsg
import Derived.Test.YtfflmbpjolgghaaSpecSent
namespace Go.Proofs.Ytfflmbpjolgghaa
open Go.ChangeShapes Go.WideShapes Go.ChangeAt Go.RowKit
set_option linter.unusedVariables false

section
variable {α : Type}
/-- Append where what is appended is owned beside the row. -/
theorem appR_sep {base : Nat} {e : TypeId} {R : Rep α} {S T : Foot} {w w2 : World} {o : Obj} {v v' : Value} {xs : List α} {c : List Value} {x : α} (hty : e ∉ R.tys) (h : (slR e R).own w S [v] xs) (hx : R.own w T c x) (hd : Dis S T) (hSb : ∀ k, S k → base ≤ k) (hTb : ∀ k, T k → base ≤ k)
    (happ : ∀ rows, w.ownsRow base e R.size v xs.length rows → w2.ownsRow base e R.size v' (xs.length + 1) (rows ++ c)) (hg : (w.alloc o).grownBy w2 v.ownBlock) :
    (slR e R).own w2 (rng base w2.heap.size) [v'] (xs ++ [x]) ∧ Chg (Old w S) w w2 := by
  obtain ⟨v1, rows, S', hv, hr, hgg, hs, hl⟩ := own_old h
  simp only [List.cons.injEq, and_true] at hv
  subst hv
  have hr2 := happ rows (row_base hr fun g h => hSb g (hgg g h).1.1)
  have hx := R.own_tight (own_old hx)
  have lt := lown_tight hl
  have s2 : w.heap.size + 1 ≤ w2.heap.size := by have := hg.size; simpa using this
  have keepw : ∀ k, k < w.heap.size → v.ownBlock ≠ some k → w2.heap[k]? = w.heap[k]? := fun k hk hne => by
    rw [hg.block k (by simp; omega) (fun e => hne e.symm), Below.heap_alloc w o k hk]
  have L2 := lown_keep (w' := w2) lt fun k hk hlk => keepw k hlk (fun e => (hgg k e).2 hk.1)
  have O2 := R.own_keep (w' := w2) hx fun k hk hlk => keepw k hlk (fun e => hd k (hgg k e).1.1 hk.1.1)
  refine ⟨⟨v', rows ++ c, (fun k => (S' k ∧ ∃ cur t, t ∈ R.tys ∧ w.heap[k]? = some (.cells cur t (0, 0))) ∨ (Old w T k ∧ ∃ cur t, t ∈ R.tys ∧ w.heap[k]? = some (.cells cur t (0, 0)))), rfl, by rw [List.length_append]; exact row_base hr2 (fun _ _ => Nat.zero_le _), fun g hg' => ?_, ?_, lown_push L2 O2 ?_ (fun k h => .inl h) (fun k h => .inr h)⟩, ?_⟩
  · obtain ⟨cur, hcur⟩ := row_block hr2 hg'
    have hin := World.ownsRow.lt hr2 g hg'
    refine ⟨⟨hin.1, hin.2⟩, ?_⟩
    have key : (∃ cur t, t ∈ R.tys ∧ w.heap[g]? = some (.cells cur t (0, 0))) → v.ownBlock ≠ some g → False := by
      rintro ⟨cur', t, ht, hh⟩ hne
      have hlk : g < w.heap.size := (Array.getElem?_eq_some_iff.1 hh).1
      have := keepw g hlk hne
      rw [hcur, hh] at this
      simp at this
      rw [this.2] at hty
      exact hty ht
    rintro (⟨h1, h2⟩ | ⟨h1, h2⟩)
    · exact key h2 (fun e => (hgg g e).2 h1)
    · exact key h2 (fun e => hd g (hgg g e).1.1 h1.1)
  · rintro k (⟨h1, _⟩ | ⟨h1, _⟩)
    · exact ⟨hSb k (hs k h1).1, by have := (hs k h1).2; omega⟩
    · exact ⟨hTb k h1.1, by have := h1.2; omega⟩
  · rintro k ⟨h1, _⟩ ⟨h2, _⟩
    exact hd k (hs k h1).1 h2.1
  · exact ⟨hg.os, hg.tape, hg.output, by omega, fun k hk hn => keepw k hk (fun e => hn (hgg k e).1)⟩
end

/-- A net that is being drawn. -/
structure DNet (B g : Nat) (w wr : World) (hi : Nat) (v : Value) (xs : List MsgD) : Prop where
  own : msgsR.own wr (rng w.heap.size hi) [v] xs
  top : hi ≤ wr.heap.size
  dl : ∀ u ∈ xs, u.2.2.2.2.2.1.length ≤ 3
  cur : Cur B wr g
  chg : Chg (fun b => b = g) w wr
  lt : g < w.heap.size ∧ B ≤ g
theorem dn_step {B g hi : Nat} {w wr w' : World} {v : Value} {xs : List MsgD} (h : DNet B g w wr hi v xs) (hc : Chg (fun b => b = g) wr w') (hcur : Cur B w' g) : DNet B g w w' hi v xs :=
  ⟨own_chg h.own hc (fun j hj e => by have := hj.1; have := h.lt; omega), Nat.le_trans h.top hc.size, h.dl, hcur, h.chg.trans hc, h.lt⟩
theorem dn_grown {B g hi : Nat} {w wr w' : World} {v : Value} {xs : List MsgD} (h : DNet B g w wr hi v xs) (hg : wr.grownBy w' (some g)) (hcur : Cur B w' g) : DNet B g w w' hi v xs := dn_step h (chg_grown hg rfl) hcur
theorem dn_below {B g hi : Nat} {w wr w' : World} {v : Value} {xs : List MsgD} (h : DNet B g w wr hi v xs) (hb : Below wr.heap.size wr w') : DNet B g w w' hi v xs :=
  dn_step h (chg_below hb) (cur_chg (S := fun _ => False) h.cur (chg_below hb) (fun _ h => h.elim) (by have := h.lt; have := h.chg.size; omega))
/-- A box above the net's memory is written into. -/
theorem dn_set {B g hi mb o : Nat} {w wr : World} {v u : Value} {xs : List MsgD} (h : DNet B g w wr hi v xs) (hm : hi ≤ mb) (hw : w.heap.size ≤ mb) : DNet B g w (wr.setCell ⟨mb, o, none⟩ u) hi v xs := by
  have hl := h.lt
  have c1 : Chg (fun b => b = mb) wr (wr.setCell ⟨mb, o, none⟩ u) := ⟨rfl, rfl, rfl, by simp, fun j _ hj => heap_setCell_other wr ⟨mb, o, none⟩ j _ hj⟩
  have hs := h.chg.size
  refine ⟨own_chg h.own c1 (fun j hj e => by have := hj.2; omega), Nat.le_trans h.top c1.size, h.dl, cur_chg h.cur c1 (fun k hk => by omega) (by omega), ?_, hl⟩
  exact ⟨c1.os.trans h.chg.os, c1.tape.trans h.chg.tape, c1.output.trans h.chg.output, Nat.le_trans hs c1.size, fun j hj hn => (c1.block j (by omega) (by omega)).trans (h.chg.block j hj hn)⟩
theorem dn_none {B g : Nat} {w wr : World} (hcur : Cur B wr g) (hc : Chg (fun b => b = g) w wr) (hl : g < w.heap.size ∧ B ≤ g) : DNet B g w (wr.alloc (.cells #[] 27)) (wr.heap.size + 1) (.slice (some ⟨wr.heap.size, 0, none⟩) 0 0) [] := by
  have M := made_none (e := 27) (R := msgR) wr
  exact ⟨msgsR.own_mono M.1 (rng_sub hc.size (by simp)), by simp, by simp, cur_alloc hcur _, hc.trans (chg_below M.2), hl⟩
theorem dn_app {B g hi lo2 hi2 : Nat} {w wr w2 : World} {o : Obj} {v v' : Value} {xs : List MsgD} {c : List Value} {x : MsgD} (h : DNet B g w wr hi v xs) (hx : msgR.own wr (rng lo2 hi2) c x) (hlo : hi ≤ lo2) (hlw : w.heap.size ≤ lo2) (hdl : x.2.2.2.2.2.1.length ≤ 3)
    (happ : ∀ rows, wr.ownsRow w.heap.size 27 7 v xs.length rows → w2.ownsRow w.heap.size 27 7 v' (xs.length + 1) (rows ++ c)) (hg : (wr.alloc o).grownBy w2 v.ownBlock) : DNet B g w w2 w2.heap.size v' (xs ++ [x]) := by
  obtain ⟨N1, N2⟩ := appR_sep (base := w.heap.size) (e := 27) (R := msgR) (by decide) h.own hx (rng_dis (.inl hlo)) (fun k hk => hk.1) (fun k hk => Nat.le_trans hlw hk.1) happ hg
  have hs := N2.size
  have hws := h.chg.size
  refine ⟨N1, Nat.le_refl _, ?_, cur_chg h.cur N2 (fun k hk => ?_) (by have := h.lt; omega), ?_, h.lt⟩
  · intro u hu
    rcases List.mem_append.1 hu with hu | hu
    · exact h.dl u hu
    · simp at hu
      subst hu
      exact hdl
  · have h1 : w.heap.size ≤ k := hk.1.1
    have := h.lt
    omega
  · exact ⟨N2.os.trans h.chg.os, N2.tape.trans h.chg.tape, N2.output.trans h.chg.output, by omega, fun j hj hn => (N2.block j (by omega) (fun hk => by have h1 : w.heap.size ≤ j := hk.1.1; omega)).trans (h.chg.block j hj hn)⟩
end Go.Proofs.Ytfflmbpjolgghaa
