
/- One struct appended to a list that is the call's own. No program here. -/
import Derived.Test.YtpfgggjcaogkkaaAppGen
namespace Go.Proofs.Ytpfgggjcaogkkaa
open Go.ChangeShapes Go.WideShapes Go.ChangeAt Go.RowKit
set_option linter.unusedVariables false
variable {α : Type}
/-- Append where what is appended is owned beside the row. -/
theorem appR_sep {base : Nat} {e : TypeId} {R : Rep α} {S T : Foot} {w w2 : World} {o : Obj} {v v' : Value} {xs : List α} {c : List Value} {x : α} (hty : e ∉ R.tys) (h : (slR e R).own w S [v] xs) (hx : R.own w T c x) (hd : Dis S T) (hSb : ∀ k, S k → base ≤ k) (hTb : ∀ k, T k → base ≤ k)
    (happ : ∀ rows, w.ownsRow base e R.size v xs.length rows → w2.ownsRow base e R.size v' (xs.length + 1) (rows ++ c)) (hg : (w.alloc o).grownBy w2 v.ownBlock) :
    (slR e R).own w2 (rng base w2.heap.size) [v'] (xs ++ [x]) ∧ Chg (Old w S) w w2 := by
  obtain ⟨v1, rows, S', hv, hr, hgg, hs, hl⟩ := own_old h
  simp only [List.cons.injEq, and_true] at hv
  subst hv
  have hr2 := happ rows (row_base hr fun g h => hSb g (hgg g h).1.1)
  have hx := R.own_tight (own_old hx)
  have lt := lown_tight hl
  have s2 : w.heap.size + 1 ≤ w2.heap.size := by have := hg.size; simpa using this
  have keepw : ∀ k, k < w.heap.size → v.ownBlock ≠ some k → w2.heap[k]? = w.heap[k]? := fun k hk hne => by
    rw [hg.block k (by simp; omega) (fun e => hne e.symm), Below.heap_alloc w o k hk]
  have L2 := lown_keep (w' := w2) lt fun k hk hlk => keepw k hlk (fun e => (hgg k e).2 hk.1)
  have O2 := R.own_keep (w' := w2) hx fun k hk hlk => keepw k hlk (fun e => hd k (hgg k e).1.1 hk.1.1)
  refine ⟨⟨v', rows ++ c, (fun k => (S' k ∧ ∃ cur t, t ∈ R.tys ∧ w.heap[k]? = some (.cells cur t (0, 0))) ∨ (Old w T k ∧ ∃ cur t, t ∈ R.tys ∧ w.heap[k]? = some (.cells cur t (0, 0)))), rfl, by rw [List.length_append]; exact row_base hr2 (fun _ _ => Nat.zero_le _), fun g hg' => ?_, ?_, lown_push L2 O2 ?_ (fun k h => .inl h) (fun k h => .inr h)⟩, ?_⟩
  · obtain ⟨cur, hcur⟩ := row_block hr2 hg'
    have hin := World.ownsRow.lt hr2 g hg'
    refine ⟨⟨hin.1, hin.2⟩, ?_⟩
    have key : (∃ cur t, t ∈ R.tys ∧ w.heap[g]? = some (.cells cur t (0, 0))) → v.ownBlock ≠ some g → False := by
      rintro ⟨cur', t, ht, hh⟩ hne
      have hlk : g < w.heap.size := (Array.getElem?_eq_some_iff.1 hh).1
      have := keepw g hlk hne
      rw [hcur, hh] at this
      simp at this
      rw [this.2] at hty
      exact hty ht
    rintro (⟨h1, h2⟩ | ⟨h1, h2⟩)
    · exact key h2 (fun e => (hgg g e).2 h1)
    · exact key h2 (fun e => hd g (hgg g e).1.1 h1.1)
  · rintro k (⟨h1, _⟩ | ⟨h1, _⟩)
    · exact ⟨hSb k (hs k h1).1, by have := (hs k h1).2; omega⟩
    · exact ⟨hTb k h1.1, by have := h1.2; omega⟩
  · rintro k ⟨h1, _⟩ ⟨h2, _⟩
    exact hd k (hs k h1).1 h2.1
  · exact ⟨hg.os, hg.tape, hg.output, by omega, fun k hk hn => keepw k hk (fun e => hn (hgg k e).1)⟩
/-- append(list, x): the element's cells lie in the literal that was just laid. -/
theorem wpList_push {P : Program} {w : World} {ops : Array Oper} {rest : List Oper} {o : Oper} {a : Act} {Q : Exit → Act → World → Prop} (hgd : o.guard = none) (s x : Operand) (t : TypeId)
    (ho : o.op = .call { callee := .builtin .append, args := #[s, x], argTypes := #[t, t] })
    (R : Rep α) (e : TypeId) (i : TypeInfo) (z : Value) (bytes : Nat) (ht : P.underlying t = some (.slice e)) (hi : P.info? e = some i) (hz : i.zero = some z) (hsize : i.size = R.size) (hby : i.bytes = bytes) (hzs : z.cells.size = R.size) (hsz : 0 < R.size) (hty : e ∉ R.tys)
    (base : Nat) (S T : Foot) (v : Value) (xs : List α) (c : List Value) (y : α) (cc : Nat) (hs : a.eval s = v) (qb : Nat) (hx : a.eval x = .slice (some ⟨qb, 0, none⟩) 1 cc) (hq : qb = w.heap.size)
    (h : (slR e R).own w S [v] xs) (hy : R.own w T c y) (hd : Dis S T) (hSb : ∀ k, S k → base ≤ k) (hTb : ∀ k, T k → base ≤ k) (hb : base ≤ w.heap.size) (hone : ∀ u ∈ c, u.oneCell' = true) (hlen : xs.length + 1 ≤ maxLen) (hbytes : (xs.length + 1) * bytes ≤ 140737488355328)
    (k : ∀ g' cap' w2, (slR e R).own w2 (rng base w2.heap.size) [.slice (some ⟨g', 0, none⟩) (xs.length + 1) cap'] (xs ++ [y]) → Chg (Old w S) w w2 → wpList P ops Q rest (a.put o.dst (.slice (some ⟨g', 0, none⟩) (xs.length + 1) cap')) w2) :
    wpList P ops Q (o :: rest) a (w.alloc (.cells c.toArray e)) := by
  subst hq
  have h0 := h
  obtain ⟨v1, rows, S', hv, hr, hgg, hs', hl⟩ := h0
  simp only [List.cons.injEq, and_true] at hv
  subst hv
  have hr0 : w.ownsRow base e R.size v xs.length rows := row_base hr fun g hg => hSb g (hgg g hg).1
  have hrA : (w.alloc (.cells c.toArray e)).ownsRow base e R.size v xs.length rows := orow_keep hr0 fun g hg => by
    have hl := World.ownsRow.lt hr0 g hg
    rw [Below.heap_alloc _ _ _ hl.2]
  have hcl : c.length = 1 * R.size := by rw [R.rd_len (R.own_rd hy)]; omega
  refine wpList_append_own (w.alloc (.cells c.toArray e)) hgd s x t ho base e i z R.size bytes ht hi hz hsize hby hzs hsz v xs.length rows hs hrA ⟨w.heap.size, 0, none⟩ 1 cc c hx hcl (cells_news w c e) hone hlen hbytes (by simp; omega) ?_
  intro v' w9 hown' hgrow hnil
  obtain ⟨g', cap', rfl⟩ := owns_shape hown'
  obtain ⟨N1, N2⟩ := appR_sep (base := base) (e := e) (R := R) hty h hy hd hSb hTb (fun rows2 hr2 => by rw [rows_unique hr2 hr0]; exact hown') hgrow
  exact k _ _ _ N1 N2
end Go.Proofs.Ytpfgggjcaogkkaa
