
/- A row that is owned among others, appended to, of any make. No program here. -/
import Derived.Test.YtpfgggjcaogkkaaBoxes
import Derived.Maps.AppendAt
namespace Go.Proofs.Ytpfgggjcaogkkaa
open Go.ChangeShapes Go.WideShapes Go.ChangeAt Go.RowKit
set_option linter.unusedVariables false

/-- What lies in a world, of a foot. -/
def Old (w : World) (S : Foot) : Foot := fun k => S k ∧ k < w.heap.size
theorem own_old {α : Type} {R : Rep α} {w : World} {S : Foot} {cs : List Value} {x : α} (h : R.own w S cs x) : R.own w (Old w S) cs x :=
  R.own_mono (R.own_tight h) fun k hk => ⟨hk.1, by obtain ⟨_, cur, t, _, hh⟩ := hk; exact (Array.getElem?_eq_some_iff.1 hh).1⟩
theorem old_sub {w : World} {S : Foot} : Sub (Old w S) S := fun _ h => h.1
theorem own_box {α : Type} {R : Rep α} {w : World} {S : Foot} {cs : List Value} {x : α} (o : Obj) (h : R.own w S cs x) : R.own (w.alloc o) S cs x := R.own_keep h fun k _ hl => Below.heap_alloc w o k hl
section
variable {α : Type}
theorem appR_any {e : TypeId} {R : Rep α} {S : Foot} {w w1 w2 : World} {o : Obj} {v v' : Value} {xs : List α} {c : List Value} {x : α} (hty : e ∉ R.tys) (h : (slR e R).own w S [v] xs) (hm : MadeR R w w1 c x)
    (happ : ∀ rows, w.ownsRow 0 e R.size v xs.length rows → w2.ownsRow 0 e R.size v' (xs.length + 1) (rows ++ c)) (hg : (w1.alloc o).grownBy w2 v.ownBlock) (hb : v'.ownBlock = v.ownBlock ∨ ∃ k, v'.ownBlock = some k ∧ w.heap.size ≤ k) :
    (slR e R).own w2 (fun k => Old w S k ∨ w.heap.size ≤ k) [v'] (xs ++ [x]) ∧ Chg (Old w S) w w2 := by
  obtain ⟨v1, rows, S', hv, hr, hgg, hs, hl⟩ := own_old h
  simp only [List.cons.injEq, and_true] at hv
  subst hv
  have hr2 := happ rows hr
  have s1 := hm.2.size
  have s2 : w1.heap.size + 1 ≤ w2.heap.size := by have := hg.size; simpa using this
  have lt := lown_tight hl
  have ot := R.own_tight hm.1
  have keepw : ∀ k, k < w1.heap.size → v.ownBlock ≠ some k → w2.heap[k]? = w1.heap[k]? := fun k hk hne => by
    rw [hg.block k (by simp; omega) (fun e => hne e.symm), Below.heap_alloc w1 o k hk]
  have L2 : lown R w2 (fun k => S' k ∧ ∃ cur t, t ∈ R.tys ∧ w.heap[k]? = some (.cells cur t (0, 0))) rows xs := lown_keep lt fun k hk hlk => by
    rw [keepw k (by omega) (fun e => (hgg k e).2 hk.1), hm.2.block k hlk]
  have O2 : R.own w2 (fun k => rng w.heap.size w1.heap.size k ∧ ∃ cur t, t ∈ R.tys ∧ w1.heap[k]? = some (.cells cur t (0, 0))) c x := R.own_keep ot fun k hk hlk =>
    keepw k hlk (fun e => by have := (hgg k e).1.2; have := hk.1.1; omega)
  refine ⟨⟨v', rows ++ c, (fun k => (S' k ∧ ∃ cur t, t ∈ R.tys ∧ w.heap[k]? = some (.cells cur t (0, 0))) ∨ (rng w.heap.size w1.heap.size k ∧ ∃ cur t, t ∈ R.tys ∧ w1.heap[k]? = some (.cells cur t (0, 0)))), rfl, by rw [List.length_append]; exact hr2, fun g hg' => ?_, ?_, lown_push L2 O2 ?_ (fun k h => .inl h) (fun k h => .inr h)⟩, ?_⟩
  · obtain ⟨cur, hcur⟩ := row_block hr2 hg'
    refine ⟨?_, ?_⟩
    · rcases hb with hb | ⟨k, hk, hk2⟩
      · rw [hb] at hg'
        exact .inl (hgg g hg').1
      · rw [hg'] at hk
        cases hk
        exact .inr hk2
    · rintro (⟨h1, cur', t, ht, hh⟩ | ⟨h1, cur', t, ht, hh⟩)
      · have hlk : g < w.heap.size := (Array.getElem?_eq_some_iff.1 hh).1
        have : w2.heap[g]? = w.heap[g]? := by rw [keepw g (by omega) (fun e => (hgg g e).2 h1), hm.2.block g hlk]
        rw [hcur, hh] at this
        simp at this
        rw [this.2] at hty
        exact hty ht
      · have hlk : g < w1.heap.size := (Array.getElem?_eq_some_iff.1 hh).1
        have : w2.heap[g]? = w1.heap[g]? := keepw g hlk (fun e => by have := (hgg g e).1.2; have := h1.1; omega)
        rw [hcur, hh] at this
        simp at this
        rw [this.2] at hty
        exact hty ht
  · rintro k (⟨h1, _⟩ | ⟨h1, _⟩)
    · exact .inl (hs k h1)
    · exact .inr h1.1
  · rintro k ⟨h1, _⟩ ⟨h2, _⟩
    have := (hs k h1).2
    have := h2.1
    omega
  · have e1 : w2.os = w.os := hg.os.trans hm.2.os
    have e2 : w2.tape = w.tape := hg.tape.trans hm.2.tape
    have e3 : w2.output = w.output := hg.output.trans hm.2.output
    refine ⟨e1, e2, e3, by omega, fun k hk hn => ?_⟩
    rw [keepw k (by omega) (fun e => hn (hgg k e).1), hm.2.block k hk]

end
theorem rows_unique {w : World} {base base' e size n : Nat} {v : Value} {xs ys : List Value} (h : w.ownsRow base e size v n xs) (k : w.ownsRow base' e size v n ys) : xs = ys := by
  rcases h.2 with ⟨rfl, rfl⟩ | ⟨g, cap, cur, rfl, _, hg, _, _, _, ht⟩
  · have h1 := h.1
    have k1 := k.1
    rw [List.eq_nil_of_length_eq_zero (l := xs) (by rw [h1]; omega), List.eq_nil_of_length_eq_zero (l := ys) (by rw [k1]; omega)]
  · rcases k.2 with ⟨h', _⟩ | ⟨g', cap', cur', h', _, hg', _, _, _, ht'⟩
    · simp at h'
    · simp only [Value.slice.injEq, Option.some.injEq, Addr.mk.injEq, and_true, true_and] at h'
      obtain ⟨rfl, rfl⟩ := h'
      rw [hg] at hg'
      simp only [Option.some.injEq, Obj.cells.injEq] at hg'
      rw [← ht, ← ht', hg'.1]

theorem owns_shape {w : World} {base e size n : Nat} {v : Value} {xs : List Value} (h : w.ownsRow base e size v (n + 1) xs) : ∃ g cap, v = .slice (some ⟨g, 0, none⟩) (n + 1) cap := by
  rcases h.2 with ⟨_, h0⟩ | ⟨g, cap, cur, rfl, _⟩
  · omega
  · exact ⟨g, cap, rfl⟩
section
variable {α : Type}
theorem app_made {e : TypeId} {R : Rep α} {w0 w w1 w2 : World} {o : Obj} {v v' : Value} {xs : List α} {c : List Value} {x : α} {rows0 : List Value} (hty : e ∉ R.tys) (h : MadeR (slR e R) w0 w [v] xs) (hm : MadeR R w w1 c x)
    (hr : w.ownsRow w0.heap.size e R.size v xs.length rows0) (hown' : w2.ownsRow w0.heap.size e R.size v' (xs.length + 1) (rows0 ++ c)) (hg : (w1.alloc o).grownBy w2 v.ownBlock) : MadeR (slR e R) w0 w2 [v'] (xs ++ [x]) :=
  appR_step hty h hm (fun rows hr' => by rw [rows_unique hr' hr]; exact hown') hg
theorem made_none {e : TypeId} {R : Rep α} (w : World) : MadeR (slR e R) w (w.alloc (.cells #[] e)) [.slice (some ⟨w.heap.size, 0, none⟩) 0 0] [] := by
  refine ⟨⟨_, [], fun _ => False, rfl, World.ownsRow_lit (base := 0) (e := e) (size := R.size) w #[] 0 (Nat.zero_le _) (Nat.zero_le _) (by simp), fun g hg => ?_, fun _ h => h.elim, rfl⟩, box_below w _⟩
  simp [Value.ownBlock] at hg
  subst hg
  exact ⟨⟨Nat.le_refl _, by simp⟩, fun h => h⟩
end
theorem cells_news (w : World) (cs : List Value) (t : TypeId) : ∀ j u, cs[j]? = some u → (w.alloc (.cells cs.toArray t)).cell? ((⟨w.heap.size, 0, none⟩ : Addr).add j) = some u := by
  intro j u hu
  have X := heap_at w (.cells cs.toArray t)
  rw [show (⟨w.heap.size, 0, none⟩ : Addr).add j = ⟨w.heap.size, j, none⟩ from by simp [Addr.add] <;> omega, cell_of_row _ _ j _ _ (0, 0) X]
  simpa using hu
theorem step_run {P : Program} {ops : Array Oper} {o : Oper} {a : Act} {w w' : World} {K : Act → World → Prop} {Q : Exit → Act → World → Prop} {E : Prop} (hgd : o.guard = none) (s x : Operand) (t ty : TypeId)
    (ho : o.op = .call { callee := .builtin .append, args := #[s, x], argTypes := #[t, t] }) (hty : o.type = ty) (v v2 v' : Value) (hs : a.eval s = v) (hx : a.eval x = v2)
    (hrun : (Builtin.append_ #[t, t] ty #[v, v2]).run P w = .ok v' w') (hK : K (a.put o.dst v') w') : if Region.wanted o (yielded ops a.tmps) = true then Oper.wp P o a w K Q else E := by
  have hw : Region.wanted o (yielded ops a.tmps) = true := by simp [Region.wanted, hgd]
  rw [if_pos hw]
  unfold Oper.wp execOp
  simp only [ho, hty, resolve, invoke, builtin, Sem.run_bind, Sem.run_pure, Result.andThen_ok, List.map_toArray, List.map_cons, List.map_nil, hs, hx, hrun]
  exact hK
end Go.Proofs.Ytpfgggjcaogkkaa
