/- A row that is owned among others, appended to; a row of rows that is made at once. No program here. -/
import Derived.Test.YtmldilmiihafoaaWayCopy
import Derived.Test.YtmldilmiihafoaaMarks2
namespace Go.Proofs.Ytmldilmiihafoaa
open Go.ChangeShapes Go.WideShapes Go.ChangeAt Go.RowKit
set_option linter.unusedVariables false

section
variable {α : Type}
theorem appR_any {e : TypeId} {R : Rep α} {S : Foot} {w w1 w2 : World} {o : Obj} {v v' : Value} {xs : List α} {c : List Value} {x : α} (hty : e ∉ R.tys) (h : (slR e R).own w S [v] xs) (hm : MadeR R w w1 c x)
    (happ : ∀ rows, w.ownsRow 0 e R.size v xs.length rows → w2.ownsRow 0 e R.size v' (xs.length + 1) (rows ++ c)) (hg : (w1.alloc o).grownBy w2 v.ownBlock) (hb : v'.ownBlock = v.ownBlock ∨ ∃ k, v'.ownBlock = some k ∧ w.heap.size ≤ k) :
    (slR e R).own w2 (fun k => Old w S k ∨ w.heap.size ≤ k) [v'] (xs ++ [x]) ∧ Chg (Old w S) w w2 := by
  obtain ⟨v1, rows, S', hv, hr, hgg, hs, hl⟩ := own_old h
  simp only [List.cons.injEq, and_true] at hv
  subst hv
  have hr2 := happ rows hr
  have s1 := hm.2.size
  have s2 : w1.heap.size + 1 ≤ w2.heap.size := by have := hg.size; simpa using this
  have lt := lown_tight hl
  have ot := R.own_tight hm.1
  have keepw : ∀ k, k < w1.heap.size → v.ownBlock ≠ some k → w2.heap[k]? = w1.heap[k]? := fun k hk hne => by
    rw [hg.block k (by simp; omega) (fun e => hne e.symm), Below.heap_alloc w1 o k hk]
  have L2 : lown R w2 (fun k => S' k ∧ ∃ cur t, t ∈ R.tys ∧ w.heap[k]? = some (.cells cur t (0, 0))) rows xs := lown_keep lt fun k hk hlk => by
    rw [keepw k (by omega) (fun e => (hgg k e).2 hk.1), hm.2.block k hlk]
  have O2 : R.own w2 (fun k => rng w.heap.size w1.heap.size k ∧ ∃ cur t, t ∈ R.tys ∧ w1.heap[k]? = some (.cells cur t (0, 0))) c x := R.own_keep ot fun k hk hlk =>
    keepw k hlk (fun e => by have := (hgg k e).1.2; have := hk.1.1; omega)
  refine ⟨⟨v', rows ++ c, (fun k => (S' k ∧ ∃ cur t, t ∈ R.tys ∧ w.heap[k]? = some (.cells cur t (0, 0))) ∨ (rng w.heap.size w1.heap.size k ∧ ∃ cur t, t ∈ R.tys ∧ w1.heap[k]? = some (.cells cur t (0, 0)))), rfl, by rw [List.length_append]; exact hr2, fun g hg' => ?_, ?_, lown_push L2 O2 ?_ (fun k h => .inl h) (fun k h => .inr h)⟩, ?_⟩
  · obtain ⟨cur, hcur⟩ := row_block hr2 hg'
    refine ⟨?_, ?_⟩
    · rcases hb with hb | ⟨k, hk, hk2⟩
      · rw [hb] at hg'
        exact .inl (hgg g hg').1
      · rw [hg'] at hk
        cases hk
        exact .inr hk2
    · rintro (⟨h1, cur', t, ht, hh⟩ | ⟨h1, cur', t, ht, hh⟩)
      · have hlk : g < w.heap.size := (Array.getElem?_eq_some_iff.1 hh).1
        have : w2.heap[g]? = w.heap[g]? := by rw [keepw g (by omega) (fun e => (hgg g e).2 h1), hm.2.block g hlk]
        rw [hcur, hh] at this
        simp at this
        rw [this.2] at hty
        exact hty ht
      · have hlk : g < w1.heap.size := (Array.getElem?_eq_some_iff.1 hh).1
        have : w2.heap[g]? = w1.heap[g]? := keepw g hlk (fun e => by have := (hgg g e).1.2; have := h1.1; omega)
        rw [hcur, hh] at this
        simp at this
        rw [this.2] at hty
        exact hty ht
  · rintro k (⟨h1, _⟩ | ⟨h1, _⟩)
    · exact .inl (hs k h1)
    · exact .inr h1.1
  · rintro k ⟨h1, _⟩ ⟨h2, _⟩
    have := (hs k h1).2
    have := h2.1
    omega
  · have e1 : w2.os = w.os := hg.os.trans hm.2.os
    have e2 : w2.tape = w.tape := hg.tape.trans hm.2.tape
    have e3 : w2.output = w.output := hg.output.trans hm.2.output
    refine ⟨e1, e2, e3, by omega, fun k hk hn => ?_⟩
    rw [keepw k (by omega) (fun e => hn (hgg k e).1), hm.2.block k hk]

theorem lown_nils {e : TypeId} {R : Rep α} {w : World} {S : Foot} : ∀ n, lown (slR e R) w S (List.replicate n (.slice none 0 0)) (List.replicate n ([] : List α))
  | 0 => rfl
  | n + 1 => ⟨[_], List.replicate n (.slice none 0 0), fun _ => False, S, rfl, ⟨_, [], fun _ => False, rfl, World.ownsRow_nil _ _ _ _, fun g hg => by simp [Value.ownBlock] at hg, fun _ h => h.elim, rfl⟩, lown_nils n, fun _ h => h.elim, Sub.refl _, fun _ h _ => h⟩

theorem made_one (n : Nat) (z : Value) : (madeCells #[z] n).toList = List.replicate n z := by
  apply List.ext_getElem?
  intro i
  rw [List.getElem?_replicate]
  unfold madeCells
  by_cases h : i < n
  · simp [h, Nat.mod_one]
  · simp [h]

theorem made_nils {e : TypeId} {R : Rep α} (E : TypeId) (w : World) (n : Nat) (hm : n ≤ maxLen) : MadeR (slR E (slR e R)) w (w.alloc (.cells (madeCells #[.slice none 0 0] n) E)) [.slice (some ⟨w.heap.size, 0, none⟩) n n] (List.replicate n ([] : List α)) := by
  have hr := World.ownsRow_lit (base := 0) (e := E) (size := 1) w (madeCells #[.slice none 0 0] n) n (Nat.zero_le _) hm (by rw [size_madeCells]; omega)
  rw [made_one] at hr
  refine ⟨⟨_, _, fun _ => False, rfl, by rw [List.length_replicate]; exact hr, fun g hg => ?_, fun _ h => h.elim, lown_nils n⟩, box_below w _⟩
  simp [Value.ownBlock] at hg
  subst hg
  exact ⟨⟨Nat.le_refl _, by simp⟩, fun h => h⟩
end
theorem made_zeros (w : World) (n : Nat) (hm : n ≤ maxLen) : MadeR intsR w (w.alloc (.cells (madeCells #[.int .i64 0] n) 2)) [.slice (some ⟨w.heap.size, 0, none⟩) n n] (List.replicate n 0) := by
  have hr := World.ownsRow_lit (base := 0) (e := 2) (size := 1) w (madeCells #[.int .i64 0] n) n (Nat.zero_le _) hm (by rw [size_madeCells]; omega)
  rw [made_one] at hr
  refine ⟨⟨_, _, fun _ => False, rfl, by rw [List.length_replicate]; exact hr, fun g hg => ?_, fun _ h => h.elim, lown_ints (lrd_ints.2 ⟨by rw [List.map_replicate], fun x hx => ?_⟩)⟩, box_below w _⟩
  · simp [Value.ownBlock] at hg
    subst hg
    exact ⟨⟨Nat.le_refl _, by simp⟩, fun h => h⟩
  · rw [(List.mem_replicate.1 hx).2]
    constructor <;> decide

end Go.Proofs.Ytmldilmiihafoaa
