/- Plain facts on states: what the others become when they are told, and that they are together then. No program in it. -/
import Derived.Test.YtapooehfoihdlaaDoorTogs
namespace Go.Proofs.YtapooehfoihdlaaDoor
set_option linter.unusedVariables false

/-- What another one's state becomes when it is told. -/
def told (wr : Bool) (v : Int) : Int := if v = 0 then 0 else if wr then 0 else 1
/-- k of them have been told: ys is what they are then, o tells whether one of those has it still. -/
structure StI (wr : Bool) (s : List Int) (q k : Nat) (ys : List Int) (o : Int) : Prop where
  len : ys.length = s.length
  who : ys.getD q 0 = s.getD q 0
  left : ∀ i, k ≤ i → ys.getD i 0 = s.getD i 0
  past : ∀ i, i < k → i ≠ q → ys.getD i 0 = told wr (s.getD i 0)
  none : o = 0 → ∀ i, i < k → i ≠ q → told wr (s.getD i 0) = 0
  lo : 0 ≤ o
  hi : o ≤ k

theorem sti_start (wr : Bool) (s : List Int) (q : Nat) : StI wr s q 0 s 0 :=
  ⟨rfl, rfl, fun _ _ => rfl, fun i h => by omega, fun _ i h => by omega, by omega, by omega⟩
theorem sti_skip {wr : Bool} {s : List Int} {q k : Nat} {ys : List Int} {o : Int} (h : StI wr s q k ys o) (hk : k = q ∨ s.getD k 0 = 0) : StI wr s q (k + 1) ys o := by
  refine ⟨h.len, h.who, fun i hi => h.left i (by omega), fun i hi hn => ?_, fun ho i hi hn => ?_, h.lo, by have := h.hi; omega⟩
  · by_cases e : i = k
    · subst e
      rcases hk with hk | hk
      · exact absurd hk hn
      · rw [h.left i (Nat.le_refl _), hk]; rfl
    · exact h.past i (by omega) hn
  · by_cases e : i = k
    · subst e
      rcases hk with hk | hk
      · exact absurd hk hn
      · rw [hk]; rfl
    · exact h.none ho i (by omega) hn
theorem getD_set_same {ys : List Int} {k : Nat} (v : Int) (h : k < ys.length) : (ys.set k v).getD k 0 = v := by
  rw [List.getD_eq_getElem?_getD, List.getElem?_set_self h]; rfl
theorem getD_set_other (ys : List Int) {k i : Nat} (v : Int) (h : i ≠ k) : (ys.set k v).getD i 0 = ys.getD i 0 := by
  rw [List.getD_eq_getElem?_getD, List.getElem?_set_ne (Ne.symm h), List.getD_eq_getElem?_getD]
theorem sti_told {wr : Bool} {s : List Int} {q k : Nat} {ys : List Int} {o o' t : Int} (h : StI wr s q k ys o) (hl : k < s.length) (hk : k ≠ q) (ht : t = told wr (s.getD k 0)) (ho : (t = 0 ∧ o' = o) ∨ (t ≠ 0 ∧ o' = o + 1)) : StI wr s q (k + 1) (ys.set k t) o' := by
  have hlo := h.lo
  have hhi := h.hi
  refine ⟨by rw [List.length_set]; exact h.len, by rw [getD_set_other _ _ (Ne.symm hk)]; exact h.who, fun i hi => ?_, fun i hi hn => ?_, fun h0 i hi hn => ?_, by omega, by omega⟩
  · rw [getD_set_other _ _ (by omega)]; exact h.left i (by omega)
  · by_cases e : i = k
    · subst e; rw [getD_set_same _ (by rw [h.len]; exact hl)]; exact ht
    · rw [getD_set_other _ _ e]; exact h.past i (by omega) hn
  · by_cases e : i = k
    · subst e; rw [← ht]; rcases ho with ⟨h1, _⟩ | ⟨_, h2⟩
      · exact h1
      · omega
    · exact h.none (by rcases ho with ⟨_, h2⟩ | ⟨_, h2⟩ <;> omega) i (by omega) hn

theorem somes_zero {xs : List Int} (h : ∀ i, i < xs.length → xs.getD i 0 = 0) : somes xs = 0 := by
  unfold somes
  rw [List.length_eq_zero_iff, List.filter_eq_nil_iff]
  intro a ha
  obtain ⟨i, hi, rfl⟩ := List.getElem_of_mem ha
  have := h i hi
  rw [List.getD_eq_getElem?_getD, List.getElem?_eq_getElem hi] at this
  simpa using this
theorem zero_somes : ∀ {xs : List Int}, somes xs = 0 → ∀ i, xs.getD i 0 = 0
  | [], _, i => by simp
  | y :: t, h, i => by
    have e : somes (y :: t) = (if y != 0 then 1 else 0) + somes t := by unfold somes; by_cases h : y = 0 <;> simp [h]; omega
    rw [e] at h
    by_cases hy : y = 0
    · cases i with
      | zero => simpa using hy
      | succ i => simpa using zero_somes (xs := t) (by omega) i
    · have : (if (y != 0) = true then 1 else 0) = 1 := by simp [hy]
      omega
theorem somes_one : ∀ {xs : List Int} {q : Nat}, q < xs.length → xs.getD q 0 ≠ 0 → (∀ i, i < xs.length → i ≠ q → xs.getD i 0 = 0) → somes xs = 1
  | [], q, h, _, _ => by simp at h
  | y :: t, 0, h, hq, ho => by
    have hy : y ≠ 0 := by simpa using hq
    have : somes t = 0 := somes_zero fun i hi => by simpa using ho (i + 1) (by simp; omega) (by omega)
    unfold somes at this ⊢
    simp [hy, this]
  | y :: t, q + 1, h, hq, ho => by
    have hy : y = 0 := by simpa using ho 0 (by simp) (by omega)
    have := somes_one (xs := t) (q := q) (by simpa using h) (by simpa using hq) fun i hi hn => by simpa using ho (i + 1) (by simp; omega) (by omega)
    unfold somes at this ⊢
    simp [hy]
    simpa using this
theorem one_others : ∀ {xs : List Int} {q : Nat}, somes xs = 1 → xs.getD q 0 ≠ 0 → ∀ i, i ≠ q → xs.getD i 0 = 0
  | [], q, _, h, _, _ => by simp at h
  | y :: t, 0, hs, hq, i, hn => by
    have hy : y ≠ 0 := by simpa using hq
    have e : somes (y :: t) = 1 + somes t := by unfold somes; simp [hy]; omega
    cases i with
    | zero => omega
    | succ i => simpa using zero_somes (xs := t) (by omega) i
  | y :: t, q + 1, hs, hq, i, hn => by
    have hq' : t.getD q 0 ≠ 0 := by simpa using hq
    by_cases hy : y = 0
    · have e : somes (y :: t) = somes t := by unfold somes; simp [hy]
      cases i with
      | zero => simpa using hy
      | succ i => simpa using one_others (xs := t) (q := q) (by omega) hq' i (by omega)
    · have e : somes (y :: t) = 1 + somes t := by unfold somes; simp [hy]; omega
      exact absurd (zero_somes (xs := t) (by omega) q) hq'
theorem oks_at {xs : List Int} (h : ∀ i, i < xs.length → betw (xs.getD i 0) 0 3 = true) : oks xs := fun s hs => by
  obtain ⟨i, hi, rfl⟩ := List.getElem_of_mem hs
  have := h i hi
  rwa [List.getD_eq_getElem?_getD, List.getElem?_eq_getElem hi] at this
/-- None is alone. -/
theorem tog_low {xs : List Int} (h : ∀ i, i < xs.length → xs.getD i 0 = 0 ∨ xs.getD i 0 = 1) : togB xs = true := by
  have ho : oks xs := oks_at fun i hi => by rcases h i hi with e | e <;> rw [e] <;> rfl
  rw [tog_ok ho]
  have : lone xs = false := by
    unfold lone
    rw [List.any_eq_false]
    intro s hs
    obtain ⟨i, hi, rfl⟩ := List.getElem_of_mem hs
    have := h i hi
    rw [List.getD_eq_getElem?_getD, List.getElem?_eq_getElem hi] at this
    simp at this ⊢
    omega
  rw [this]; rfl
/-- One has it, all others do not. -/
theorem tog_one {xs : List Int} {q : Nat} (hq : q < xs.length) (h1 : xs.getD q 0 = 1 ∨ xs.getD q 0 = 2 ∨ xs.getD q 0 = 3) (h : ∀ i, i < xs.length → i ≠ q → xs.getD i 0 = 0) : togB xs = true := by
  have ho : oks xs := oks_at fun i hi => by
    by_cases e : i = q
    · subst e; rcases h1 with e | e | e <;> rw [e] <;> rfl
    · rw [h i hi e]; rfl
  rw [tog_ok ho, somes_one hq (by omega) h]
  simp
theorem tog_alone {xs : List Int} {q : Nat} (ht : togB xs = true) (hl : q < xs.length) (hq : 2 ≤ xs.getD q 0) : ∀ i, i ≠ q → xs.getD i 0 = 0 := by
  have ho : oks xs := by
    unfold togB at ht
    simp only [Bool.and_eq_true, List.all_eq_true] at ht
    exact ht.1
  rw [tog_ok ho] at ht
  have hlone : lone xs = true := by
    unfold lone
    rw [List.any_eq_true]
    exact ⟨xs.getD q 0, getD_mem hl, by simpa using hq⟩
  rw [hlone] at ht
  exact one_others (by simpa using ht) (by omega)
theorem tog_at {xs : List Int} (ht : togB xs = true) {i : Nat} (hi : i < xs.length) : betw (xs.getD i 0) 0 3 = true := by
  unfold togB at ht
  simp only [Bool.and_eq_true, List.all_eq_true] at ht
  exact ht.1 _ (getD_mem hi)

/-- One writes: all others have let go. -/
theorem end_write {s : List Int} {q : Nat} {ys : List Int} {o : Int} (h : StI true s q s.length ys o) (hq : q < s.length) : togB (ys.set q 3) = true := by
  have hl := h.len
  refine tog_one (q := q) (by rw [List.length_set, hl]; exact hq) (.inr (.inr (getD_set_same _ (by omega)))) fun i hi hn => ?_
  rw [List.length_set, hl] at hi
  rw [getD_set_other _ _ hn, h.past i hi hn]
  unfold told; split <;> rfl
theorem told_low (v : Int) : told false v = 0 ∨ told false v = 1 := by unfold told; split <;> simp
/-- One reads what it had not: alone, if no other has it. -/
theorem end_read0 {s : List Int} {q : Nat} {ys : List Int} (h : StI false s q s.length ys 0) (hq : q < s.length) : togB (ys.set q 2) = true := by
  have hl := h.len
  refine tog_one (q := q) (by rw [List.length_set, hl]; exact hq) (.inr (.inl (getD_set_same _ (by omega)))) fun i hi hn => ?_
  rw [List.length_set, hl] at hi
  rw [getD_set_other _ _ hn, h.past i hi hn]
  exact h.none rfl i hi hn
theorem end_read1 {s : List Int} {q : Nat} {ys : List Int} {o : Int} (h : StI false s q s.length ys o) (hq : q < s.length) : togB (ys.set q 1) = true := by
  have hl := h.len
  refine tog_low fun i hi => ?_
  rw [List.length_set, hl] at hi
  by_cases e : i = q
  · subst e; rw [getD_set_same _ (by omega)]; exact .inr rfl
  · rw [getD_set_other _ _ e, h.past i hi e]; exact told_low _
/-- One reads what it had. -/
theorem end_had {s : List Int} {q : Nat} {ys : List Int} {o : Int} (h : StI false s q s.length ys o) (hq : q < s.length) (ht : togB s = true) (hn : s.getD q 0 ≠ 0) : togB ys = true := by
  have hl := h.len
  have hb := tog_at ht hq
  have hw := h.who
  rcases state4 hb with e | e | e | e
  · exact absurd e hn
  · refine tog_low fun i hi => ?_
    rw [hl] at hi
    by_cases e2 : i = q
    · subst e2; rw [hw, e]; exact .inr rfl
    · rw [h.past i hi e2]; exact told_low _
  · have := tog_alone ht hq (by omega)
    refine tog_one (q := q) (by omega) (by rw [hw]; omega) fun i hi hn => ?_
    rw [h.past i (by omega) hn, this i hn]; rfl
  · have := tog_alone ht hq (by omega)
    refine tog_one (q := q) (by omega) (by rw [hw]; omega) fun i hi hn => ?_
    rw [h.past i (by omega) hn, this i hn]; rfl

theorem next_in {s e v : Int} (h : nextI s e = some v) : 0 ≤ v ∧ v ≤ 3 := by
  unfold nextI at h
  repeat' split at h
  all_goals first | (cases h; omega) | (injection h with h; omega) | cases h
theorem next_asks {a : Int} {wr : Bool} (h : asksI a wr = 0) : (nextI a (if wr then 2 else 1)).isSome = true := by
  unfold asksI at h
  by_cases hb : betw a 0 3 = true
  · rcases state4 hb with rfl | rfl | rfl | rfl <;> cases wr <;> first | rfl | (revert h; decide)
  · rw [if_neg hb] at h; cases h
end Go.Proofs.YtapooehfoihdlaaDoor
