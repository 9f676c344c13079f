
/- What is touched, once more: all lines sorted, then each once, is what is put in one by one. Plain facts, no program here. -/
import Derived.Test.YteblffhbennpnaaGreatDoorProgFacts
import Derived.Lib.SlicesCompact
namespace Go.Proofs.YteblffhbennpnaaGreatDoor
set_option linter.unusedVariables false

def rawL (xs : List OpD) : List Int := (xs.filter opOkD).map fun u => u.2.1 / 2
theorem raw_step {xs : List OpD} {k : Nat} {x : OpD} (hx : xs[k]? = some x) : rawL (xs.take (k + 1)) = if opOkD x then rawL (xs.take k) ++ [x.2.1 / 2] else rawL (xs.take k) := by
  unfold rawL
  rw [List.take_add_one, hx]
  cases h : opOkD x <;> simp [h]
theorem raw_len (xs : List OpD) (k : Nat) : (rawL (xs.take k)).length ≤ k := by
  unfold rawL
  rw [List.length_map]
  refine Nat.le_trans (List.length_filter_le _ _) ?_
  rw [List.length_take]
  omega
theorem raw_iff (xs : List OpD) (t : Int) : t ∈ rawL xs ↔ ∃ u ∈ xs, opOkD u = true ∧ t = u.2.1 / 2 := by
  unfold rawL
  simp only [List.mem_map, List.mem_filter]
  constructor
  · rintro ⟨u, ⟨h1, h2⟩, rfl⟩
    exact ⟨u, h1, h2, rfl⟩
  · rintro ⟨u, h1, h2, rfl⟩
    exact ⟨u, ⟨h1, h2⟩, rfl⟩
theorem rise_ext : ∀ (xs ys : List Int), xs.Pairwise (· < ·) → ys.Pairwise (· < ·) → (∀ t, t ∈ xs ↔ t ∈ ys) → xs = ys := by
  intro xs
  induction xs with
  | nil =>
    intro ys _ _ h
    cases ys with
    | nil => rfl
    | cons y ys => exact absurd ((h y).2 (List.mem_cons_self ..)) (by simp)
  | cons x xs ih =>
    intro ys hx hy h
    cases ys with
    | nil => exact absurd ((h x).1 (List.mem_cons_self ..)) (by simp)
    | cons y ys =>
      rw [List.pairwise_cons] at hx hy
      have e : x = y := by
        rcases List.mem_cons.1 ((h x).1 (List.mem_cons_self ..)) with h1 | h1
        · exact h1
        · rcases List.mem_cons.1 ((h y).2 (List.mem_cons_self ..)) with h2 | h2
          · exact h2.symm
          · have := hx.1 y h2
            have := hy.1 x h1
            omega
      subst e
      refine congrArg (x :: ·) (ih ys hx.2 hy.2 fun t => ?_)
      constructor
      · intro ht
        rcases List.mem_cons.1 ((h t).1 (List.mem_cons_of_mem _ ht)) with h1 | h1
        · have := hx.1 t ht; omega
        · exact h1
      · intro ht
        rcases List.mem_cons.1 ((h t).2 (List.mem_cons_of_mem _ ht)) with h1 | h1
        · have := hy.1 t ht; omega
        · exact h1
theorem comp_up (d : Array Int) (hd : ∀ i j, i ≤ j → j < d.size → d[i]! ≤ d[j]!) : ∀ m, m ≤ d.size → (Lib.compactUpTo d m).Pairwise (· < ·) ∧ ∀ t, t ∈ Lib.compactUpTo d m ↔ ∃ j, j < m ∧ d[j]! = t := by
  intro m
  induction m with
  | zero => intro _; exact ⟨by simp [Lib.compactUpTo], by simp [Lib.compactUpTo]⟩
  | succ m ih =>
    intro hm
    obtain ⟨h1, h2⟩ := ih (by omega)
    rw [Lib.compactUpTo_succ]
    cases hk : Lib.keeps d m
    · simp only [Bool.false_eq_true, if_false, List.append_nil]
      refine ⟨h1, fun t => ?_⟩
      rw [h2]
      constructor
      · rintro ⟨j, hj, e⟩; exact ⟨j, by omega, e⟩
      · rintro ⟨j, hj, e⟩
        by_cases hjm : j = m
        · subst hjm
          simp [Lib.keeps] at hk
          exact ⟨j - 1, by omega, by rw [← hk.2]; exact e⟩
        · exact ⟨j, by omega, e⟩
    · simp only [if_true]
      constructor
      · rw [List.pairwise_append]
        refine ⟨h1, by simp, ?_⟩
        intro x hx y hy
        rw [List.mem_singleton] at hy
        subst hy
        obtain ⟨j, hj, rfl⟩ := (h2 x).1 hx
        simp [Lib.keeps] at hk
        have g1 := hd j (m - 1) (by omega) (by omega)
        have g2 := hd (m - 1) m (by omega) (by omega)
        rcases hk with hk | hk
        · omega
        · omega
      · intro t
        rw [List.mem_append, h2, List.mem_singleton]
        constructor
        · rintro (⟨j, hj, e⟩ | e)
          · exact ⟨j, by omega, e⟩
          · exact ⟨m, by omega, e.symm⟩
        · rintro ⟨j, hj, e⟩
          by_cases hjm : j = m
          · subst hjm; exact .inr e.symm
          · exact .inl ⟨j, by omega, e⟩
theorem comp_eq (zs : List Int) (hz : zs.Pairwise (· ≤ ·)) : (Lib.compact zs).Pairwise (· < ·) ∧ ∀ t, t ∈ Lib.compact zs ↔ t ∈ zs := by
  have hd : ∀ i j, i ≤ j → j < zs.toArray.size → zs.toArray[i]! ≤ zs.toArray[j]! := by
    intro i j hij hj
    have hj' : j < zs.length := by simpa using hj
    have e1 : zs.toArray[i]! = zs[i]'(by omega) := by simp [getElem!_pos, show i < zs.length by omega]
    have e2 : zs.toArray[j]! = zs[j]'hj' := by simp [getElem!_pos, hj']
    rw [e1, e2]
    rcases Nat.lt_or_eq_of_le hij with h | h
    · exact List.pairwise_iff_getElem.1 hz i j (by omega) hj' h
    · subst h; exact Int.le_refl _
  obtain ⟨h1, h2⟩ := comp_up zs.toArray hd zs.length (by simp)
  refine ⟨h1, fun t => (h2 t).trans ?_⟩
  constructor
  · rintro ⟨j, hj, rfl⟩
    have e1 : zs.toArray[j]! = zs[j]'hj := by simp [getElem!_pos, hj]
    rw [e1]
    exact List.getElem_mem hj
  · intro ht
    obtain ⟨j, hj, rfl⟩ := List.getElem_of_mem ht
    exact ⟨j, hj, by simp [getElem!_pos, hj]⟩
theorem tou_raw (xs : List OpD) : Lib.compact ((rawL xs).mergeSort fun x y => decide (x ≤ y)) = touL xs := by
  have hs : ((rawL xs).mergeSort fun x y => decide (x ≤ y)).Pairwise (· ≤ ·) := by
    have := List.pairwise_mergeSort (le := fun x y : Int => decide (x ≤ y)) (by intro a b c h1 h2; simp at *; omega) (by intro a b; simp; omega) (rawL xs)
    exact this.imp (by intro a b h; simpa using h)
  obtain ⟨h1, h2⟩ := comp_eq _ hs
  refine rise_ext _ _ h1 (tou_rise xs) fun t => ?_
  rw [h2, List.mem_mergeSort, raw_iff, tou_iff]
end Go.Proofs.YteblffhbennpnaaGreatDoor
