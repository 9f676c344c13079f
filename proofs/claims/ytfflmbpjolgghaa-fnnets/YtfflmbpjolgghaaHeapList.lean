/- A heap in a list: what one step down does, that its first is its least, and what is left when all but one are kept. No program here. -/
import Derived.Test.YtfflmbpjolgghaaRows
namespace Go.Proofs.Ytfflmbpjolgghaa
set_option linter.unusedVariables false

/-- Of the first n each is not below its parent. -/
def HeapF (K : Nat → Int) (n : Nat) : Prop := ∀ c, 0 < c → c < n → K ((c - 1) / 2) ≤ K c
/-- The same, but for the children of i; these are not below i's parent. -/
structure HeapX (K : Nat → Int) (n i : Nat) : Prop where
  up : ∀ c, 0 < c → c < n → (c - 1) / 2 ≠ i → K ((c - 1) / 2) ≤ K c
  over : ∀ c, 0 < c → c < n → (c - 1) / 2 = i → 0 < i → K ((i - 1) / 2) ≤ K c
theorem heap_stop {K : Nat → Int} {n i : Nat} (h : HeapX K n i) (hc : ∀ c, 0 < c → c < n → (c - 1) / 2 = i → K i ≤ K c) : HeapF K n := fun c h0 hn => by
  by_cases hp : (c - 1) / 2 = i
  · rw [hp]
    exact hc c h0 hn hp
  · exact h.up c h0 hn hp
theorem heap_down {K K' : Nat → Int} {n i j : Nat} (h : HeapX K n i) (hj : 0 < j) (hjn : j < n) (hp : (j - 1) / 2 = i) (hlt : K j < K i) (hmin : ∀ c, 0 < c → c < n → (c - 1) / 2 = i → K j ≤ K c)
    (e1 : K' i = K j) (e2 : K' j = K i) (e3 : ∀ c, c ≠ i → c ≠ j → K' c = K c) : HeapX K' n j := by
  have hij : i ≠ j := by omega
  refine ⟨fun c h0 hn hpc => ?_, fun c h0 hn hpc _ => ?_⟩
  · by_cases hci : c = i
    · subst hci
      rw [e1, e3 _ (by omega) hpc]
      exact h.over j hj hjn hp h0
    · by_cases hcj : c = j
      · subst hcj
        rw [hp, e1, e2]
        omega
      · rw [e3 c hci hcj]
        by_cases hpi : (c - 1) / 2 = i
        · rw [hpi, e1]
          exact hmin c h0 hn hpi
        · rw [e3 _ hpi hpc]
          exact h.up c h0 hn hpi
  · rw [hp, e1, e3 c (by omega) (by omega)]
    have := h.up c h0 hn (by omega)
    rw [hpc] at this
    exact this
theorem heap_least {K : Nat → Int} {n : Nat} (h : HeapF K n) : ∀ c, c < n → K 0 ≤ K c := by
  intro c
  induction c using Nat.strongRecOn with
  | _ c ih =>
    intro hn
    by_cases h0 : c = 0
    · subst h0
      exact Int.le_refl _
    · have h1 := h c (by omega) hn
      have h2 := ih ((c - 1) / 2) (by omega) (by omega)
      omega
theorem heap_rise {K : Nat → Int} {n : Nat} (h : ∀ i j, i < j → j < n → K i < K j) : HeapF K n := fun c h0 hn => by
  have := h ((c - 1) / 2) c (by omega) hn
  omega
/-- The last one is put at i, and i was taken: all but i's children are as a heap wants it, if the last one is not below i's parent. -/
theorem heap_put {K K' : Nat → Int} {n i : Nat} (h : HeapF K (n + 1)) (hi : i < n) (e1 : K' i = K n) (e3 : ∀ c, c ≠ i → c < n → K' c = K c) (hu : 0 < i → K ((i - 1) / 2) ≤ K n) : HeapX K' n i := by
  refine ⟨fun c h0 hn hpc => ?_, fun c h0 hn hpc hi0 => ?_⟩
  · by_cases hci : c = i
    · subst hci
      rw [e1, e3 _ (by omega) (by omega)]
      exact hu h0
    · rw [e3 c hci hn, e3 _ hpc (by omega)]
      exact h c h0 (by omega)
  · rw [e3 c (by omega) hn, e3 _ (by omega) (by omega)]
    have h1 := h c h0 (by omega)
    have h2 := h i (by omega) (by omega)
    rw [hpc] at h1
    omega

/-- What a list of numbered things tells at a place. -/
def keyAt {β : Type} (ls : List (Int × β)) (c : Nat) : Int := (ls[c]?.map (·.1)).getD 0
theorem key_of {β : Type} {ls : List (Int × β)} {c : Nat} {x : Int × β} (h : ls[c]? = some x) : keyAt ls c = x.1 := by simp [keyAt, h]
theorem key_congr {β : Type} {ls ms : List (Int × β)} {c : Nat} (h : ls[c]? = ms[c]?) : keyAt ls c = keyAt ms c := by simp [keyAt, h]
abbrev HeapL {β : Type} (ls : List (Int × β)) (n : Nat) : Prop := HeapF (keyAt ls) n
/-- Two have changed places. -/
def swapL {β : Type} (ls : List β) (i j : Nat) (x y : β) : List β := (ls.set i y).set j x
theorem swap_len {β : Type} (ls : List β) (i j : Nat) (x y : β) : (swapL ls i j x y).length = ls.length := by simp [swapL]
theorem swap_i {β : Type} {ls : List β} {i j : Nat} {x y : β} (hi : ls[i]? = some x) (hj : ls[j]? = some y) : (swapL ls i j x y)[i]? = some y := by
  have h1 := (List.getElem?_eq_some_iff.1 hi).1
  unfold swapL
  by_cases h : j = i
  · subst h
    rw [hi] at hj
    cases hj
    rw [List.getElem?_set_self (by simpa using h1)]
  · rw [List.getElem?_set_ne h, List.getElem?_set_self h1]
theorem swap_j {β : Type} {ls : List β} {i j : Nat} {x y : β} (hj : ls[j]? = some y) : (swapL ls i j x y)[j]? = some x := by
  have h1 := (List.getElem?_eq_some_iff.1 hj).1
  unfold swapL
  rw [List.getElem?_set_self (by simpa using h1)]
theorem swap_else {β : Type} {ls : List β} {i j c : Nat} {x y : β} (h1 : c ≠ i) (h2 : c ≠ j) : (swapL ls i j x y)[c]? = ls[c]? := by
  unfold swapL
  rw [List.getElem?_set_ne (fun e => h2 e.symm), List.getElem?_set_ne (fun e => h1 e.symm)]
theorem swap_perm {β : Type} {ls : List β} {i j : Nat} {x y : β} (hi : ls[i]? = some x) (hj : ls[j]? = some y) : (swapL ls i j x y).Perm ls := by
  obtain ⟨h1, rfl⟩ := List.getElem?_eq_some_iff.1 hi
  obtain ⟨h2, rfl⟩ := List.getElem?_eq_some_iff.1 hj
  exact List.set_set_perm h1 h2

/-- Numbers rise. -/
def Rising {β : Type} (ms : List (Int × β)) : Prop := ms.Pairwise (fun a b => a.1 < b.1)
theorem rising_heap {β : Type} {ms : List (Int × β)} (h : Rising ms) : HeapL ms ms.length := heap_rise fun i j hij hj => by
  have hi : i < ms.length := by omega
  rw [key_of (List.getElem?_eq_getElem hi), key_of (List.getElem?_eq_getElem hj)]
  exact List.pairwise_iff_getElem.1 h i j hi hj hij
theorem heap_first {β : Type} {ls ms : List (Int × β)} {m : Int × β} (hr : Rising (m :: ms)) (hp : ls.Perm (m :: ms)) (hh : HeapL ls ls.length) : ls[0]? = some m := by
  have hl := hp.length_eq
  simp only [List.length_cons] at hl
  have hm : m ∈ ls := hp.mem_iff.2 (by simp)
  obtain ⟨c, hc, rfl⟩ := List.getElem_of_mem hm
  have h0 : ls[0]? = some (ls[0]'(by omega)) := List.getElem?_eq_getElem (by omega)
  have hle := heap_least hh c hc
  rw [key_of h0, key_of (List.getElem?_eq_getElem hc)] at hle
  have hin : ls[0]'(by omega) ∈ ls[c] :: ms := hp.mem_iff.1 (List.getElem_mem _)
  rcases List.mem_cons.1 hin with h | h
  · rw [h0, h]
  · have := (List.pairwise_cons.1 hr).1 _ h
    omega
/-- The last one cut off: what is left. -/
theorem perm_cut {β : Type} {ls ms : List β} {m : β} {n : Nat} (hp : ls.Perm (m :: ms)) (hl : ls.length = n + 1) (hm : ls[n]? = some m) : (ls.take n).Perm ms := by
  have e : ls = ls.take n ++ [m] := by
    have h1 : ls.take (n + 1) = ls.take n ++ [m] := by rw [List.take_add_one, hm]; rfl
    rw [← h1, List.take_of_length_le (by omega)]
  have h2 : (m :: ls.take n).Perm (m :: ms) := by
    refine List.Perm.trans ?_ hp
    conv => rhs; rw [e]
    exact (List.perm_append_singleton m (ls.take n)).symm
  exact h2.cons_inv
theorem heap_cut {β : Type} {ls : List (Int × β)} {n : Nat} (h : HeapL ls n) (hn : n ≤ ls.length) : HeapL (ls.take n) n := fun c h0 hc => by
  rw [key_congr (ls := ls.take n) (ms := ls) (c := c) (by rw [List.getElem?_take, if_pos hc]), key_congr (ls := ls.take n) (ms := ls) (c := (c - 1) / 2) (by rw [List.getElem?_take, if_pos (by omega)])]
  exact h c h0 hc
end Go.Proofs.Ytfflmbpjolgghaa
