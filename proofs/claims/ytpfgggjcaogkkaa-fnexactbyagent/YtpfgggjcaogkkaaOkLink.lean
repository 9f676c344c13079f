
import Derived.Test.YtpfgggjcaogkkaaWaysOk
/- CacheOk, of the program, against stores as plain lists. Conditions: lists that read as told, of lengths that a machine can hold. -/
namespace Go.Proofs.Ytpfgggjcaogkkaa
open Go.ChangeShapes Go.WideShapes Go.ChangeAt Go.RowKit Go.Shelf
set_option linter.unusedVariables false

theorem pow_iff (n : Nat) : powB (n : Int) = true ↔ pow3 n := by
  simp only [powB, pow3, decide_eq_true_eq]
  omega
theorem div_mod_at {m i j : Nat} (hj : j < m) : (i * m + j) / m = i ∧ (i * m + j) % m = j := by
  have hm0 : 0 < m := by omega
  exact ⟨by rw [Nat.mul_comm, Nat.mul_add_div hm0, Nat.div_eq_of_lt hj, Nat.add_zero], by rw [Nat.mul_comm, Nat.mul_add_mod, Nat.mod_eq_of_lt hj]⟩
theorem idx_lt {s m i j : Nat} (hi : i < s) (hj : j < m) : i * m + j < s * m := by
  have : (i + 1) * m ≤ s * m := Nat.mul_le_mul_right _ hi
  rw [Nat.add_one_mul] at this
  omega

theorem wayK_at {c : CacheD} {m i j : Nat} {row : List WayD} {u : WayD} (hl : row.length = m) (hr : c.1[i]? = some row) (hu : row[j]? = some u) : wayK c m (i * m + j) = u := by
  have hj : j < m := by have := (List.getElem?_eq_some_iff.1 hu).1; omega
  obtain ⟨e1, e2⟩ := div_mod_at (i := i) hj
  unfold wayK
  rw [e1, e2]
  simp [List.getD_eq_getElem?_getD, hr, hu]

theorem ok_link {c : CacheD} : OkC isL treeB c ↔ Shape c ∧ UptoOk c (waysN c) (c.1.length * waysN c) := by
  constructor
  · rintro ⟨h1, h2, m, hm, h3⟩
    have hpos := pow3_pos h1
    have hmp := pow3_pos hm
    have hw : waysN c = m := by
      have e : c.1[0]? = some (c.1.getD 0 []) := by rw [List.getD_eq_getElem?_getD, List.getElem?_eq_getElem hpos]; rfl
      exact (h3 0 _ e).1
    rw [hw]
    have hrow : ∀ row ∈ c.1, row.length = m := fun row hr => by
      obtain ⟨i, hi⟩ := List.mem_iff_getElem?.1 hr
      exact (h3 i row hi).1
    refine ⟨⟨(pow_iff _).2 h1, h2, fun i hi row t hr ht => ?_⟩, fun j hj => ?_⟩
    · obtain ⟨a1, ⟨t', a2, a3⟩, _⟩ := h3 i row hr
      rw [ht] at a2
      cases a2
      rw [hw]
      exact ⟨a1, a3⟩
    · obtain ⟨row, e1, e2⟩ := wayK_get hmp hrow hj
      obtain ⟨_, _, a1, a2⟩ := h3 _ row e1
      rcases a1 _ _ e2 with hc | ⟨hf, hs⟩
      · exact .inl hc
      · refine .inr ⟨hf, hs, fun i hi he => ?_⟩
        have hl := full_line hf
        obtain ⟨row', f1, f2⟩ := wayK_get hmp hrow (show i < c.1.length * m by omega)
        obtain ⟨_, _, b1, b2⟩ := h3 _ row' f1
        rcases b1 _ _ f2 with hc | ⟨hf', hs'⟩
        · rw [clear_eq hc] at he
          simp [emptyW] at he
          omega
        · rw [he, hs] at hs'
          have hdiv : j / m = i / m := by omega
          rw [hdiv, f1] at e1
          cases e1
          have := b2 _ _ _ _ f2 e2 (by omega) he
          have d1 := Nat.div_add_mod i m
          have d2 := Nat.div_add_mod j m
          rw [hdiv, ← this] at d2
          omega
  · rintro ⟨⟨h1, h2, h3⟩, h4⟩
    have hp := (pow_iff _).1 h1
    have hpos := pow3_pos hp
    have e0 : c.1[0]? = some (c.1.getD 0 []) := by rw [List.getD_eq_getElem?_getD, List.getElem?_eq_getElem hpos]; rfl
    obtain ⟨t0, ht0⟩ : ∃ t, c.2[0]? = some t := ⟨_, List.getElem?_eq_getElem (by omega)⟩
    have hm : pow3 (waysN c) := by
      have := tree_pow (h3 0 hpos _ _ e0 ht0).2
      unfold pow3
      omega
    refine ⟨hp, h2, waysN c, hm, fun s row hs => ?_⟩
    have hsl := (List.getElem?_eq_some_iff.1 hs).1
    obtain ⟨t, ht⟩ : ∃ t, c.2[s]? = some t := ⟨_, List.getElem?_eq_getElem (by omega)⟩
    obtain ⟨a1, a2⟩ := h3 s hsl row t hs ht
    refine ⟨a1, ⟨t, ht, a2⟩, fun i u hu => ?_, fun i k u x hu hx h0 he => ?_⟩
    · have hi : i < waysN c := by have := (List.getElem?_eq_some_iff.1 hu).1; omega
      have := h4 _ (idx_lt hsl hi)
      rw [wayK_at a1 hs hu, (div_mod_at hi).1] at this
      rcases this with h | ⟨h, h', _⟩
      · exact .inl h
      · exact .inr ⟨h, h'⟩
    · have hi : i < waysN c := by have := (List.getElem?_eq_some_iff.1 hu).1; omega
      have hk : k < waysN c := by have := (List.getElem?_eq_some_iff.1 hx).1; omega
      have key : ∀ (i k : Nat) (u x : WayD), row[i]? = some u → row[k]? = some x → 0 ≤ u.1 → u.1 = x.1 → i < waysN c → k < waysN c → ¬ i < k := by
        intro i k u x hu hx h0 he hi hk hlt
        have := h4 _ (idx_lt hsl hk)
        rw [wayK_at a1 hs hx] at this
        rcases this with h | ⟨_, _, h⟩
        · rw [clear_eq h] at he
          simp [emptyW] at he
          omega
        · have := h (s * waysN c + i) (by omega)
          rw [wayK_at a1 hs hu] at this
          exact this he
      have k1 := key i k u x hu hx h0 he hi hk
      have k2 := key k i x u hx hu (by omega) he.symm hk hi
      omega

theorem ok_eq (c : CacheD) : okB isL treeB c = (shapeB c && waysB c (waysN c)) := by
  rw [Bool.eq_iff_iff, okB_iff, ok_link, Bool.and_eq_true]
  simp [shapeB, waysB]

theorem shape_facts {c : CacheD} (h : shapeB c = true) : Shape c ∧ (c.1.length = 1 ∨ c.1.length = 2 ∨ c.1.length = 4) ∧ (waysN c = 1 ∨ waysN c = 2 ∨ waysN c = 4) ∧ ∀ row ∈ c.1, row.length = waysN c := by
  have hs : Shape c := by simpa [shapeB] using h
  obtain ⟨h1, h2, h3⟩ := hs
  have hp := (pow_iff _).1 h1
  have hpos := pow3_pos hp
  have e0 : c.1[0]? = some (c.1.getD 0 []) := by rw [List.getD_eq_getElem?_getD, List.getElem?_eq_getElem hpos]; rfl
  obtain ⟨t0, ht0⟩ : ∃ t, c.2[0]? = some t := ⟨_, List.getElem?_eq_getElem (by omega)⟩
  have hm := tree_pow (h3 0 hpos _ _ e0 ht0).2
  refine ⟨⟨h1, h2, h3⟩, hp, by omega, fun row hr => ?_⟩
  obtain ⟨i, hi⟩ := List.mem_iff_getElem?.1 hr
  have hil := (List.getElem?_eq_some_iff.1 hi).1
  obtain ⟨t, ht⟩ : ∃ t, c.2[i]? = some t := ⟨_, List.getElem?_eq_getElem (by omega)⟩
  exact (h3 i hil row t hi ht).1


end Go.Proofs.Ytpfgggjcaogkkaa

/- CacheOk, of the specification, against stores as plain lists. Conditions: lists that read as told, of lengths that a machine can hold. -/
namespace Go.Proofs.Ytpfgggjcaogkkaa
open Go.ChangeShapes Go.WideShapes Go.ChangeAt Go.RowKit Go.Shelf
set_option linter.unusedVariables false

/-- Of one set and those ahead of it: no line twice. -/
theorem upto_row {c : CacheD} {m s i : Nat} (hm : i < m) (h : UptoOk c m (s * m + i)) {l : Int} (h0 : 0 ≤ l) (hs : l % (c.1.length : Int) = (s : Nat)) (hno : ∀ k, k < i → (wayK c m (s * m + k)).1 ≠ l) : ∀ j, j < s * m + i → (wayK c m j).1 ≠ l := by
  intro j hj he
  by_cases hr : s * m ≤ j
  · exact hno (j - s * m) (by omega) (by rw [show s * m + (j - s * m) = j by omega]; exact he)
  · have hjs : j / m < s := by rw [Nat.div_lt_iff_lt_mul (by omega)]; omega
    rcases h j hj with hc | ⟨_, hq, _⟩
    · rw [clear_eq hc] at he
      simp [emptyW] at he
      omega
    · rw [he, hs] at hq
      omega
theorem no_of_upto {c : CacheD} (h : ¬ UptoOk c (waysN c) (c.1.length * waysN c)) : okB isL treeB c = false := by
  rw [ok_eq, waysB_no h, Bool.and_false]
theorem no_of_shape {c : CacheD} (h : ¬ Shape c) : okB isL treeB c = false := by
  rw [ok_eq, shape_no h, Bool.false_and]
theorem yes_of {c : CacheD} (h : Shape c) (h' : UptoOk c (waysN c) (c.1.length * waysN c)) : okB isL treeB c = true := by
  rw [ok_eq, shape_yes h, waysB_yes h', Bool.and_true]


end Go.Proofs.Ytpfgggjcaogkkaa
