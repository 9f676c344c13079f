/- CacheOk, of the program, against stores as plain lists. Conditions: lists that read as told, of lengths that a machine can hold. -/
import Derived.Test.YtmldilmiihafoaaWaysOk
namespace Go.Proofs.Ytmldilmiihafoaa
open Go.ChangeShapes Go.WideShapes Go.ChangeAt Go.RowKit Go.Shelf
set_option linter.unusedVariables false

theorem pow_iff (n : Nat) : powB (n : Int) = true ↔ pow3 n := by
  simp only [powB, pow3, decide_eq_true_eq]
  omega
theorem div_mod_at {m i j : Nat} (hj : j < m) : (i * m + j) / m = i ∧ (i * m + j) % m = j := by
  have hm0 : 0 < m := by omega
  exact ⟨by rw [Nat.mul_comm, Nat.mul_add_div hm0, Nat.div_eq_of_lt hj, Nat.add_zero], by rw [Nat.mul_comm, Nat.mul_add_mod, Nat.mod_eq_of_lt hj]⟩
theorem idx_lt {s m i j : Nat} (hi : i < s) (hj : j < m) : i * m + j < s * m := by
  have : (i + 1) * m ≤ s * m := Nat.mul_le_mul_right _ hi
  rw [Nat.add_one_mul] at this
  omega

theorem wayK_at {c : CacheD} {m i j : Nat} {row : List WayD} {u : WayD} (hl : row.length = m) (hr : c.1[i]? = some row) (hu : row[j]? = some u) : wayK c m (i * m + j) = u := by
  have hj : j < m := by have := (List.getElem?_eq_some_iff.1 hu).1; omega
  obtain ⟨e1, e2⟩ := div_mod_at (i := i) hj
  unfold wayK
  rw [e1, e2]
  simp [List.getD_eq_getElem?_getD, hr, hu]

theorem ok_link {c : CacheD} : OkC isL treeB c ↔ Shape c ∧ UptoOk c (waysN c) (c.1.length * waysN c) := by
  constructor
  · rintro ⟨h1, h2, m, hm, h3⟩
    have hpos := pow3_pos h1
    have hmp := pow3_pos hm
    have hw : waysN c = m := by
      have e : c.1[0]? = some (c.1.getD 0 []) := by rw [List.getD_eq_getElem?_getD, List.getElem?_eq_getElem hpos]; rfl
      exact (h3 0 _ e).1
    rw [hw]
    have hrow : ∀ row ∈ c.1, row.length = m := fun row hr => by
      obtain ⟨i, hi⟩ := List.mem_iff_getElem?.1 hr
      exact (h3 i row hi).1
    refine ⟨⟨(pow_iff _).2 h1, h2, fun i hi row t hr ht => ?_⟩, fun j hj => ?_⟩
    · obtain ⟨a1, ⟨t', a2, a3⟩, _⟩ := h3 i row hr
      rw [ht] at a2
      cases a2
      rw [hw]
      exact ⟨a1, a3⟩
    · obtain ⟨row, e1, e2⟩ := wayK_get hmp hrow hj
      obtain ⟨_, _, a1, a2⟩ := h3 _ row e1
      rcases a1 _ _ e2 with hc | ⟨hf, hs⟩
      · exact .inl hc
      · refine .inr ⟨hf, hs, fun i hi he => ?_⟩
        have hl := full_line hf
        obtain ⟨row', f1, f2⟩ := wayK_get hmp hrow (show i < c.1.length * m by omega)
        obtain ⟨_, _, b1, b2⟩ := h3 _ row' f1
        rcases b1 _ _ f2 with hc | ⟨hf', hs'⟩
        · rw [clear_eq hc] at he
          simp [emptyW] at he
          omega
        · rw [he, hs] at hs'
          have hdiv : j / m = i / m := by omega
          rw [hdiv, f1] at e1
          cases e1
          have := b2 _ _ _ _ f2 e2 (by omega) he
          have d1 := Nat.div_add_mod i m
          have d2 := Nat.div_add_mod j m
          rw [hdiv, ← this] at d2
          omega
  · rintro ⟨⟨h1, h2, h3⟩, h4⟩
    have hp := (pow_iff _).1 h1
    have hpos := pow3_pos hp
    have e0 : c.1[0]? = some (c.1.getD 0 []) := by rw [List.getD_eq_getElem?_getD, List.getElem?_eq_getElem hpos]; rfl
    obtain ⟨t0, ht0⟩ : ∃ t, c.2[0]? = some t := ⟨_, List.getElem?_eq_getElem (by omega)⟩
    have hm : pow3 (waysN c) := by
      have := tree_pow (h3 0 hpos _ _ e0 ht0).2
      unfold pow3
      omega
    refine ⟨hp, h2, waysN c, hm, fun s row hs => ?_⟩
    have hsl := (List.getElem?_eq_some_iff.1 hs).1
    obtain ⟨t, ht⟩ : ∃ t, c.2[s]? = some t := ⟨_, List.getElem?_eq_getElem (by omega)⟩
    obtain ⟨a1, a2⟩ := h3 s hsl row t hs ht
    refine ⟨a1, ⟨t, ht, a2⟩, fun i u hu => ?_, fun i k u x hu hx h0 he => ?_⟩
    · have hi : i < waysN c := by have := (List.getElem?_eq_some_iff.1 hu).1; omega
      have := h4 _ (idx_lt hsl hi)
      rw [wayK_at a1 hs hu, (div_mod_at hi).1] at this
      rcases this with h | ⟨h, h', _⟩
      · exact .inl h
      · exact .inr ⟨h, h'⟩
    · have hi : i < waysN c := by have := (List.getElem?_eq_some_iff.1 hu).1; omega
      have hk : k < waysN c := by have := (List.getElem?_eq_some_iff.1 hx).1; omega
      have key : ∀ (i k : Nat) (u x : WayD), row[i]? = some u → row[k]? = some x → 0 ≤ u.1 → u.1 = x.1 → i < waysN c → k < waysN c → ¬ i < k := by
        intro i k u x hu hx h0 he hi hk hlt
        have := h4 _ (idx_lt hsl hk)
        rw [wayK_at a1 hs hx] at this
        rcases this with h | ⟨_, _, h⟩
        · rw [clear_eq h] at he
          simp [emptyW] at he
          omega
        · have := h (s * waysN c + i) (by omega)
          rw [wayK_at a1 hs hu] at this
          exact this he
      have k1 := key i k u x hu hx h0 he hi hk
      have k2 := key k i x u hx hu (by omega) he.symm hk hi
      omega

theorem ok_eq (c : CacheD) : okB isL treeB c = (shapeB c && waysB c (waysN c)) := by
  rw [Bool.eq_iff_iff, okB_iff, ok_link, Bool.and_eq_true]
  simp [shapeB, waysB]

theorem shape_facts {c : CacheD} (h : shapeB c = true) : Shape c ∧ (c.1.length = 1 ∨ c.1.length = 2 ∨ c.1.length = 4) ∧ (waysN c = 1 ∨ waysN c = 2 ∨ waysN c = 4) ∧ ∀ row ∈ c.1, row.length = waysN c := by
  have hs : Shape c := by simpa [shapeB] using h
  obtain ⟨h1, h2, h3⟩ := hs
  have hp := (pow_iff _).1 h1
  have hpos := pow3_pos hp
  have e0 : c.1[0]? = some (c.1.getD 0 []) := by rw [List.getD_eq_getElem?_getD, List.getElem?_eq_getElem hpos]; rfl
  obtain ⟨t0, ht0⟩ : ∃ t, c.2[0]? = some t := ⟨_, List.getElem?_eq_getElem (by omega)⟩
  have hm := tree_pow (h3 0 hpos _ _ e0 ht0).2
  refine ⟨⟨h1, h2, h3⟩, hp, by omega, fun row hr => ?_⟩
  obtain ⟨i, hi⟩ := List.mem_iff_getElem?.1 hr
  have hil := (List.getElem?_eq_some_iff.1 hi).1
  obtain ⟨t, ht⟩ : ∃ t, c.2[i]? = some t := ⟨_, List.getElem?_eq_getElem (by omega)⟩
  exact (h3 i hil row t hi ht).1

set_option maxHeartbeats 400000 in
theorem implCacheOk_any (a b : Option Addr) (c : CacheD) (cap cp : Nat) (w : World) (h1 : SlRd waysR w a c.1) (h2 : SlRd intR w b c.2) (m1 : c.1.length ≤ maxLen) (m2 : c.2.length ≤ maxLen) (m3 : ∀ row ∈ c.1, row.length ≤ maxLen) :
    Calls Try.prog 18 #[.agg #[.slice a c.1.length cap, .slice b c.2.length cp]] w fun e w' => e = .returned (.bool (okB isL treeB c)) ∧ Below w.heap.size w w' := by
  rw [ok_eq]
  have X := heap_at w (.cells #[.slice a c.1.length cap, .slice b c.2.length cp] 27)
  have B := box_below w (.cells #[.slice a c.1.length cap, .slice b c.2.length cp] 27)
  have HS := shapeOk_any a b c cap cp (w.alloc (.cells #[.slice a c.1.length cap, .slice b c.2.length cp] 27)) (slrd_next h1 B) (slrd_next h2 B) m1 m2 m3
  have H1 : Hid _ := h1
  clear h1 h2 m1 m2 m3
  cases hs : shapeB c
  · rw [hs] at HS
    go_enter Try.func18, Try.ntmps18
    go_wp2_with (go_at_call 54; refine HS.mono ?_; rintro e w' ⟨rfl, bb⟩)
    go_ret
    exact ⟨rfl, below_step B bb⟩
  · rw [hs] at HS
    obtain ⟨_, f1, f2, f3⟩ := shape_facts hs
    have HW : Hid (∀ W, Below w.heap.size w W → Calls Try.prog 55 #[.agg #[.slice a c.1.length cap, .slice b c.2.length cp]] W fun e w' => e = .returned (.bool (waysB c (waysN c))) ∧ Below W.heap.size W w') :=
      fun W hb => waysOk_any a b c cap cp (waysN c) W (slrd_keep H1.out fun k hk => hb.block k hk) f1 f2 f3
    clear f1 f2 f3
    go_enter Try.func18, Try.ntmps18
    go_wp2_with fail
    refine HS.mono ?_
    rintro e w1 ⟨rfl, b1⟩
    have b2 := below_step B b1
    obtain ⟨n0, n1⟩ := cells_two (row_keep b1 X)
    go_wp2_with fail
    refine (HW.out _ b2).mono ?_
    rintro e w2 ⟨rfl, b3⟩
    have b4 := below_step b2 b3
    clear b1 b2 b3 n0 n1 X B HS HW
    go_wp2
    all_goals go_ret
    all_goals exact ⟨by simp_all, b4⟩

end Go.Proofs.Ytmldilmiihafoaa
