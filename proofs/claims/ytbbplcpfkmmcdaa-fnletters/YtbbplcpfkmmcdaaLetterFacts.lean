/- What is taken letter by letter keeps each road's order. Plain facts on lists; no program here. -/
import Derived.Test.YtbbplcpfkmmcdaaSpecTaken
namespace Go.Proofs.Ytbbplcpfkmmcdaa
set_option linter.unusedVariables false

/-- The letters of one road, from and to. -/
def ofR (xs : List MsgD) (v : MsgD) : List MsgD := xs.filter (fun u => sameB u v)
theorem same_iff {u v : MsgD} : sameB u v = true ↔ (u.1 = v.1 ∧ u.2.1 = v.2.1 ∧ u.2.2.1 = v.2.2.1) := by
  simp [sameB]
theorem same_trans {u t v : MsgD} (h : sameB t v = true) : sameB u v = sameB u t := by
  have h1 := same_iff.1 h
  rw [Bool.eq_iff_iff, same_iff, same_iff, h1.1, h1.2.1, h1.2.2]
/-- One that is the first of its road is taken out: it comes first among its road's, the others of each road stay in their order. -/
theorem ofR_take : ∀ {ys : List MsgD} {n : Nat} {t : MsgD} (v : MsgD), ys[n]? = some t → NoneOf ys t n → ofR ys v = (if sameB t v then [t] else []) ++ ofR (ys.eraseIdx n) v
  | [], n, t, v, h, _ => by simp at h
  | y :: ys, 0, t, v, h, _ => by
    simp at h
    subst h
    by_cases hs : sameB y v = true
    · simp [ofR, hs]
    · simp [ofR, hs]
  | y :: ys, n + 1, t, v, h, hno => by
    simp at h
    have ih := ofR_take v h (fun j u hj hu => hno (j + 1) u (by omega) (by simpa using hu))
    have hy : sameB y t = false := hno 0 y (by omega) rfl
    rw [List.eraseIdx_cons_succ]
    by_cases hs : sameB t v = true
    · have : sameB y v = false := by rw [same_trans hs]; exact hy
      simp only [ofR, List.filter_cons, this, Bool.false_eq_true, if_false] at ih ⊢
      exact ih
    · simp only [ofR, hs, Bool.false_eq_true, if_false, List.nil_append] at ih ⊢
      simp only [List.filter_cons, ih]
theorem ofR_step {all out ys c : List MsgD} {k : Int} {t : MsgD} (h : ∀ v, ofR out v ++ ofR ys v = ofR all v) (ht : takenI ys k = (c, t, true)) : ∀ v, ofR (out ++ [t]) v ++ ofR c v = ofR all v := by
  intro v
  unfold takenI at ht
  split at ht
  · split at ht
    · rename_i h1 h2
      obtain ⟨hk0, x, hx, hno⟩ : 0 ≤ k ∧ ∃ v, ys[k.toNat]? = some v ∧ NoneOf ys v k.toNat := by simpa [firstB] using h2
      simp only [Prod.mk.injEq, and_true] at ht
      obtain ⟨rfl, ht⟩ := ht
      have hxt : x = t := by
        rw [← ht]
        simp [List.getD_eq_getElem?_getD, hx]
      subst hxt
      rw [← h v, ofR_take v hx hno]
      simp only [ofR, List.filter_append, List.append_assoc]
      by_cases hs : sameB x v = true
      · simp [hs]
      · simp [hs]
    · simp at ht
  · simp at ht
/-- Of a net that is right and not empty the first one can be taken. -/
theorem taken_first {ys : List MsgD} (hn : netB ys = true) (hl : 0 < ys.length) : ∃ t, takenI ys 0 = (ys.eraseIdx 0, t, true) := by
  cases ys with
  | nil => simp at hl
  | cons y ys =>
    refine ⟨y, ?_⟩
    have hf : firstB (y :: ys) 0 = true := by
      simp only [firstB]
      simp [NoneOf]
    unfold takenI
    rw [hn, hf]
    simp
theorem netB_erase {ys : List MsgD} {n : Nat} (h : netB ys = true) : netB (ys.eraseIdx n) = true := by
  simp only [netB, Bool.and_eq_true, decide_eq_true_eq, List.all_eq_true] at h ⊢
  exact ⟨Nat.le_trans (List.Sublist.length_le (List.eraseIdx_sublist ys n)) h.1, fun v hv => h.2 v (List.mem_of_mem_eraseIdx hv)⟩
end Go.Proofs.Ytbbplcpfkmmcdaa
