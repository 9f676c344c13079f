
/- Plain facts on programs: the lines that are touched, against the addresses. No program in it. -/
import Derived.Test.YteblffhbennpnaaDoorProg11
namespace Go.Proofs.YteblffhbennpnaaDoor
open Go.ChangeShapes Go.WideShapes Go.ChangeAt Go.RowKit
set_option linter.unusedVariables false

theorem ins_self {xs : List Int} {n : Int} : n ∈ insL xs n := by
  induction xs with
  | nil => simp [insL]
  | cons y r ih =>
    unfold insL
    split
    · exact List.mem_cons_of_mem _ ih
    · split
      · rename_i h; rw [h]; exact List.mem_cons_self ..
      · exact List.mem_cons_self ..
theorem ins_keep {xs : List Int} {n x : Int} (h : x ∈ xs) : x ∈ insL xs n := by
  induction xs with
  | nil => simp at h
  | cons y r ih =>
    unfold insL
    split
    · rcases List.mem_cons.1 h with h | h
      · rw [h]; exact List.mem_cons_self ..
      · exact List.mem_cons_of_mem _ (ih h)
    · split
      · exact h
      · exact List.mem_cons_of_mem _ h
theorem tou_iff (xs : List OpD) (t : Int) : t ∈ touL xs ↔ ∃ u ∈ xs, opOkD u = true ∧ t = u.2.1 / 2 := by
  have : ∀ (ys : List OpD) (out : List Int), t ∈ ys.foldl (fun out u => if opOkD u then insL out (u.2.1 / 2) else out) out ↔ t ∈ out ∨ ∃ u ∈ ys, opOkD u = true ∧ t = u.2.1 / 2 := by
    intro ys
    induction ys with
    | nil => intro out; simp
    | cons y ys ih =>
      intro out
      rw [List.foldl_cons, ih]
      cases hy : opOkD y
      · simp [hy]
      · simp only [if_true]
        constructor
        · rintro (h | ⟨u, hu, h⟩)
          · rcases ins_mem h with h | h
            · exact .inl h
            · exact .inr ⟨y, List.mem_cons_self .., hy, h⟩
          · exact .inr ⟨u, List.mem_cons_of_mem _ hu, h⟩
        · rintro (h | ⟨u, hu, h1, h2⟩)
          · exact .inl (ins_keep h)
          · rcases List.mem_cons.1 hu with hu | hu
            · subst hu; exact .inl (by rw [h2]; exact ins_self)
            · exact .inr ⟨u, hu, h1, h2⟩
  rw [touL, this]
  simp
theorem rise_last {L : List Int} (h : L.Pairwise (· < ·)) {t : Int} (ht : t ∈ L) : t ≤ L.getD (L.length - 1) 0 := by
  induction L generalizing t with
  | nil => simp at ht
  | cons y r ih =>
    rw [List.pairwise_cons] at h
    cases r with
    | nil => simp at ht; subst ht; simp
    | cons z q =>
      have e : (y :: z :: q).getD ((y :: z :: q).length - 1) 0 = (z :: q).getD ((z :: q).length - 1) 0 := by
        simp only [List.length_cons]
        rw [show q.length + 1 + 1 - 1 = (q.length + 1 - 1) + 1 by omega]
        rfl
      rw [e]
      rcases List.mem_cons.1 ht with ht | ht
      · have h1 := h.1 z (List.mem_cons_self ..)
        have h2 := ih h.2 (List.mem_cons_self ..)
        omega
      · exact ih h.2 ht
theorem last_mem {L : List Int} (h : L ≠ []) : L.getD (L.length - 1) 0 ∈ L := by
  have hl : L.length - 1 < L.length := by
    cases L with
    | nil => exact absurd rfl h
    | cons y r => simp
  rw [List.getD_eq_getElem?_getD, List.getElem?_eq_getElem hl]
  exact List.getElem_mem hl
/-- What FnPrograms asks of the lines that are touched. -/
theorem prog_in {xs : List OpD} {l : Int} (h : xs.all opOkD = true) : xs.all (adrOk l) = (decide (touL xs = []) || decide ((touL xs).getD ((touL xs).length - 1) 0 < l)) := by
  rw [Bool.eq_iff_iff, List.all_eq_true]
  simp only [Bool.or_eq_true, decide_eq_true_eq]
  rw [List.all_eq_true] at h
  constructor
  · intro ha
    by_cases he : touL xs = []
    · exact .inl he
    · right
      obtain ⟨u, hu, _, h2⟩ := (tou_iff xs _).1 (last_mem he)
      have := ha u hu
      simp [adrOk, betw] at this
      rw [h2]
      omega
  · intro hq u hu
    have hm := (tou_iff xs (u.2.1 / 2)).2 ⟨u, hu, h u hu, rfl⟩
    have hd := op_addr (h u hu)
    rcases hq with hq | hq
    · rw [hq] at hm; simp at hm
    · have := rise_last (tou_rise xs) hm
      simp [adrOk, betw]
      omega
theorem lens_small {ps : List (List OpD)} {n : Nat} (h : ∀ p ∈ ps, p.length ≤ n) : lensI ps ≤ n * ps.length := by
  induction ps with
  | nil => simp [lensI]
  | cons p ps ih =>
    have h1 := h p (List.mem_cons_self ..)
    have h2 := ih fun q hq => h q (List.mem_cons_of_mem _ hq)
    have e : lensI (p :: ps) = p.length + lensI ps := by simp [lensI]
    rw [e, List.length_cons, Nat.mul_add]
    omega
theorem take_all {α : Type} {p : α → Bool} {xs : List α} {k : Nat} {x : α} (hx : xs[k]? = some x) : (xs.take (k + 1)).all p = ((xs.take k).all p && p x) := by
  rw [List.take_add_one, hx, List.all_append]
  simp
/-- The last line that is touched, as an element. -/
theorem last_at {L : List Int} (h : L ≠ []) : ∃ n x, L.length = n + 1 ∧ L[n]? = some x ∧ L.getD (L.length - 1) 0 = x := by
  cases L with
  | nil => exact absurd rfl h
  | cons y r =>
    have hl : r.length < (y :: r).length := by simp
    exact ⟨r.length, (y :: r)[r.length], by simp, List.getElem?_eq_getElem hl, by rw [List.length_cons, Nat.add_sub_cancel, List.getD_eq_getElem?_getD, List.getElem?_eq_getElem hl]; rfl⟩
/-- One number of a list that reads. -/
theorem int_get {w : World} {a : Option Addr} {xs : List Int} {j : Nat} {x : Int} (h : SlRd intR w a xs) (hx : xs[j]? = some x) : ∃ b off, a = some ⟨b, off, none⟩ ∧ w.cell? ⟨b, off + j, none⟩ = some (.int .i64 x) := by
  rcases reads_of h with h | ⟨b, off, ha, hc⟩
  · rw [h] at hx; simp at hx
  · obtain ⟨hj, hv⟩ := List.getElem?_eq_some_iff.1 hx
    refine ⟨b, off, ha, ?_⟩
    have := hc j hj
    rw [this, List.getD_eq_getElem?_getD, hx]
    rfl
end Go.Proofs.YteblffhbennpnaaDoor
