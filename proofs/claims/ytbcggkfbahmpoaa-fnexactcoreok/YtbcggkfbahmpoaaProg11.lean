
/- Programs and lists of descs, of the specification: their codes, what is work, what is touched. Conditions: lists that read as told, of lengths that a machine can hold. -/
import Derived.Test.YtbcggkfbahmpoaaOpL
import Derived.Test.YtbcggkfbahmpoaaOps
import Derived.Test.YtbcggkfbahmpoaaLayout3
import Derived.Test.YtbcggkfbahmpoaaPutL
import Derived.Test.YtbcggkfbahmpoaaDescs
import Derived.Test.YtbcggkfbahmpoaaLines6
import Derived.Deep.QuietTactic
namespace Go.Proofs.Ytbcggkfbahmpoaa
open Go.ChangeShapes Go.WideShapes Go.ChangeAt Go.RowKit
set_option linter.unusedVariables false

def opOkD (u : OpD) : Bool := opB u.1 u.2.1 u.2.2.1 u.2.2.2
def adrOk (l : Int) (u : OpD) : Bool := betw u.2.1 0 (2 * l - 1)
def progI (c s y l : Int) (xs : List OpD) : Int := if codeI c s y l = 0 then (if xs.length ≤ 30 then (if xs.all opOkD then (if xs.all (adrOk l) then 0 else 4) else 3) else 2) else 1
def descB (u : DescD) : Bool := if u.1 then betw u.2.2.1 1 3 && isL u.2.2.2 else decide (u.2.2.1 = 0) && decide (u.2.2.2.length = 0)
def dlnOk (l : Int) (u : DescD) : Bool := betw u.2.1 0 (l - 1)
def descI (c s y l : Int) (xs : List DescD) : Int := if codeI c s y l = 0 then (if xs.length ≤ 30 then (if xs.all descB then (if xs.all (dlnOk l) then 0 else 4) else 5) else 2) else 1
def lensI (ps : List (List OpD)) : Nat := (ps.map List.length).sum
def touL (xs : List OpD) : List Int := xs.foldl (fun out u => if opOkD u then insL out (u.2.1 / 2) else out) []
theorem all_step {α : Type} {p : α → Bool} {xs : List α} {k : Nat} {x : α} (h : (xs.take k).all p = true) (hx : xs[k]? = some x) (hp : p x = true) : (xs.take (k + 1)).all p = true := by
  rw [List.take_add_one, hx, List.all_append, h]
  simp [hp]
theorem all_not {α : Type} {p : α → Bool} {xs : List α} {k : Nat} {x : α} (hx : xs[k]? = some x) (hp : p x = false) : xs.all p = false := by
  rw [Bool.eq_false_iff]
  intro h
  have := List.all_eq_true.1 h x (List.mem_of_getElem? hx)
  rw [hp] at this
  cases this
theorem lens_step {ps : List (List OpD)} {k : Nat} {x : List OpD} (hx : ps[k]? = some x) : lensI (ps.take (k + 1)) = lensI (ps.take k) + x.length := by simp [lensI, List.take_add_one, hx]
theorem lens_take (ps : List (List OpD)) (k : Nat) : lensI (ps.take k) ≤ lensI ps := by
  unfold lensI
  conv => rhs; rw [← List.take_append_drop k ps, List.map_append, List.sum_append]
  exact Nat.le_add_right _ _
theorem lens_get {ps : List (List OpD)} {k : Nat} {x : List OpD} (hx : ps[k]? = some x) : lensI (ps.take k) + x.length ≤ lensI ps := by
  have := lens_take ps (k + 1)
  rw [lens_step hx] at this
  exact this
theorem tou_step {xs : List OpD} {k : Nat} {x : OpD} (hx : xs[k]? = some x) : touL (xs.take (k + 1)) = if opOkD x then insL (touL (xs.take k)) (x.2.1 / 2) else touL (xs.take k) := by
  unfold touL
  rw [List.take_add_one, hx, List.foldl_append]
  rfl
theorem tou_len (xs : List OpD) : (touL xs).length ≤ xs.length := by
  have : ∀ (ys : List OpD) (out : List Int), (ys.foldl (fun out u => if opOkD u then insL out (u.2.1 / 2) else out) out).length ≤ out.length + ys.length := by
    intro ys
    induction ys with
    | nil => intro out; simp
    | cons y ys ih =>
      intro out
      simp only [List.foldl_cons, List.length_cons]
      refine Nat.le_trans (ih _) ?_
      split
      · have := ins_len out (y.2.1 / 2); omega
      · omega
  simpa [touL] using this xs []
theorem op_addr {u : OpD} (h : opOkD u = true) : 0 ≤ u.2.1 ∧ u.2.1 ≤ 31 := by
  simp [opOkD, opB, betw] at h
  omega
theorem tdiv_two {a : Int} (h : 0 ≤ a) : a.tdiv 2 = a / 2 := Int.tdiv_eq_ediv_of_nonneg h

theorem ins_mem {xs : List Int} {n x : Int} (h : x ∈ insL xs n) : x ∈ xs ∨ x = n := by
  induction xs with
  | nil => simp [insL] at h; exact .inr h
  | cons y r ih =>
    unfold insL at h
    split at h
    · rcases List.mem_cons.1 h with h | h
      · exact .inl (by rw [h]; exact List.mem_cons_self ..)
      · rcases ih h with h | h
        · exact .inl (List.mem_cons_of_mem _ h)
        · exact .inr h
    · split at h
      · exact .inl h
      · rcases List.mem_cons.1 h with h | h
        · exact .inr h
        · exact .inl h
theorem tou_bd (xs : List OpD) : ∀ x ∈ touL xs, 0 ≤ x ∧ x ≤ 15 := by
  have : ∀ (ys : List OpD) (out : List Int), (∀ x ∈ out, 0 ≤ x ∧ x ≤ 15) → ∀ x ∈ ys.foldl (fun out u => if opOkD u then insL out (u.2.1 / 2) else out) out, 0 ≤ x ∧ x ≤ 15 := by
    intro ys
    induction ys with
    | nil => intro out h x hx; exact h x hx
    | cons y ys ih =>
      intro out h x hx
      refine ih _ ?_ x hx
      intro z hz
      replace hz : z ∈ (if opOkD y = true then insL out (y.2.1 / 2) else out) := hz
      split at hz
      · rename_i ho
        have ha := op_addr ho
        rcases ins_mem hz with hz | hz
        · exact h z hz
        · omega
      · exact h z hz
  exact this xs [] (by simp)
theorem ins_rise {xs : List Int} {n : Int} (h : xs.Pairwise (· < ·)) : (insL xs n).Pairwise (· < ·) := by
  induction xs with
  | nil => simp [insL]
  | cons y r ih =>
    rw [List.pairwise_cons] at h
    unfold insL
    split
    · rename_i hy
      rw [List.pairwise_cons]
      refine ⟨fun z hz => ?_, ih h.2⟩
      rcases ins_mem hz with hz | hz
      · exact h.1 z hz
      · omega
    · split
      · exact List.pairwise_cons.2 h
      · rename_i h1 h2
        rw [List.pairwise_cons]
        refine ⟨fun z hz => ?_, List.pairwise_cons.2 h⟩
        rcases List.mem_cons.1 hz with hz | hz
        · omega
        · have := h.1 z hz; omega
theorem tou_rise (xs : List OpD) : (touL xs).Pairwise (· < ·) := by
  have : ∀ (ys : List OpD) (out : List Int), out.Pairwise (· < ·) → (ys.foldl (fun out u => if opOkD u then insL out (u.2.1 / 2) else out) out).Pairwise (· < ·) := by
    intro ys
    induction ys with
    | nil => intro out h; exact h
    | cons y ys ih =>
      intro out h
      refine ih _ ?_
      show (if opOkD y = true then insL out (y.2.1 / 2) else out).Pairwise (· < ·)
      split
      · exact ins_rise h
      · exact h
  exact this xs [] List.Pairwise.nil
theorem rise_len {xs : List Int} {a b : Int} (h : xs.Pairwise (· < ·)) (hb : ∀ x ∈ xs, a ≤ x ∧ x ≤ b) : (xs.length : Int) ≤ b - a + 1 ∨ xs = [] := by
  induction xs generalizing a with
  | nil => exact .inr rfl
  | cons y r ih =>
    left
    rw [List.pairwise_cons] at h
    have hy := hb y (List.mem_cons_self ..)
    rcases ih (a := y + 1) h.2 (fun x hx => ⟨by have := h.1 x hx; omega, (hb x (List.mem_cons_of_mem _ hx)).2⟩) with h1 | h1
    · simp only [List.length_cons]; omega
    · rw [h1]; simp; omega
theorem tou_len16 (xs : List OpD) : (touL xs).length ≤ 16 := by
  rcases rise_len (tou_rise xs) (tou_bd xs) with h | h
  · omega
  · rw [h]; simp
theorem tou_in (xs : List OpD) : Hid (∀ x ∈ touL xs, In64 x) := fun x hx => ⟨by have := tou_bd xs x hx; omega, by have := tou_bd xs x hx; omega⟩
def codeV (p q : Bool) (n : Int) : Int := if p then (if q then 0 else 4) else n
theorem madeI_on {w w1 w2 : World} {v : Value} {zs : List Int} (h : Made w w1 v zs) (hb : Below w1.heap.size w1 w2) : Made w w2 v zs := by
  obtain ⟨g, cap, e, h1, h2, ho, hB⟩ := h
  exact ⟨g, cap, e, h1, Nat.lt_of_lt_of_le h2 hb.size, owni_below ho hb h2, hB.trans (hb.mono hB.size)⟩
theorem owni_cap {B g cap : Nat} {w : World} {zs : List Int} (h : OwnI B w g cap zs) : zs.length ≤ cap ∧ cap ≤ maxLen := by
  rcases h.2 with ⟨e, _⟩ | ⟨g', cap', cur, e, _, _, hc, hm, _⟩
  · cases e
  · simp only [Value.slice.injEq] at e
    obtain ⟨_, _, rfl⟩ := e
    exact ⟨by simpa using hc, hm⟩
end Go.Proofs.Ytbcggkfbahmpoaa
