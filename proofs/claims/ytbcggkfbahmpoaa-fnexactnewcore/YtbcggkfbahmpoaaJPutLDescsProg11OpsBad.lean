import Derived.Test.YtbcggkfbahmpoaaJLinesBoxesAppGenOwned
import Derived.Test.YtbcggkfbahmpoaaJLines6OpsOpLLinesOk
import Derived.Test.YtbcggkfbahmpoaaJPowLayoutLayout2Layout3
import Derived.Deep.QuietTactic

/- A number put into a rising list, by the specification. Conditions: lists of at most 2^20 numbers. -/
namespace Go.Proofs.Ytbcggkfbahmpoaa
open Go.ChangeShapes Go.WideShapes Go.ChangeAt Go.RowKit
set_option linter.unusedVariables false

def insL : List Int → Int → List Int
  | [], n => [n]
  | x :: r, n => if x < n then x :: insL r n else if x = n then x :: r else n :: x :: r
theorem ins_here : ∀ {xs : List Int} {n : Int} {k : Nat}, k ≤ xs.length → (∀ j, j < k → xs.getD j 0 < n) → (k < xs.length → n < xs.getD k 0) → insL xs n = xs.take k ++ n :: xs.drop k
  | [], n, k, hk, _, _ => by have : k = 0 := by simpa using hk
                             subst this; rfl
  | x :: r, n, 0, _, _, h => by
    have : n < x := h (by simp)
    unfold insL
    rw [if_neg (by omega), if_neg (by omega)]; rfl
  | x :: r, n, k + 1, hk, h1, h2 => by
    have : x < n := h1 0 (by omega)
    unfold insL
    rw [if_pos this, ins_here (k := k) (by simpa using hk) (fun j hj => h1 (j + 1) (by omega)) (fun hlt => h2 (by simp; omega))]; rfl
theorem ins_there : ∀ {xs : List Int} {n : Int} {k : Nat}, k < xs.length → (∀ j, j < k → xs.getD j 0 < n) → xs.getD k 0 = n → insL xs n = xs
  | [], n, k, hk, _, _ => by simp at hk
  | x :: r, n, 0, _, _, h => by
    have : x = n := h
    unfold insL
    rw [if_neg (by omega), if_pos this]
  | x :: r, n, k + 1, hk, h1, h2 => by
    have : x < n := h1 0 (by omega)
    unfold insL
    rw [if_pos this, ins_there (k := k) (by simpa using hk) (fun j hj => h1 (j + 1) (by omega)) h2]
theorem ins_len (xs : List Int) (n : Int) : (insL xs n).length ≤ xs.length + 1 := by
  induction xs with
  | nil => simp [insL]
  | cons x r ih => unfold insL; split
                   · simp; omega
                   · split <;> simp

theorem reads_at {w : World} {b off : Nat} {xs : List Int} (hc : ∀ j, j < xs.length → w.cell? ⟨b, off + j, none⟩ = some (.int .i64 (xs.getD j 0))) (k : Nat) : ∀ j u, ((xs.drop k).map (Value.int .i64))[j]? = some u → w.cell? ((⟨b, off + k, none⟩ : Addr).add j) = some u := by
  intro j u hj
  rw [List.getElem?_map, List.getElem?_drop] at hj
  cases hx : xs[k + j]? with
  | none => rw [hx] at hj; cases hj
  | some x =>
    rw [hx] at hj
    simp at hj
    subst hj
    have hlt := (List.getElem?_eq_some_iff.1 hx).1
    have := hc (k + j) hlt
    rw [List.getD_eq_getElem?_getD, hx] at this
    rw [show (⟨b, off + k, none⟩ : Addr).add j = ⟨b, off + (k + j), none⟩ from by cases j with
      | zero => simp [Addr.add]
      | succ j => simp [Addr.add, Nat.add_assoc]]
    exact this
theorem reads_to {w : World} {b off : Nat} {xs : List Int} (hc : ∀ j, j < xs.length → w.cell? ⟨b, off + j, none⟩ = some (.int .i64 (xs.getD j 0))) (k : Nat) : ∀ j u, ((xs.take k).map (Value.int .i64))[j]? = some u → w.cell? ((⟨b, off, none⟩ : Addr).add j) = some u := by
  intro j u hj
  rw [List.getElem?_map, List.getElem?_take] at hj
  split at hj
  · cases hx : xs[j]? with
    | none => rw [hx] at hj; cases hj
    | some x =>
      rw [hx] at hj
      simp at hj
      subst hj
      have hlt := (List.getElem?_eq_some_iff.1 hx).1
      have := hc j hlt
      rw [List.getD_eq_getElem?_getD, hx] at this
      rw [show (⟨b, off, none⟩ : Addr).add j = ⟨b, off + j, none⟩ from by simp [Addr.add]]
      exact this
  · cases hj

theorem ones (l : List Int) : ∀ u ∈ l.map (Value.int .i64), u.oneCell' = true := fun u hu => by obtain ⟨x, _, rfl⟩ := List.mem_map.1 hu; rfl

end Go.Proofs.Ytbcggkfbahmpoaa


/- Descs (numbers and one list) as they lie in memory; the contracts of the laws' own helpers over one and over lists of them: how great, a copy, alike. Conditions: lengths that a machine can hold. -/
namespace Go.Proofs.Ytbcggkfbahmpoaa
open Go.ChangeShapes Go.WideShapes Go.ChangeAt Go.RowKit
set_option linter.unusedVariables false

abbrev DescD := Bool × Int × Int × List Int
abbrev descR : Rep DescD := prodR boolR (prodR intR (prodR intR intsR))
abbrev descM : Mk DescD := prodM boolM (prodM intM (prodM intM intsM))
abbrev descsM : Mk (List DescD) := slM descM
theorem desc_rd {w : World} {cs : List Value} {u : DescD} (h : descR.rd w cs u) :
    ∃ a cap, cs = [.bool u.1, .int .i64 u.2.1, .int .i64 u.2.2.1, .slice a u.2.2.2.length cap] ∧ In64 u.2.1 ∧ In64 u.2.2.1 ∧ u.2.2.2.length ≤ cap ∧ cap ≤ maxLen ∧ SlRd intR w a u.2.2.2 := by
  obtain ⟨c0, e0, rfl, rfl, c1, e1, rfl, ⟨rfl, i1⟩, c2, e2, rfl, ⟨rfl, i2⟩, ⟨a, cap, rfl, h1, h2, h3⟩⟩ := h
  exact ⟨a, cap, rfl, i1, i2, h1, h2, h3⟩
theorem desc_own {w : World} {S : Foot} {cs : List Value} {u : DescD} (h : descR.own w S cs u) :
    ∃ v, cs = [.bool u.1, .int .i64 u.2.1, .int .i64 u.2.2.1, v] ∧ In64 u.2.1 ∧ In64 u.2.2.1 ∧ intsR.own w S [v] u.2.2.2 := by
  obtain ⟨c0, e0, S0, T0, rfl, rfl, ⟨c1, e1, S1, T1, rfl, ⟨rfl, i1⟩, ⟨c2, e2, S2, T2, rfl, ⟨rfl, i2⟩, h9, p2, q2, d2⟩, p1, q1, d1⟩, p0, q0, d0⟩ := h
  have hl := intsR.rd_len (intsR.own_rd h9)
  obtain ⟨v, rfl⟩ : ∃ v, e2 = [v] := List.length_eq_one_iff.1 hl
  exact ⟨v, rfl, i1, i2, intsR.own_mono h9 (((q2).trans q1).trans q0)⟩
theorem own_desc {w : World} {S : Foot} {f1 f2 : Int} {f0 : Bool} {d : List Int} {v : Value} (i1 : In64 f1) (i2 : In64 f2) (h : intsR.own w S [v] d) : descR.own w S [.bool f0, .int .i64 f1, .int .i64 f2, v] (f0, f1, f2, d) :=
  ⟨[_], [_, _, _], fun _ => False, S, rfl, rfl, ⟨[_], [_, _], fun _ => False, S, rfl, ⟨rfl, i1⟩, ⟨[_], [_], fun _ => False, S, rfl, ⟨rfl, i2⟩, h, fun _ h => h.elim, Sub.refl _, fun _ h _ => h⟩, fun _ h => h.elim, Sub.refl _, fun _ h _ => h⟩, fun _ h => h.elim, Sub.refl _, fun _ h _ => h⟩
theorem bk_desc (u : DescD) : descM.bk u = intsM.bk u.2.2.2 := by
  show 0 + (0 + (0 + (intsM.bk u.2.2.2))) = _
  omega
theorem cells_4 {w : World} {g : Nat} {x0 x1 x2 x3 : Value} {t : TypeId} (h : w.heap[g]? = some (.cells #[x0, x1, x2, x3] t (0, 0))) :
    w.cell? ⟨g, 0, none⟩ = some x0 ∧ w.cell? ⟨g, 1, none⟩ = some x1 ∧ w.cell? ⟨g, 2, none⟩ = some x2 ∧ w.cell? ⟨g, 3, none⟩ = some x3 :=
  ⟨by rw [cell_of_row w g 0 _ t (0, 0) h]; rfl, by rw [cell_of_row w g 1 _ t (0, 0) h]; rfl, by rw [cell_of_row w g 2 _ t (0, 0) h]; rfl, by rw [cell_of_row w g 3 _ t (0, 0) h]; rfl⟩
theorem froz_4 {w : World} {g : Nat} {cs : Array Value} {t : TypeId} (h : w.heap[g]? = some (.cells cs t (0, 0))) : w.frozen? ⟨g, 0, none⟩ = false ∧ w.frozen? ⟨g, 1, none⟩ = false ∧ w.frozen? ⟨g, 2, none⟩ = false ∧ w.frozen? ⟨g, 3, none⟩ = false :=
  ⟨frozen_of_row w g 0 _ t h, frozen_of_row w g 1 _ t h, frozen_of_row w g 2 _ t h, frozen_of_row w g 3 _ t h⟩
theorem put_4 {w : World} {g : Nat} {x0 y0 x1 y1 x2 y2 x3 y3 : Value} {t : TypeId} (h : w.heap[g]? = some (.cells #[x0, x1, x2, x3] t (0, 0))) :
    ((((w.setCell ⟨g, 0, none⟩ y0).setCell ⟨g, 1, none⟩ y1).setCell ⟨g, 2, none⟩ y2).setCell ⟨g, 3, none⟩ y3).heap[g]? = some (.cells #[y0, y1, y2, y3] t (0, 0)) := by
  have h0 : (w.setCell ⟨g, 0, none⟩ y0).heap[g]? = some (.cells #[y0, x1, x2, x3] t (0, 0)) := heap_setCell_same _ g 0 _ t y0 h
  have h1 : ((w.setCell ⟨g, 0, none⟩ y0).setCell ⟨g, 1, none⟩ y1).heap[g]? = some (.cells #[y0, y1, x2, x3] t (0, 0)) := heap_setCell_same _ g 1 _ t y1 h0
  have h2 : (((w.setCell ⟨g, 0, none⟩ y0).setCell ⟨g, 1, none⟩ y1).setCell ⟨g, 2, none⟩ y2).heap[g]? = some (.cells #[y0, y1, y2, x3] t (0, 0)) := heap_setCell_same _ g 2 _ t y2 h1
  have h3 : ((((w.setCell ⟨g, 0, none⟩ y0).setCell ⟨g, 1, none⟩ y1).setCell ⟨g, 2, none⟩ y2).setCell ⟨g, 3, none⟩ y3).heap[g]? = some (.cells #[y0, y1, y2, y3] t (0, 0)) := heap_setCell_same _ g 3 _ t y3 h2
  exact h3






end Go.Proofs.Ytbcggkfbahmpoaa


/- Programs and lists of descs, of the specification: their codes, what is work, what is touched. Conditions: lists that read as told, of lengths that a machine can hold. -/
namespace Go.Proofs.Ytbcggkfbahmpoaa
open Go.ChangeShapes Go.WideShapes Go.ChangeAt Go.RowKit
set_option linter.unusedVariables false

def opOkD (u : OpD) : Bool := opB u.1 u.2.1 u.2.2.1 u.2.2.2
def adrOk (l : Int) (u : OpD) : Bool := betw u.2.1 0 (2 * l - 1)
def progI (c s y l : Int) (xs : List OpD) : Int := if codeI c s y l = 0 then (if xs.length ≤ 30 then (if xs.all opOkD then (if xs.all (adrOk l) then 0 else 4) else 3) else 2) else 1
def descB (u : DescD) : Bool := if u.1 then betw u.2.2.1 1 3 && isL u.2.2.2 else decide (u.2.2.1 = 0) && decide (u.2.2.2.length = 0)
def dlnOk (l : Int) (u : DescD) : Bool := betw u.2.1 0 (l - 1)
def descI (c s y l : Int) (xs : List DescD) : Int := if codeI c s y l = 0 then (if xs.length ≤ 30 then (if xs.all descB then (if xs.all (dlnOk l) then 0 else 4) else 5) else 2) else 1
def lensI (ps : List (List OpD)) : Nat := (ps.map List.length).sum
def touL (xs : List OpD) : List Int := xs.foldl (fun out u => if opOkD u then insL out (u.2.1 / 2) else out) []
theorem all_step {α : Type} {p : α → Bool} {xs : List α} {k : Nat} {x : α} (h : (xs.take k).all p = true) (hx : xs[k]? = some x) (hp : p x = true) : (xs.take (k + 1)).all p = true := by
  rw [List.take_add_one, hx, List.all_append, h]
  simp [hp]
theorem all_not {α : Type} {p : α → Bool} {xs : List α} {k : Nat} {x : α} (hx : xs[k]? = some x) (hp : p x = false) : xs.all p = false := by
  rw [Bool.eq_false_iff]
  intro h
  have := List.all_eq_true.1 h x (List.mem_of_getElem? hx)
  rw [hp] at this
  cases this
theorem lens_step {ps : List (List OpD)} {k : Nat} {x : List OpD} (hx : ps[k]? = some x) : lensI (ps.take (k + 1)) = lensI (ps.take k) + x.length := by simp [lensI, List.take_add_one, hx]
theorem lens_take (ps : List (List OpD)) (k : Nat) : lensI (ps.take k) ≤ lensI ps := by
  unfold lensI
  conv => rhs; rw [← List.take_append_drop k ps, List.map_append, List.sum_append]
  exact Nat.le_add_right _ _
theorem lens_get {ps : List (List OpD)} {k : Nat} {x : List OpD} (hx : ps[k]? = some x) : lensI (ps.take k) + x.length ≤ lensI ps := by
  have := lens_take ps (k + 1)
  rw [lens_step hx] at this
  exact this
theorem tou_step {xs : List OpD} {k : Nat} {x : OpD} (hx : xs[k]? = some x) : touL (xs.take (k + 1)) = if opOkD x then insL (touL (xs.take k)) (x.2.1 / 2) else touL (xs.take k) := by
  unfold touL
  rw [List.take_add_one, hx, List.foldl_append]
  rfl
theorem tou_len (xs : List OpD) : (touL xs).length ≤ xs.length := by
  have : ∀ (ys : List OpD) (out : List Int), (ys.foldl (fun out u => if opOkD u then insL out (u.2.1 / 2) else out) out).length ≤ out.length + ys.length := by
    intro ys
    induction ys with
    | nil => intro out; simp
    | cons y ys ih =>
      intro out
      simp only [List.foldl_cons, List.length_cons]
      refine Nat.le_trans (ih _) ?_
      split
      · have := ins_len out (y.2.1 / 2); omega
      · omega
  simpa [touL] using this xs []
theorem op_addr {u : OpD} (h : opOkD u = true) : 0 ≤ u.2.1 ∧ u.2.1 ≤ 31 := by
  simp [opOkD, opB, betw] at h
  omega
theorem tdiv_two {a : Int} (h : 0 ≤ a) : a.tdiv 2 = a / 2 := Int.tdiv_eq_ediv_of_nonneg h

theorem ins_mem {xs : List Int} {n x : Int} (h : x ∈ insL xs n) : x ∈ xs ∨ x = n := by
  induction xs with
  | nil => simp [insL] at h; exact .inr h
  | cons y r ih =>
    unfold insL at h
    split at h
    · rcases List.mem_cons.1 h with h | h
      · exact .inl (by rw [h]; exact List.mem_cons_self ..)
      · rcases ih h with h | h
        · exact .inl (List.mem_cons_of_mem _ h)
        · exact .inr h
    · split at h
      · exact .inl h
      · rcases List.mem_cons.1 h with h | h
        · exact .inr h
        · exact .inl h
theorem tou_bd (xs : List OpD) : ∀ x ∈ touL xs, 0 ≤ x ∧ x ≤ 15 := by
  have : ∀ (ys : List OpD) (out : List Int), (∀ x ∈ out, 0 ≤ x ∧ x ≤ 15) → ∀ x ∈ ys.foldl (fun out u => if opOkD u then insL out (u.2.1 / 2) else out) out, 0 ≤ x ∧ x ≤ 15 := by
    intro ys
    induction ys with
    | nil => intro out h x hx; exact h x hx
    | cons y ys ih =>
      intro out h x hx
      refine ih _ ?_ x hx
      intro z hz
      replace hz : z ∈ (if opOkD y = true then insL out (y.2.1 / 2) else out) := hz
      split at hz
      · rename_i ho
        have ha := op_addr ho
        rcases ins_mem hz with hz | hz
        · exact h z hz
        · omega
      · exact h z hz
  exact this xs [] (by simp)
theorem ins_rise {xs : List Int} {n : Int} (h : xs.Pairwise (· < ·)) : (insL xs n).Pairwise (· < ·) := by
  induction xs with
  | nil => simp [insL]
  | cons y r ih =>
    rw [List.pairwise_cons] at h
    unfold insL
    split
    · rename_i hy
      rw [List.pairwise_cons]
      refine ⟨fun z hz => ?_, ih h.2⟩
      rcases ins_mem hz with hz | hz
      · exact h.1 z hz
      · omega
    · split
      · exact List.pairwise_cons.2 h
      · rename_i h1 h2
        rw [List.pairwise_cons]
        refine ⟨fun z hz => ?_, List.pairwise_cons.2 h⟩
        rcases List.mem_cons.1 hz with hz | hz
        · omega
        · have := h.1 z hz; omega
theorem tou_rise (xs : List OpD) : (touL xs).Pairwise (· < ·) := by
  have : ∀ (ys : List OpD) (out : List Int), out.Pairwise (· < ·) → (ys.foldl (fun out u => if opOkD u then insL out (u.2.1 / 2) else out) out).Pairwise (· < ·) := by
    intro ys
    induction ys with
    | nil => intro out h; exact h
    | cons y ys ih =>
      intro out h
      refine ih _ ?_
      show (if opOkD y = true then insL out (y.2.1 / 2) else out).Pairwise (· < ·)
      split
      · exact ins_rise h
      · exact h
  exact this xs [] List.Pairwise.nil
theorem rise_len {xs : List Int} {a b : Int} (h : xs.Pairwise (· < ·)) (hb : ∀ x ∈ xs, a ≤ x ∧ x ≤ b) : (xs.length : Int) ≤ b - a + 1 ∨ xs = [] := by
  induction xs generalizing a with
  | nil => exact .inr rfl
  | cons y r ih =>
    left
    rw [List.pairwise_cons] at h
    have hy := hb y (List.mem_cons_self ..)
    rcases ih (a := y + 1) h.2 (fun x hx => ⟨by have := h.1 x hx; omega, (hb x (List.mem_cons_of_mem _ hx)).2⟩) with h1 | h1
    · simp only [List.length_cons]; omega
    · rw [h1]; simp; omega
theorem tou_len16 (xs : List OpD) : (touL xs).length ≤ 16 := by
  rcases rise_len (tou_rise xs) (tou_bd xs) with h | h
  · omega
  · rw [h]; simp
theorem tou_in (xs : List OpD) : Hid (∀ x ∈ touL xs, In64 x) := fun x hx => ⟨by have := tou_bd xs x hx; omega, by have := tou_bd xs x hx; omega⟩
def codeV (p q : Bool) (n : Int) : Int := if p then (if q then 0 else 4) else n
theorem madeI_on {w w1 w2 : World} {v : Value} {zs : List Int} (h : Made w w1 v zs) (hb : Below w1.heap.size w1 w2) : Made w w2 v zs := by
  obtain ⟨g, cap, e, h1, h2, ho, hB⟩ := h
  exact ⟨g, cap, e, h1, Nat.lt_of_lt_of_le h2 hb.size, owni_below ho hb h2, hB.trans (hb.mono hB.size)⟩
theorem owni_cap {B g cap : Nat} {w : World} {zs : List Int} (h : OwnI B w g cap zs) : zs.length ≤ cap ∧ cap ≤ maxLen := by
  rcases h.2 with ⟨e, _⟩ | ⟨g', cap', cur, e, _, _, hc, hm, _⟩
  · cases e
  · simp only [Value.slice.injEq] at e
    obtain ⟨_, _, rfl⟩ := e
    exact ⟨by simpa using hc, hm⟩
end Go.Proofs.Ytbcggkfbahmpoaa


/- Whether every op of a list is right, of the program. No condition but a list that reads as told. -/
namespace Go.Proofs.Ytbcggkfbahmpoaa
open Go.ChangeShapes Go.WideShapes Go.ChangeAt Go.RowKit
set_option linter.unusedVariables false

def badP {α : Type} (p : α → Bool) (xs : List α) : Int := match xs.findIdx? (fun u => !p u) with
  | some i => (i : Int)
  | none => -1
theorem badP_at {α : Type} {p : α → Bool} {xs : List α} {k : Nat} {u : α} (hu : xs[k]? = some u) (hp : p u = false) (hno : ∀ j v, j < k → xs[j]? = some v → p v = true) : badP p xs = (k : Int) := by
  have hk := (List.getElem?_eq_some_iff.1 hu).1
  have : xs.findIdx? (fun u => !p u) = some k := by
    rw [List.findIdx?_eq_some_iff_getElem]
    refine ⟨hk, ?_, fun j hj => ?_⟩
    · rw [List.getElem?_eq_getElem hk] at hu
      cases hu
      simp [hp]
    · have := hno j _ hj (List.getElem?_eq_getElem (by omega))
      simp [this]
  unfold badP
  rw [this]
theorem badP_no {α : Type} {p : α → Bool} {xs : List α} (hno : ∀ (j : Nat) (v : α), xs[j]? = some v → p v = true) : badP p xs = -1 := by
  have : xs.findIdx? (fun u => !p u) = none := by
    rw [List.findIdx?_eq_none_iff]
    intro u hu
    obtain ⟨j, hj⟩ := List.getElem?_of_mem hu
    simp [hno j u hj]
  unfold badP
  rw [this]
theorem badP_all {α : Type} (p : α → Bool) (xs : List α) : xs.all p = decide (badP p xs < 0) := by
  cases h : xs.all p
  · have h1 : ¬ ∀ x ∈ xs, p x = true := fun hh => by rw [List.all_eq_true.2 hh] at h; cases h
    cases hf : xs.findIdx? (fun u => !p u) with
    | none =>
      rw [List.findIdx?_eq_none_iff] at hf
      exact (h1 fun x hx => by have := hf x hx; simpa using this).elim
    | some i => simp [badP, hf]
  · rw [badP_no fun j v hv => List.all_eq_true.1 h v (List.mem_of_getElem? hv)]
    rfl
set_option maxHeartbeats 1000000 in
theorem opsOk1_any (x : OpD) (w : World) :
    Calls Try.prog 60 #[.agg #[.int .i64 x.1, .int .i64 x.2.1, .int .i64 x.2.2.1, .int .i64 x.2.2.2]] w fun e w' => e = .returned (.bool (!opOkD x)) ∧ Below w.heap.size w w' := by
  have B := box_below w (.cells #[.int .i64 x.1, .int .i64 x.2.1, .int .i64 x.2.2.1, .int .i64 x.2.2.2] 58)
  have HM : Hid (∀ W, Calls Try.prog 61 #[.agg #[.int .i64 x.1, .int .i64 x.2.1, .int .i64 x.2.2.1, .int .i64 x.2.2.2]] W fun e w' => e = .returned (.bool (opOkD x)) ∧ Below W.heap.size W w') := fun W => implOpOk_any x.1 x.2.1 x.2.2.1 x.2.2.2 W
  generalize opOkD x = q at HM ⊢
  go_enter Try.func60, Try.ntmps60
  go_wp2_with fail
  generalize w.alloc (.cells #[.int .i64 x.1, .int .i64 x.2.1, .int .i64 x.2.2.1, .int .i64 x.2.2.2] 58) = W0 at B ⊢
  refine (HM.out _).mono ?_
  rintro e w1 ⟨rfl, b1⟩
  go_wp2
  go_ret
  exact ⟨rfl, below_step B b1⟩

set_option maxHeartbeats 2000000 in
theorem indexBadO_any (a : Option Addr) (xs : List OpD) (cap : Nat) (w : World) (h : SlRd opR w a xs) (hm : xs.length ≤ maxLen) :
    Calls Try.prog 78 #[.slice a xs.length cap, .func (.func 60) #[] #[]] w fun e w' => e = .returned (.int .i64 (badP opOkD xs)) ∧ Below w.heap.size w w' := by
  have hm' : xs.length ≤ 9223372036854775807 := hm
  have H0 : Hid (∀ W, Below w.heap.size w W → SlRd opR W a xs) := fun W hb => slrd_keep h fun k hk => hb.block k hk
  clear h hm
  go_enter Try.func78, Try.ntmps78
  go_wp2
  go_loopw [8] (fun i wr => ∃ k : Nat, k ≤ xs.length ∧ i = .int .i64 k ∧ (∀ j v, j < k → xs[j]? = some v → opOkD v = true) ∧ Below w.heap.size w wr) (fun i _ => xs.length - (intOf i).toNat)
  case atStart => exact ⟨0, Nat.zero_le _, rfl, fun j v hj => by omega, Below.refl _ _⟩
  case round =>
    obtain ⟨k, hk, rfl, hno, BB⟩ := hrel
    by_cases hlt : k < xs.length
    · have hlt' : (k : Int) < (xs.length : Int) := by omega
      obtain ⟨x, hx⟩ : ∃ x, xs[k]? = some x := ⟨_, List.getElem?_eq_getElem hlt⟩
      obtain ⟨b, off, rfl, x0, x1, x2, x3, -⟩ := op_at (H0.out _ BB) hx
      have HC := opsOk1_any x wr
      have HX : Hid (xs[k]? = some x) := hx
      clear hx
      cases hb : opOkD x
      · have HR : Hid (badP opOkD xs = k) := badP_at HX.out hb hno
        rw [hb] at HC
        go_wp2_with fail
        refine HC.mono ?_
        rintro e w2 ⟨rfl, b2⟩
        replace BB := below_step BB b2
        clear b2 x0 x1 x2 x3
        go_wp2
        go_ret
        exact ⟨ret_int HR.out.symm, BB⟩
      · rw [hb] at HC
        go_wp2_with fail
        refine HC.mono ?_
        rintro e w2 ⟨rfl, b2⟩
        replace BB := below_step BB b2
        clear b2 x0 x1 x2 x3
        go_wp2
        go_roundw
        case rel =>
          refine ⟨k + 1, by omega, by go_num, fun j v hj hv => ?_, BB⟩
          by_cases he : j < k
          · exact hno j v he hv
          · have : j = k := by omega
            subst this
            rw [HX.out] at hv
            cases hv
            exact hb
        case measure => simp [intOf]; omega
    · have HR : Hid (badP opOkD xs = -1) := badP_no fun j v hv => hno j v (by have := (List.getElem?_eq_some_iff.1 hv).1; omega) hv
      go_wp2
      go_ret
      exact ⟨ret_int HR.out.symm, BB⟩

set_option maxHeartbeats 1000000 in
theorem containsBadO_any (a : Option Addr) (xs : List OpD) (cap : Nat) (w : World) (h : SlRd opR w a xs) (hm : xs.length ≤ maxLen) :
    Calls Try.prog 59 #[.slice a xs.length cap, .func (.func 60) #[] #[]] w fun e w' => e = .returned (.bool (!xs.all opOkD)) ∧ Below w.heap.size w w' := by
  have HI := indexBadO_any a xs cap w h hm
  have hab := badP_all opOkD xs
  clear h hm
  generalize badP opOkD xs = q at HI hab
  generalize xs.all opOkD = y at hab ⊢
  subst hab
  by_cases hq : q < 0
  · have hq2 : ¬ (0 ≤ q) := by omega
    go_enter Try.func59, Try.ntmps59
    go_wp2_with fail
    refine HI.mono ?_
    rintro e w1 ⟨rfl, b1⟩
    go_wp2
    go_ret
    exact ⟨by simp [hq], b1⟩
  · have hq2 : 0 ≤ q := by omega
    go_enter Try.func59, Try.ntmps59
    go_wp2_with fail
    refine HI.mono ?_
    rintro e w1 ⟨rfl, b1⟩
    go_wp2
    go_ret
    exact ⟨by simp [hq], b1⟩

def progB (xs : List OpD) : Bool := decide (xs.length ≤ 30) && xs.all opOkD
set_option maxHeartbeats 1000000 in
theorem implOpsOk_any (a : Option Addr) (xs : List OpD) (cap : Nat) (w : World) (h : SlRd opR w a xs) (hm : xs.length ≤ maxLen) :
    Calls Try.prog 31 #[.slice a xs.length cap] w fun e w' => e = .returned (.bool (progB xs)) ∧ Below w.heap.size w w' := by
  have HC := containsBadO_any a xs cap w h hm
  have hm' : xs.length ≤ 9223372036854775807 := hm
  unfold progB
  generalize xs.all opOkD = y at HC ⊢
  clear h hm
  by_cases hl : xs.length ≤ 30
  · have hl' : (xs.length : Int) ≤ 30 := by omega
    go_enter Try.func31, Try.ntmps31
    go_wp2_with fail
    refine HC.mono ?_
    rintro e w1 ⟨rfl, b1⟩
    go_wp2
    go_ret
    exact ⟨by simp [hl], b1⟩
  · have hl' : ¬ ((xs.length : Int) ≤ 30) := by omega
    go_enter Try.func31, Try.ntmps31
    go_wp2
    go_ret
    exact ⟨by simp, Below.refl _ _⟩
end Go.Proofs.Ytbcggkfbahmpoaa
