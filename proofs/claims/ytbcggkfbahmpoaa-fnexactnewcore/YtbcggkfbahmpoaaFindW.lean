
import Derived.Test.YtbcggkfbahmpoaaFinds
import Derived.Test.YtbcggkfbahmpoaaWayCopy
import Derived.Deep.RegionHeld3
/- Find, of the program and of the specification: against stores as plain lists. Conditions: lists that read as told, of lengths that a machine can hold. -/
namespace Go.Proofs.Ytbcggkfbahmpoaa
open Go.ChangeShapes Go.WideShapes Go.ChangeAt Go.RowKit Go.Shelf
set_option linter.unusedVariables false

noncomputable def findI (c : CacheD) (line : Int) : WayD × Int := findC isL treeB c line
theorem find_bad {c : CacheD} {line : Int} (h : okB isL treeB c = false) : findI c line = (emptyW, -1) := by
  unfold findI findC
  rw [h]
  rfl
theorem isL_len {d : List Int} (h : isL d = true) : d.length = 2 := by
  rcases isL_cases d with h' | ⟨x, y, rfl, _, _⟩
  · rw [h] at h'
    cases h'
  · rfl
theorem ok_len {c : CacheD} (h : OkC isL treeB c) {s j : Nat} {row : List WayD} {u : WayD} (hr : c.1[s]? = some row) (hu : row[j]? = some u) : u.2.2.length ≤ 2 := by
  obtain ⟨h1, h2, m, hm, h3⟩ := h
  rcases (h3 s row hr).2.2.1 j u hu with hc | ⟨hf, _⟩
  · rw [clear_eq hc]
    simp [emptyW]
  · rw [full_eq] at hf
    simp only [Bool.and_eq_true] at hf
    rw [isL_len hf.2.2]
    exact Nat.le_refl _
theorem ret_made {w w1 w2 : World} {cs : List Value} {u : WayD} (hb : Below w.heap.size w w1) (h : MadeR wayR w1 w2 cs u) : MadeR wayR w w2 cs u := madeR_step hb h
theorem wayown_setC {w1 : World} {lo hi g o : Nat} {v : Value} {cs : List Value} {u : WayD} (h : wayR.own w1 (rng lo hi) cs u) (hg : g < lo ∨ hi ≤ g) : wayR.own (w1.setCell ⟨g, o, none⟩ v) (rng lo hi) cs u :=
  own_setC h (fun h' => by have := h'.1; have := h'.2; omega)

theorem made_on {w w1 w2 : World} {cs : List Value} {u : WayD} (h : MadeR wayR w w1 cs u) (hb : Below w1.heap.size w1 w2) : MadeR wayR w w2 cs u :=
  ⟨wayR.own_mono (own_next h.1 hb) (rng_sub (Nat.le_refl _) hb.size), below_step h.2 hb⟩
theorem cs1 {w : World} {g b o k : Nat} {u v : Value} (hne : ¬ (b = g)) (h : w.cell? ⟨b, k, none⟩ = some u) : (w.setCell ⟨g, o, none⟩ v).cell? ⟨b, k, none⟩ = some u :=
  (World.cell?_of_block (w := w) (a := ⟨b, k, none⟩) (heap_setCell_other w ⟨g, o, none⟩ b v hne)).trans h
theorem cs3 {w : World} {g b k : Nat} {u x y z : Value} (hne : ¬ (b = g)) (h : w.cell? ⟨b, k, none⟩ = some u) : (((w.setCell ⟨g, 0, none⟩ x).setCell ⟨g, 1, none⟩ y).setCell ⟨g, 2, none⟩ z).cell? ⟨b, k, none⟩ = some u := cs1 hne (cs1 hne (cs1 hne h))
theorem fin_own {w1 : World} {lo hi g : Nat} {cs : List Value} {u : WayD} {x y z : Value} (h : wayR.own w1 (rng lo hi) cs u) (hg : g < lo) : wayR.own (((w1.setCell ⟨g, 0, none⟩ x).setCell ⟨g, 1, none⟩ y).setCell ⟨g, 2, none⟩ z) (rng lo hi) cs u :=
  wayown_setC (wayown_setC (wayown_setC h (.inl hg)) (.inl hg)) (.inl hg)
theorem fin_made {w w0 w1 : World} {g : Nat} {cs : List Value} {u : WayD} {x y z : Value} (hb : Below w.heap.size w w0) (h : MadeR wayR w0 w1 cs u) (hg : g < w0.heap.size) (hw : w.heap.size ≤ g) : MadeR wayR w (((w1.setCell ⟨g, 0, none⟩ x).setCell ⟨g, 1, none⟩ y).setCell ⟨g, 2, none⟩ z) cs u :=
  ⟨wayR.own_mono (fin_own h.1 hg) (rng_sub hb.size (by simp)), below_setC (below_setC (below_setC (below_step hb h.2) hw) hw) hw⟩


end Go.Proofs.Ytbcggkfbahmpoaa

/- Find, of the specification: against stores as plain lists. Conditions: lists that read as told, of lengths that a machine can hold. -/
namespace Go.Proofs.Ytbcggkfbahmpoaa
open Go.ChangeShapes Go.WideShapes Go.ChangeAt Go.RowKit Go.Shelf
set_option linter.unusedVariables false

theorem find_len (c : CacheD) (line : Int) : (findI c line).1.2.2.length ≤ 2 := by
  cases hok : okB isL treeB c
  · rw [find_bad hok]
    simp [emptyW]
  · have h := okB_iff.1 hok
    cases hat : atC c line with
    | none =>
      rw [show findI c line = (emptyW, -1) from find_none hat]
      simp [emptyW]
    | some i =>
      obtain ⟨_, u, hu, _⟩ := at_some hat
      rw [show findI c line = (u, (i : Int)) from find_some h hat hu]
      exact ok_len h (rowFor_get h.1) hu
theorem sumbk_ints (d : List Int) : sumbk intM d = 0 := by
  induction d with
  | nil => rfl
  | cons x d ih =>
    simp only [sumbk, List.map_cons, List.sum_cons] at ih ⊢
    rw [ih]
    rfl



end Go.Proofs.Ytbcggkfbahmpoaa
