
/- Stores as plain lists: what is right, what is found, filled, dropped, and what must go. No program here. Conditions, as premises: what trees and lines are told to do. -/
import Derived.Test.YtpfgggjcaogkkaaNums
namespace Go.Proofs.Ytpfgggjcaogkkaa
open Go.RowKit
set_option linter.unusedVariables false

abbrev WayD := Int × Int × List Int
abbrev CacheD := List (List WayD) × List Int

def emptyW : WayD := (-1, 0, [])
def clearB (u : WayD) : Bool := decide (u.1 = -1 ∧ u.2.1 = 0 ∧ u.2.2 = [])
def pow3 (n : Nat) : Prop := n = 1 ∨ n = 2 ∨ n = 4

section
variable (ln : List Int → Bool) (tok : Int → Int → Bool) (tou : Int → Int → Int → Int) (vic : Int → Int → Int)

def fullB (u : WayD) : Bool := decide ((0 ≤ u.1 ∧ u.1 ≤ 15) ∧ (1 ≤ u.2.1 ∧ u.2.1 ≤ 3) ∧ ln u.2.2 = true)

def RowOk (n s : Nat) (row : List WayD) : Prop :=
  (∀ (i : Nat) (u : WayD), row[i]? = some u → clearB u = true ∨ (fullB ln u = true ∧ u.1 % (n : Int) = s)) ∧
  ∀ (i k : Nat) (u x : WayD), row[i]? = some u → row[k]? = some x → 0 ≤ u.1 → u.1 = x.1 → i = k

def OkC (c : CacheD) : Prop :=
  pow3 c.1.length ∧ c.2.length = c.1.length ∧ ∃ m, pow3 m ∧ ∀ (s : Nat) (row : List WayD), c.1[s]? = some row → row.length = m ∧ (∃ t, c.2[s]? = some t ∧ tok t m = true) ∧ RowOk ln c.1.length s row

def setNo (c : CacheD) (line : Int) : Nat := (line % (c.1.length : Int)).toNat
def rowFor (c : CacheD) (line : Int) : List WayD := c.1.getD (setNo c line) []
def atC (c : CacheD) (line : Int) : Option Nat := if line < 0 then none else (rowFor c line).findIdx? fun u => u.1 == line
def roomC (c : CacheD) (line : Int) : Option Nat := (rowFor c line).findIdx? clearB
def putNo (c : CacheD) (line : Int) : Option Nat := match atC c line with
  | some i => some i
  | none => roomC c line
def treeFor (c : CacheD) (line : Int) : Int := c.2.getD (setNo c line) 0

def fillX (c : CacheD) (u : WayD) (i : Nat) : CacheD :=
  (c.1.set (setNo c u.1) ((rowFor c u.1).set i u), c.2.set (setNo c u.1) (tou (treeFor c u.1) (rowFor c u.1).length i))
def dropX (c : CacheD) (line : Int) (i : Nat) : CacheD := (c.1.set (setNo c line) ((rowFor c line).set i emptyW), c.2)

open Classical in
noncomputable def okB (c : CacheD) : Bool := decide (OkC ln tok c)
noncomputable def findC (c : CacheD) (line : Int) : WayD × Int := if okB ln tok c then (match atC c line with
  | some i => ((rowFor c line).getD i emptyW, (i : Int))
  | none => (emptyW, -1)) else (emptyW, -1)
noncomputable def fillC (c : CacheD) (u : WayD) : CacheD × Bool := if okB ln tok c then (if fullB ln u then (match putNo c u.1 with
  | some i => (fillX tou c u i, true)
  | none => (c, false)) else (c, false)) else (([], []), false)
noncomputable def dropC (c : CacheD) (line : Int) : CacheD × Bool := if okB ln tok c then (match atC c line with
  | some i => (dropX c line i, true)
  | none => (c, false)) else (([], []), false)
noncomputable def leavesC (c : CacheD) (line : Int) : Int := if okB ln tok c && betw line 0 15 then (match putNo c line with
  | some _ => -1
  | none => ((rowFor c line).getD (vic (treeFor c line) (rowFor c line).length).toNat emptyW).1) else -1
def newX (n m : Nat) : CacheD := (List.replicate n (List.replicate m emptyW), List.replicate n 0)
end

section
variable {ln : List Int → Bool} {tok : Int → Int → Bool} {tou : Int → Int → Int → Int} {vic : Int → Int → Int}

theorem okB_iff {c : CacheD} : okB ln tok c = true ↔ OkC ln tok c := by simp [okB]
theorem clear_empty : clearB emptyW = true := by decide
theorem clear_eq {u : WayD} (h : clearB u = true) : u = emptyW := by
  simp [clearB] at h
  obtain ⟨a, b, d⟩ := u
  simp at h
  simp [emptyW, h]
theorem full_line {u : WayD} (h : fullB ln u = true) : 0 ≤ u.1 ∧ u.1 ≤ 15 := by
  simp [fullB] at h
  exact h.1
theorem full_not_clear {u : WayD} (h : fullB ln u = true) : clearB u = false := by
  have := (full_line h).1
  simp [clearB]
  omega

theorem pow3_pos {n : Nat} (h : pow3 n) : 0 < n := by rcases h with h | h | h <;> omega
theorem setNo_lt {c : CacheD} {line : Int} (h : pow3 c.1.length) : setNo c line < c.1.length := by
  have := pow3_pos h
  have h1 := Int.emod_nonneg line (show (c.1.length : Int) ≠ 0 by omega)
  have h2 := Int.emod_lt_of_pos line (show (0 : Int) < c.1.length by omega)
  unfold setNo
  omega
theorem setNo_cast {c : CacheD} {line : Int} (h : pow3 c.1.length) : ((setNo c line : Nat) : Int) = line % (c.1.length : Int) := by
  have := pow3_pos h
  have h1 := Int.emod_nonneg line (show (c.1.length : Int) ≠ 0 by omega)
  unfold setNo
  omega
theorem rowFor_get {c : CacheD} {line : Int} (h : pow3 c.1.length) : c.1[setNo c line]? = some (rowFor c line) := by
  have := setNo_lt (line := line) h
  unfold rowFor
  rw [List.getD_eq_getElem?_getD, List.getElem?_eq_getElem this]
  rfl

theorem idx_some {p : WayD → Bool} {row : List WayD} {i : Nat} (h : row.findIdx? p = some i) : ∃ u, row[i]? = some u ∧ p u = true := by
  rw [List.findIdx?_eq_some_iff_getElem] at h
  obtain ⟨hi, hp, _⟩ := h
  exact ⟨row[i], List.getElem?_eq_getElem hi, hp⟩
theorem idx_none {p : WayD → Bool} {row : List WayD} (h : row.findIdx? p = none) {i : Nat} {u : WayD} (hu : row[i]? = some u) : p u = false := by
  rw [List.findIdx?_eq_none_iff] at h
  exact by simpa using h u (List.mem_of_getElem? hu)
theorem idx_of {p : WayD → Bool} {row : List WayD} {i : Nat} {u : WayD} (hu : row[i]? = some u) (hp : p u = true) : ∃ k, row.findIdx? p = some k := by
  cases h : row.findIdx? p with
  | none => rw [idx_none h hu] at hp; cases hp
  | some k => exact ⟨k, rfl⟩

theorem at_some {c : CacheD} {line : Int} {i : Nat} (h : atC c line = some i) : 0 ≤ line ∧ ∃ u, (rowFor c line)[i]? = some u ∧ u.1 = line := by
  unfold atC at h
  split at h
  · cases h
  · obtain ⟨u, hu, hp⟩ := idx_some h
    exact ⟨by omega, u, hu, by simpa using hp⟩
theorem at_none {c : CacheD} {line : Int} (h : atC c line = none) (h0 : 0 ≤ line) {i : Nat} {u : WayD} (hu : (rowFor c line)[i]? = some u) : u.1 ≠ line := by
  unfold atC at h
  rw [if_neg (by omega)] at h
  simpa using idx_none h hu
theorem at_of {c : CacheD} {line : Int} (h0 : 0 ≤ line) {i : Nat} {u : WayD} (hu : (rowFor c line)[i]? = some u) (hl : u.1 = line) : ∃ k, atC c line = some k := by
  unfold atC
  rw [if_neg (by omega)]
  exact idx_of hu (by simp [hl])

/- A row in which one way is turned. -/
theorem row_set {n s : Nat} {row : List WayD} {i : Nat} {x : WayD} (h : RowOk ln n s row) (hx : clearB x = true ∨ (fullB ln x = true ∧ x.1 % (n : Int) = s)) (hnew : ∀ (k : Nat) (u : WayD), row[k]? = some u → 0 ≤ x.1 → u.1 = x.1 → k = i) : RowOk ln n s (row.set i x) := by
  have key : ∀ (k : Nat) (u : WayD), (row.set i x)[k]? = some u → (k = i ∧ u = x) ∨ (k ≠ i ∧ row[k]? = some u) := by
    intro k u hu
    rw [List.getElem?_set] at hu
    by_cases hk : i = k
    · rw [if_pos hk] at hu
      split at hu
      · simp at hu
        exact .inl ⟨hk.symm, hu.symm⟩
      · cases hu
    · rw [if_neg hk] at hu
      exact .inr ⟨fun e => hk e.symm, hu⟩
  refine ⟨fun k u hu => ?_, fun k j u y hu hy h0 he => ?_⟩
  · rcases key k u hu with ⟨_, rfl⟩ | ⟨_, hu⟩
    · exact hx
    · exact h.1 k u hu
  · have ku := key k u hu
    have ky := key j y hy
    clear hu hy key
    rcases ku with ⟨rfl, rfl⟩ | ⟨hk, hu⟩
    · rcases ky with ⟨rfl, rfl⟩ | ⟨hj, hy⟩
      · rfl
      · exact (hnew j y hy h0 he.symm).symm
    · rcases ky with ⟨rfl, rfl⟩ | ⟨hj, hy⟩
      · exact hnew k u hu (by omega) he
      · exact h.2 k j u y hu hy h0 he

theorem ok_set {c : CacheD} {line : Int} {i : Nat} {x : WayD} {t : Int} {m : Nat} (h1 : pow3 c.1.length) (h2 : c.2.length = c.1.length) (hm : pow3 m)
    (h3 : ∀ (s : Nat) (row : List WayD), c.1[s]? = some row → row.length = m ∧ (∃ t, c.2[s]? = some t ∧ tok t m = true) ∧ RowOk ln c.1.length s row)
    (ht : tok t m = true) (hr : RowOk ln c.1.length (setNo c line) ((rowFor c line).set i x)) :
    OkC ln tok (c.1.set (setNo c line) ((rowFor c line).set i x), c.2.set (setNo c line) t) := by
  have hlt := setNo_lt (line := line) h1
  refine ⟨by simpa using h1, by simpa using h2, m, hm, fun s row hs => ?_⟩
  simp only [List.length_set] at hs ⊢
  rw [List.getElem?_set] at hs
  by_cases he : setNo c line = s
  · subst he
    rw [if_pos rfl, if_pos hlt] at hs
    simp at hs
    subst hs
    refine ⟨?_, ⟨t, ?_, ht⟩, hr⟩
    · rw [List.length_set]
      exact (h3 _ _ (rowFor_get h1)).1
    · rw [List.getElem?_set, if_pos rfl, if_pos (by omega)]
  · rw [if_neg he] at hs
    obtain ⟨a1, ⟨t', a2, a3⟩, a4⟩ := h3 s row hs
    exact ⟨a1, ⟨t', by rw [List.getElem?_set, if_neg he]; exact a2, a3⟩, a4⟩

theorem tree_get {c : CacheD} {line : Int} {m : Nat} (h1 : pow3 c.1.length) (h2 : c.2.length = c.1.length)
    (h3 : ∀ (s : Nat) (row : List WayD), c.1[s]? = some row → row.length = m ∧ (∃ t, c.2[s]? = some t ∧ tok t m = true) ∧ RowOk ln c.1.length s row) :
    (rowFor c line).length = m ∧ c.2[setNo c line]? = some (treeFor c line) ∧ tok (treeFor c line) m = true ∧ RowOk ln c.1.length (setNo c line) (rowFor c line) := by
  obtain ⟨a1, ⟨t, a2, a3⟩, a4⟩ := h3 _ _ (rowFor_get (line := line) h1)
  have : treeFor c line = t := by
    unfold treeFor
    rw [List.getD_eq_getElem?_getD, a2]
    rfl
  rw [this]
  exact ⟨a1, a2, a3, a4⟩

/- Rows of a store in which one set is turned. -/
theorem rowFor_set {c : CacheD} {line l : Int} {row : List WayD} {ts : List Int} (h1 : pow3 c.1.length) :
    rowFor (c.1.set (setNo c line) row, ts) l = if setNo c l = setNo c line then row else rowFor c l := by
  have hlt := setNo_lt (line := line) h1
  have e : setNo (c.1.set (setNo c line) row, ts) l = setNo c l := by simp [setNo]
  unfold rowFor
  rw [e]
  simp only [List.getD_eq_getElem?_getD, List.getElem?_set]
  by_cases he : setNo c line = setNo c l
  · rw [if_pos he, if_pos hlt, if_pos he.symm]
    rfl
  · rw [if_neg he, if_neg (fun e => he e.symm)]

/- What is filled: the store stays right. -/
theorem fill_ok {c : CacheD} {u : WayD} {i : Nat} (ht : ∀ t n y : Int, tok t n = true → 0 ≤ y → y < n → tok (tou t n y) n = true) (h : OkC ln tok c) (hu : fullB ln u = true) (hp : putNo c u.1 = some i) :
    OkC ln tok (fillX tou c u i) ∧ ∃ x, (rowFor c u.1)[i]? = some x ∧ (clearB x = true ∨ x.1 = u.1) := by
  obtain ⟨h1, h2, m, hm, h3⟩ := h
  obtain ⟨a1, a2, a3, a4⟩ := tree_get (line := u.1) h1 h2 h3
  have hl := full_line hu
  have hput : ∃ x, (rowFor c u.1)[i]? = some x ∧ ((clearB x = true ∧ atC c u.1 = none) ∨ x.1 = u.1) := by
    unfold putNo at hp
    split at hp
    · rename_i k hk
      simp at hp
      subst hp
      obtain ⟨_, x, hx, he⟩ := at_some hk
      exact ⟨x, hx, .inr he⟩
    · rename_i hk
      obtain ⟨x, hx, hc⟩ := idx_some hp
      exact ⟨x, hx, .inl ⟨hc, hk⟩⟩
  obtain ⟨x, hx, hcase⟩ := hput
  have hi : i < m := by
    have := (List.getElem?_eq_some_iff.1 hx).1
    omega
  refine ⟨?_, x, hx, hcase.imp (fun h => h.1) id⟩
  unfold fillX
  refine ok_set h1 h2 hm h3 (by rw [a1]; exact ht _ _ _ a3 (by omega) (by omega)) (row_set a4 (.inr ⟨hu, (setNo_cast h1).symm⟩) ?_)
  intro k y hy h0 he
  rcases hcase with ⟨_, hn⟩ | hxe
  · exact absurd he (at_none hn h0 hy)
  · exact a4.2 k i y x hy hx (by omega) (he.trans hxe.symm)

theorem at_iff {c : CacheD} {l : Int} {k : Nat} {u : WayD} (hr : ∀ (i k : Nat) (u x : WayD), (rowFor c l)[i]? = some u → (rowFor c l)[k]? = some x → 0 ≤ u.1 → u.1 = x.1 → i = k) (h0 : 0 ≤ l) (hu : (rowFor c l)[k]? = some u) (hl : u.1 = l) : atC c l = some k := by
  obtain ⟨j, hj⟩ := at_of h0 hu hl
  obtain ⟨_, x, hx, he⟩ := at_some hj
  rw [hj, hr j k x u hx hu (by omega) (by omega)]

theorem getD_of {row : List WayD} {i : Nat} {u : WayD} (h : row[i]? = some u) : row.getD i emptyW = u := by
  rw [List.getD_eq_getElem?_getD, h]
  rfl

/- What is filled is found; what is found of all other lines is as it was. -/
theorem fill_found {c : CacheD} {u : WayD} {i : Nat} (ht : ∀ t n y : Int, tok t n = true → 0 ≤ y → y < n → tok (tou t n y) n = true) (h : OkC ln tok c) (hu : fullB ln u = true) (hp : putNo c u.1 = some i) :
    findC ln tok (fillX tou c u i) u.1 = (u, (i : Int)) := by
  obtain ⟨hok, x, hx, _⟩ := fill_ok ht h hu hp
  have h1 := h.1
  have hl := full_line hu
  have hrow : rowFor (fillX tou c u i) u.1 = (rowFor c u.1).set i u := by
    unfold fillX
    rw [rowFor_set h1, if_pos rfl]
  have hget : (rowFor (fillX tou c u i) u.1)[i]? = some u := by
    rw [hrow, List.getElem?_set, if_pos rfl, if_pos (List.getElem?_eq_some_iff.1 hx).1]
  obtain ⟨g1, g2, m, gm, g3⟩ := hok
  have hat : atC (fillX tou c u i) u.1 = some i := at_iff (tree_get g1 g2 g3).2.2.2.2 hl.1 hget rfl
  unfold findC
  rw [if_pos (okB_iff.2 ⟨g1, g2, m, gm, g3⟩), hat]
  simp only [getD_of hget]

theorem find_none {c : CacheD} {l : Int} (h : atC c l = none) : findC ln tok c l = (emptyW, -1) := by
  unfold findC
  rw [h]
  split <;> rfl
theorem find_some {c : CacheD} {l : Int} {i : Nat} {u : WayD} (h : OkC ln tok c) (ha : atC c l = some i) (hu : (rowFor c l)[i]? = some u) : findC ln tok c l = (u, (i : Int)) := by
  unfold findC
  rw [if_pos (okB_iff.2 h), ha]
  simp only [getD_of hu]

/- Two stores that are right: a line is found in both alike where its rows hold it alike. -/
theorem find_same {c d : CacheD} {l : Int} (h : OkC ln tok c) (k : OkC ln tok d) (hh : ∀ (u : WayD), u.1 = l → ((∃ i : Nat, (rowFor c l)[i]? = some u) ↔ ∃ i : Nat, (rowFor d l)[i]? = some u)) : (findC ln tok c l).1 = (findC ln tok d l).1 := by
  cases hc : atC c l with
  | none =>
    cases hd : atC d l with
    | none => rw [find_none hc, find_none hd]
    | some j =>
      obtain ⟨h0, x, hx, he⟩ := at_some hd
      obtain ⟨i, hi⟩ := (hh x he).2 ⟨j, hx⟩
      exact absurd he (at_none hc h0 hi)
  | some i =>
    obtain ⟨h0, x, hx, he⟩ := at_some hc
    obtain ⟨j, hj⟩ := (hh x he).1 ⟨i, hx⟩
    obtain ⟨g1, g2, m, gm, g3⟩ := k
    have hd := at_iff (tree_get g1 g2 g3).2.2.2.2 h0 hj he
    rw [find_some h hc hx, find_some ⟨g1, g2, m, gm, g3⟩ hd hj]

theorem fill_other {c : CacheD} {u : WayD} {i : Nat} {l : Int} (ht : ∀ t n y : Int, tok t n = true → 0 ≤ y → y < n → tok (tou t n y) n = true) (h : OkC ln tok c) (hu : fullB ln u = true) (hp : putNo c u.1 = some i) (hl : l ≠ u.1) (h0 : 0 ≤ l) :
    (findC ln tok c l).1 = (findC ln tok (fillX tou c u i) l).1 := by
  obtain ⟨hok, x, hx, hcase⟩ := fill_ok ht h hu hp
  refine find_same h hok fun y hy => ?_
  have hrow : rowFor (fillX tou c u i) l = if setNo c l = setNo c u.1 then (rowFor c u.1).set i u else rowFor c l := by
    unfold fillX
    rw [rowFor_set h.1]
  rw [hrow]
  by_cases hs : setNo c l = setNo c u.1
  · rw [if_pos hs]
    have hrr : rowFor c l = rowFor c u.1 := by unfold rowFor; rw [hs]
    rw [hrr]
    constructor
    · rintro ⟨j, hj⟩
      refine ⟨j, ?_⟩
      rw [List.getElem?_set]
      by_cases hij : i = j
      · subst hij
        rw [hx] at hj
        simp at hj
        subst hj
        rcases hcase with hc | hc
        · have := clear_eq hc
          rw [this] at hy
          simp [emptyW] at hy
          omega
        · exact absurd (hy.symm.trans hc) hl
      · rw [if_neg hij]
        exact hj
    · rintro ⟨j, hj⟩
      rw [List.getElem?_set] at hj
      by_cases hij : i = j
      · rw [if_pos hij] at hj
        split at hj
        · simp at hj
          subst hj
          exact absurd hy.symm hl
        · cases hj
      · rw [if_neg hij] at hj
        exact ⟨j, hj⟩
  · rw [if_neg hs]

/- What is dropped is there no more. -/
theorem drop_ok {c : CacheD} {l : Int} {i : Nat} (h : OkC ln tok c) (ha : atC c l = some i) : OkC ln tok (dropX c l i) ∧ atC (dropX c l i) l = none ∧ roomC (dropX c l i) l ≠ none := by
  obtain ⟨h1, h2, m, hm, h3⟩ := h
  obtain ⟨a1, a2, a3, a4⟩ := tree_get (line := l) h1 h2 h3
  obtain ⟨h0, x, hx, he⟩ := at_some ha
  have hlt := (List.getElem?_eq_some_iff.1 hx).1
  have e2 : c.2.set (setNo c l) (treeFor c l) = c.2 := by
    apply List.ext_getElem?
    intro j
    rw [List.getElem?_set]
    by_cases hj : setNo c l = j
    · subst hj
      rw [if_pos rfl, if_pos (List.getElem?_eq_some_iff.1 a2).1, a2]
    · rw [if_neg hj]
  have hok : OkC ln tok (dropX c l i) := by
    have := ok_set (x := emptyW) (i := i) h1 h2 hm h3 a3 (row_set a4 (.inl clear_empty) (fun k u _ h => by simp [emptyW] at h))
    rw [e2] at this
    exact this
  have hrow : rowFor (dropX c l i) l = (rowFor c l).set i emptyW := by
    unfold dropX
    rw [rowFor_set h1, if_pos rfl]
  have hget : (rowFor (dropX c l i) l)[i]? = some emptyW := by rw [hrow, List.getElem?_set, if_pos rfl, if_pos hlt]
  refine ⟨hok, ?_, fun hn => ?_⟩
  · cases hat : atC (dropX c l i) l with
    | none => rfl
    | some j =>
      obtain ⟨_, y, hy, hye⟩ := at_some hat
      rw [hrow, List.getElem?_set] at hy
      by_cases hij : i = j
      · rw [if_pos hij, if_pos hlt] at hy
        simp at hy
        subst hy
        simp [emptyW] at hye
        omega
      · rw [if_neg hij] at hy
        exact absurd (a4.2 i j x y hx hy (by omega) (by omega)) hij
  · have := idx_none hn hget
    rw [clear_empty] at this
    cases this

/- A new one is right. -/
theorem new_ok {n m : Nat} (hn : pow3 n) (hm : pow3 m) (ht : ∀ m : Nat, pow3 m → tok 0 m = true) : OkC ln tok (newX n m) := by
  refine ⟨by simpa [newX] using hn, by simp [newX], m, hm, fun s row hs => ?_⟩
  simp only [newX, List.length_replicate] at hs ⊢
  rw [List.getElem?_replicate] at hs
  split at hs
  · rename_i hlt
    simp at hs
    subst hs
    refine ⟨by simp, ⟨0, by rw [List.getElem?_replicate, if_pos hlt], ht m hm⟩, fun i u hu => ?_, fun i k u x hu _ h0 _ => ?_⟩
    · rw [List.getElem?_replicate] at hu
      split at hu
      · simp at hu
        subst hu
        exact .inl clear_empty
      · cases hu
    · rw [List.getElem?_replicate] at hu
      split at hu
      · simp at hu
        subst hu
        simp [emptyW] at h0
      · cases hu
  · cases hs

/- What must go. -/
theorem leaves_none {c : CacheD} {line : Int} (hv : ∀ t n : Int, tok t n = true → 0 ≤ vic t n ∧ vic t n < n) (h : OkC ln tok c) (hp : putNo c line = none) (h0 : 0 ≤ line) :
    ∃ (j : Nat) (u : WayD), (rowFor c line)[j]? = some u ∧ (rowFor c line).getD (vic (treeFor c line) (rowFor c line).length).toNat emptyW = u ∧ fullB ln u = true ∧ setNo c u.1 = setNo c line ∧ u.1 ≠ line ∧ atC c u.1 = some j := by
  obtain ⟨h1, h2, m, hm, h3⟩ := h
  obtain ⟨a1, a2, a3, a4⟩ := tree_get (line := line) h1 h2 h3
  have hvv := hv _ _ a3
  rw [← a1] at hvv
  have hlt : (vic (treeFor c line) (rowFor c line).length).toNat < (rowFor c line).length := by omega
  generalize (vic (treeFor c line) (rowFor c line).length).toNat = j at hlt
  have hu : (rowFor c line)[j]? = some (rowFor c line)[j] := List.getElem?_eq_getElem hlt
  generalize (rowFor c line)[j] = u at hu
  have hn : atC c line = none ∧ roomC c line = none := by
    unfold putNo at hp
    split at hp
    · cases hp
    · rename_i hk
      exact ⟨hk, hp⟩
  have hne := at_none hn.1 h0 hu
  have hcl : clearB u = false := idx_none hn.2 hu
  rcases a4.1 j u hu with hc | ⟨hf, hs⟩
  · rw [hcl] at hc
    cases hc
  · have hset : setNo c u.1 = setNo c line := by
      have e1 := setNo_cast (line := u.1) h1
      omega
    have hrr : rowFor c u.1 = rowFor c line := by unfold rowFor; rw [hset]
    refine ⟨j, u, hu, getD_of hu, hf, hset, hne, ?_⟩
    exact at_iff (by rw [hrr]; exact a4.2) (full_line hf).1 (by rw [hrr]; exact hu) rfl

end
end Go.Proofs.Ytpfgggjcaogkkaa
