
/- The program's copy of a store: what is owned between its steps. No call here. -/
import Derived.Test.YtbcggkfbahmpoaaPuts
import Derived.Test.YtbcggkfbahmpoaaAppAny
namespace Go.Proofs.Ytbcggkfbahmpoaa
open Go.ChangeShapes Go.WideShapes Go.ChangeAt Go.RowKit
set_option linter.unusedVariables false

def zeroW : WayD := (0, 0, [])
/- The sets whose first k ways are copied, m ways a set. -/
def copyAt (m k : Nat) (cs : List (List WayD)) : List (List WayD) := cs.mapIdx fun i row => row.mapIdx fun j u => if i * m + j < k then u else zeroW
theorem copyAt_len (m k : Nat) (cs : List (List WayD)) : (copyAt m k cs).length = cs.length := by simp [copyAt]
theorem copyAt_get {m k s : Nat} {cs : List (List WayD)} {row : List WayD} (h : cs[s]? = some row) : (copyAt m k cs)[s]? = some (row.mapIdx fun j u => if s * m + j < k then u else zeroW) := by
  unfold copyAt
  rw [List.getElem?_mapIdx, h]
  rfl
theorem copyAt_zero (m : Nat) (cs : List (List WayD)) : copyAt m 0 cs = cs.map fun row => List.replicate row.length zeroW := by
  unfold copyAt
  apply List.ext_getElem?
  intro i
  rw [List.getElem?_mapIdx, List.getElem?_map]
  cases h : cs[i]? with
  | none => rfl
  | some row =>
    simp only [Option.map_some, Option.some.injEq]
    apply List.ext_getElem?
    intro j
    rw [List.getElem?_mapIdx, List.getElem?_replicate]
    by_cases hj : j < row.length
    · simp [hj]
    · simp [hj]
theorem copyAt_all {m : Nat} {cs : List (List WayD)} (hm : ∀ row ∈ cs, row.length = m) : copyAt m (cs.length * m) cs = cs := by
  unfold copyAt
  apply List.ext_getElem?
  intro i
  rw [List.getElem?_mapIdx]
  cases h : cs[i]? with
  | none => rfl
  | some row =>
    have hil := (List.getElem?_eq_some_iff.1 h).1
    have hrl := hm row (List.mem_of_getElem? h)
    simp only [Option.map_some, Option.some.injEq]
    apply List.ext_getElem?
    intro j
    rw [List.getElem?_mapIdx]
    cases hu : row[j]? with
    | none => rfl
    | some u =>
      have hjl := (List.getElem?_eq_some_iff.1 hu).1
      have h1 : i * m + m ≤ cs.length * m := by
        have := Nat.mul_le_mul_right m (show i + 1 ≤ cs.length from hil)
        rw [Nat.add_mul, Nat.one_mul] at this
        exact this
      simp [show i * m + j < cs.length * m from by omega]
theorem copyAt_step {m s j : Nat} {cs : List (List WayD)} {row : List WayD} {u : WayD} (hm : ∀ row ∈ cs, row.length = m) (hs : cs[s]? = some row) (hu : row[j]? = some u) :
    (copyAt m (s * m + j) cs).set s ((row.mapIdx fun j' u' => if s * m + j' < s * m + j then u' else zeroW).set j u) = copyAt m (s * m + j + 1) cs := by
  have hjl := (List.getElem?_eq_some_iff.1 hu).1
  have hsl := (List.getElem?_eq_some_iff.1 hs).1
  have hrm := hm row (List.mem_of_getElem? hs)
  apply List.ext_getElem?
  intro i
  by_cases his : s = i
  · subst his
    rw [List.getElem?_set_self (by rw [copyAt_len]; exact hsl), copyAt_get hs]
    congr 1
    apply List.ext_getElem?
    intro j'
    by_cases hj : j = j'
    · subst hj
      rw [List.getElem?_set_self (by simpa using hjl), List.getElem?_mapIdx, hu]
      simp
    · rw [List.getElem?_set_ne hj, List.getElem?_mapIdx, List.getElem?_mapIdx]
      cases row[j']? with
      | none => rfl
      | some u' =>
        simp only [Option.map_some, Option.some.injEq]
        by_cases h1 : s * m + j' < s * m + j
        · rw [if_pos h1, if_pos (by omega)]
        · rw [if_neg h1, if_neg (by omega)]
  · rw [List.getElem?_set_ne his]
    cases h : cs[i]? with
    | none =>
      have := List.getElem?_eq_none_iff.1 h
      rw [List.getElem?_eq_none_iff.2 (by rw [copyAt_len]; exact this), List.getElem?_eq_none_iff.2 (by rw [copyAt_len]; exact this)]
    | some row' =>
      rw [copyAt_get h, copyAt_get h]
      congr 1
      apply List.ext_getElem?
      intro j'
      rw [List.getElem?_mapIdx, List.getElem?_mapIdx]
      cases hu' : row'[j']? with
      | none => rfl
      | some u' =>
        have hj' := (List.getElem?_eq_some_iff.1 hu').1
        have hrm' := hm row' (List.mem_of_getElem? h)
        simp only [Option.map_some, Option.some.injEq]
        rcases Nat.lt_or_gt_of_ne his with hlt | hgt
        · have h1 : s * m + m ≤ i * m := by
            have := Nat.mul_le_mul_right m (show s + 1 ≤ i from hlt)
            rw [Nat.add_mul, Nat.one_mul] at this
            exact this
          rw [if_neg (by omega), if_neg (by omega)]
        · have h1 : i * m + m ≤ s * m := by
            have := Nat.mul_le_mul_right m (show i + 1 ≤ s from hgt)
            rw [Nat.add_mul, Nat.one_mul] at this
            exact this
          rw [if_pos (by omega), if_pos (by omega)]

theorem flat3_get (x y z : Value) : ∀ (n i : Nat), (List.replicate n [x, y, z]).flatten[i]? = if i < n * 3 then [x, y, z][i % 3]? else none
  | 0, i => by simp
  | n + 1, i => by
    rw [List.replicate_succ, List.flatten_cons, List.getElem?_append]
    by_cases h : i < 3
    · rw [if_pos (by simpa using h), if_pos (by omega), Nat.mod_eq_of_lt h]
    · rw [if_neg (by simpa using h), flat3_get x y z n]
      have e : (i - [x, y, z].length) % 3 = i % 3 := by
        show (i - 3) % 3 = i % 3
        omega
      rw [e]
      by_cases h2 : i < (n + 1) * 3
      · rw [if_pos h2, if_pos (by show i - 3 < n * 3; omega)]
      · rw [if_neg h2, if_neg (by show ¬ (i - 3 < n * 3); omega)]
theorem made_three (n : Nat) (x y z : Value) : (madeCells #[x, y, z] (n * 3)).toList = (List.replicate n [x, y, z]).flatten := by
  apply List.ext_getElem?
  intro i
  rw [flat3_get]
  unfold madeCells
  by_cases h : i < n * 3
  · have h3 : i % 3 < 3 := Nat.mod_lt _ (by decide)
    rcases (by omega : i % 3 = 0 ∨ i % 3 = 1 ∨ i % 3 = 2) with e | e | e <;> simp [h, e]
  · simp [h]
theorem lown_zeros {w : World} {S : Foot} : ∀ n, lown wayR w S (List.replicate n [.int .i64 0, .int .i64 0, .slice none 0 0]).flatten (List.replicate n zeroW)
  | 0 => rfl
  | n + 1 => ⟨[.int .i64 0, .int .i64 0, .slice none 0 0], (List.replicate n [.int .i64 0, .int .i64 0, .slice none 0 0]).flatten, fun _ => False, S, by rw [List.replicate_succ, List.flatten_cons], own_way (by constructor <;> decide) (by constructor <;> decide) (own_nothing _ _), lown_zeros n, fun _ h => h.elim, Sub.refl _, fun _ h _ => h⟩
theorem zways_at {W : World} {S : Foot} {g n : Nat} (hh : W.heap[g]? = some (.cells (madeCells #[.int .i64 0, .int .i64 0, .slice none 0 0] (n * 3)) 37 (0, 0))) (hS : S g) (hm : n ≤ maxLen) : waysR.own W S [.slice (some ⟨g, 0, none⟩) n n] (List.replicate n zeroW) := by
  have e1 : n * wayR.size = n * 3 := rfl
  have hl : (List.replicate n [Value.int .i64 0, .int .i64 0, .slice none 0 0]).flatten.length = n * 3 := by simp
  refine ⟨_, (List.replicate n [.int .i64 0, .int .i64 0, .slice none 0 0]).flatten, fun _ => False, rfl, ⟨by rw [hl, List.length_replicate, e1], .inr ⟨g, n, _, by simp, Nat.zero_le _, hh, by simp, hm, by rw [size_madeCells, e1], ?_⟩⟩, fun x hx => ?_, fun _ h => h.elim, lown_zeros n⟩
  · rw [made_three, List.length_replicate, e1, List.take_of_length_le (by rw [hl]; exact Nat.le_refl _)]
  · simp [Value.ownBlock] at hx
    subst hx
    exact ⟨hS, fun h => h⟩

structure Lies (s t pa cb : Nat) (Tf : Foot) : Prop where
  p1 : s + 2 ≤ pa
  p2 : pa < t
  c1 : s + 2 ≤ cb
  c2 : cb < t
  ne : pa ≠ cb
  ts : Sub Tf (rng (s + 2) t)
  tp : ¬ Tf pa
  tc : ¬ Tf cb
def Rooms (t pa : Nat) (w : World) : Foot := fun k => (k = pa ∨ t ≤ k) ∧ k < w.heap.size
def CopyI (w : World) (t pa cb n : Nat) (Tf : Foot) (box : Obj) (v : Value) (ts : List Int) (xss : List (List WayD)) (wr : World) : Prop :=
  setsR.own wr (Rooms t pa wr) [.slice (some ⟨pa, 0, none⟩) n n] xss ∧
  wr.heap[cb]? = some (.cells #[.slice (some ⟨pa, 0, none⟩) n n, v] 35 (0, 0)) ∧
  wr.heap[w.heap.size + 1]? = some (.cells #[.slice none 0 0, .slice none 0 0] 35 (0, 0)) ∧ wr.heap[w.heap.size]? = some box ∧
  intsR.own wr Tf [v] ts ∧ Below w.heap.size w wr ∧ t ≤ wr.heap.size
theorem copy_next {w wr wr' : World} {t pa cb n : Nat} {Tf : Foot} {box : Obj} {v : Value} {ts : List Int} {xss : List (List WayD)} (h : CopyI w t pa cb n Tf box v ts xss wr) (hb : Below wr.heap.size wr wr') : CopyI w t pa cb n Tf box v ts xss wr' := by
  obtain ⟨h1, h2, h3, h4, h5, h6, h7⟩ := h
  have := hb.size
  exact ⟨setsR.own_mono (setsR.own_keep h1 (keeps_below hb)) fun k hk => ⟨hk.1, by have := hk.2; omega⟩, row_keep hb h2, row_keep hb h3, row_keep hb h4, intsR.own_keep h5 (keeps_below hb), below_step h6 hb, by omega⟩
/- What a change within the rooms leaves. -/
theorem copy_chg {w wr wr' : World} {t pa cb n : Nat} {Tf : Foot} {box : Obj} {v : Value} {ts : List Int} {xss yss : List (List WayD)} {S : Foot} (L : Lies w.heap.size t pa cb Tf) (h : CopyI w t pa cb n Tf box v ts xss wr) (hc : Chg S wr wr') (hS : Sub S (Rooms t pa wr))
    (ho : setsR.own wr' (Rooms t pa wr') [.slice (some ⟨pa, 0, none⟩) n n] yss) : CopyI w t pa cb n Tf box v ts yss wr' := by
  obtain ⟨h1, h2, h3, h4, h5, h6, h7⟩ := h
  obtain ⟨p1, p2, c1, c2, ne, ts', tp, tc⟩ := L
  have := hc.size
  have nS : ∀ x, x ≠ pa → x < t → ¬ S x := fun x hx hl hs => by
    rcases (hS x hs).1 with h | h
    · exact hx h
    · omega
  refine ⟨ho, (hc.block _ (by omega) (nS cb (Ne.symm ne) c2)).trans h2, (hc.block _ (by omega) (nS _ (by omega) (by omega))).trans h3, (hc.block _ (by omega) (nS _ (by omega) (by omega))).trans h4, own_chg h5 hc (fun x hx hs => nS x (fun e => tp (e ▸ hx)) (ts' x hx).2 hs), hc.below h6 (fun x hs => ?_) (by omega), by omega⟩
  rcases (hS x hs).1 with h | h <;> omega
theorem copy_put {w wr wr' : World} {t pa cb n : Nat} {Tf : Foot} {box : Obj} {v : Value} {ts : List Int} {xss yss : List (List WayD)} (L : Lies w.heap.size t pa cb Tf) (h : CopyI w t pa cb n Tf box v ts xss wr)
    (ho : setsR.own wr' (fun k => Old wr (Rooms t pa wr) k ∨ (wr.heap.size ≤ k ∧ k < wr'.heap.size)) [.slice (some ⟨pa, 0, none⟩) n n] yss) (hc : Chg (Old wr (Rooms t pa wr)) wr wr') : CopyI w t pa cb n Tf box v ts yss wr' := by
  have hs := hc.size
  have ht := h.2.2.2.2.2.2
  exact copy_chg L h hc (fun k hk => hk.1) (setsR.own_mono ho fun k hk => by
    rcases hk with hk | hk
    · exact ⟨hk.1.1, by have := hk.2; omega⟩
    · exact ⟨.inr (by omega), hk.2⟩)
theorem copy_row {w wr : World} {t pa cb n k r : Nat} {Tf : Foot} {box : Obj} {v : Value} {ts : List Int} {xss : List (List WayD)} {old : List WayD} (L : Lies w.heap.size t pa cb Tf) (h : CopyI w t pa cb n Tf box v ts xss wr) (hx : xss[k]? = some old) (hr : r ≤ maxLen) :
    (∃ u, wr.cell? ⟨pa, k, none⟩ = some u) ∧ wr.frozen? ⟨pa, k, none⟩ = false ∧ pa < wr.heap.size ∧
      CopyI w t pa cb n Tf box v ts (xss.set k (List.replicate r zeroW)) ((wr.alloc (.cells (madeCells #[.int .i64 0, .int .i64 0, .slice none 0 0] (r * 3)) 37)).setCell ⟨pa, k, none⟩ (.slice (some ⟨wr.heap.size, 0, none⟩) r r)) := by
  have h0 := h
  obtain ⟨h1, -, -, -, -, -, h7⟩ := h0
  obtain ⟨g, cap, cur, Sj, T, c, hv, hSg, hg, hc, hcl, ho, s1, s2, hd, n1, n2, back⟩ := slown_focus h1 hx
  simp only [Value.slice.injEq, Option.some.injEq, Addr.mk.injEq, and_true] at hv
  obtain ⟨rfl, hn, hcap⟩ := hv
  have e1 : waysR.size = 1 := rfl
  simp only [e1, Nat.mul_one] at hc back
  obtain ⟨u, rfl⟩ : ∃ u, c = [u] := List.length_eq_one_iff.1 hcl
  have hck : cur[k]? = some u := by simpa using hc 0 (by decide)
  have hpl := (Array.getElem?_eq_some_iff.1 hg).1
  have kl := (Array.getElem?_eq_some_iff.1 hck).1
  have hb := box_below wr (.cells (madeCells #[.int .i64 0, .int .i64 0, .slice none 0 0] (r * 3)) 37)
  have G1 := row_keep hb hg
  have Z := heap_at wr (.cells (madeCells #[.int .i64 0, .int .i64 0, .slice none 0 0] (r * 3)) 37)
  have hsz : ((wr.alloc (.cells (madeCells #[.int .i64 0, .int .i64 0, .slice none 0 0] (r * 3)) 37)).setCell ⟨pa, k, none⟩ (.slice (some ⟨wr.heap.size, 0, none⟩) r r)).heap.size = wr.heap.size + 1 := by simp
  have hchg : Chg (fun x => x = pa) wr ((wr.alloc (.cells (madeCells #[.int .i64 0, .int .i64 0, .slice none 0 0] (r * 3)) 37)).setCell ⟨pa, k, none⟩ (.slice (some ⟨wr.heap.size, 0, none⟩) r r)) := by
    have hb2 : Below pa (wr.alloc (.cells (madeCells #[.int .i64 0, .int .i64 0, .slice none 0 0] (r * 3)) 37)) _ := below_setC (g := pa) (o := k) (v := .slice (some ⟨wr.heap.size, 0, none⟩) r r) (Below.refl pa _) (Nat.le_refl _)
    exact (chg_below (S := fun x => x = pa) hb).trans ⟨hb2.os, hb2.tape, hb2.output, hb2.size, fun x _ hn => heap_setCell_other _ ⟨pa, k, none⟩ x _ hn⟩
  refine ⟨⟨u, by rw [cell_of_row wr pa k _ _ (0, 0) hg]; exact hck⟩, frozen_of_row wr pa k _ _ hg, hpl, copy_chg L h hchg (fun x hx => by have e : x = pa := hx; rw [e]; exact hSg) ?_⟩
  refine back _ (cur.setIfInBounds k (.slice (some ⟨wr.heap.size, 0, none⟩) r r)) [.slice (some ⟨wr.heap.size, 0, none⟩) r r] _ (fun x => x = wr.heap.size) _ (heap_setCell_same _ pa k _ _ _ G1) (by simp) ?_ ?_ ?_ (own_setC (zways_at Z rfl hr) (fun e => by omega)) ?_ (fun e => by omega) ?_ ?_ ?_
  · intro i hi
    rw [Array.getElem?_setIfInBounds_ne (by omega)]
  · intro i hi
    have : i = 0 := by omega
    subst this
    simp [kl]
  · intro x hx hl
    exact hchg.block x hl fun e => n2 (by have e' : x = pa := e; rw [← e']; exact hx)
  · intro x hx hT
    have e : x = wr.heap.size := hx
    have := (s2 x hT).2
    omega
  · exact ⟨.inl rfl, by rw [hsz]; omega⟩
  · intro x hx
    have e : x = wr.heap.size := hx
    exact ⟨.inr (by omega), by rw [hsz]; omega⟩
  · intro x hx
    have := s2 x hx
    exact ⟨this.1, by have := this.2; rw [hsz]; omega⟩
theorem copy_row2 {w wr : World} {t pa cb n k r : Nat} {Tf : Foot} {box : Obj} {v : Value} {ts : List Int} {xss : List (List WayD)} {old : List WayD} (L : Lies w.heap.size t pa cb Tf) (h : CopyI w t pa cb n Tf box v ts xss wr) (hx : xss[k]? = some old) (hr : r ≤ maxLen) :
    (∃ u, wr.cell? ⟨pa, k, none⟩ = some u) ∧ wr.frozen? ⟨pa, k, none⟩ = false ∧ pa < wr.heap.size ∧
      CopyI w t pa cb n Tf box v ts (xss.set k (List.replicate r zeroW)) ((wr.setCell ⟨pa, k, none⟩ (.slice (some ⟨wr.heap.size, 0, none⟩) r r)).alloc (.cells (madeCells #[.int .i64 0, .int .i64 0, .slice none 0 0] (r * 3)) 37)) := by
  have h0 := h
  obtain ⟨h1, -, -, -, -, -, h7⟩ := h0
  obtain ⟨g, cap, cur, Sj, T, c, hv, hSg, hg, hc, hcl, ho, s1, s2, hd, n1, n2, back⟩ := slown_focus h1 hx
  simp only [Value.slice.injEq, Option.some.injEq, Addr.mk.injEq, and_true] at hv
  obtain ⟨rfl, hn, hcap⟩ := hv
  have e1 : waysR.size = 1 := rfl
  simp only [e1, Nat.mul_one] at hc back
  obtain ⟨u, rfl⟩ : ∃ u, c = [u] := List.length_eq_one_iff.1 hcl
  have hck : cur[k]? = some u := by simpa using hc 0 (by decide)
  have hpl := (Array.getElem?_eq_some_iff.1 hg).1
  have kl := (Array.getElem?_eq_some_iff.1 hck).1
  have hs0 : (wr.setCell ⟨pa, k, none⟩ (.slice (some ⟨wr.heap.size, 0, none⟩) r r)).heap.size = wr.heap.size := by simp
  have G0 := heap_setCell_same wr pa k _ _ (.slice (some ⟨wr.heap.size, 0, none⟩) r r) hg
  have G1 := heap_on (.cells (madeCells #[.int .i64 0, .int .i64 0, .slice none 0 0] (r * 3)) 37) G0
  have Z : ((wr.setCell ⟨pa, k, none⟩ (.slice (some ⟨wr.heap.size, 0, none⟩) r r)).alloc (.cells (madeCells #[.int .i64 0, .int .i64 0, .slice none 0 0] (r * 3)) 37)).heap[wr.heap.size]? = some (.cells (madeCells #[.int .i64 0, .int .i64 0, .slice none 0 0] (r * 3)) 37) := by
    have := heap_at (wr.setCell ⟨pa, k, none⟩ (.slice (some ⟨wr.heap.size, 0, none⟩) r r)) (.cells (madeCells #[.int .i64 0, .int .i64 0, .slice none 0 0] (r * 3)) 37)
    rw [hs0] at this
    exact this
  have hsz : ((wr.setCell ⟨pa, k, none⟩ (.slice (some ⟨wr.heap.size, 0, none⟩) r r)).alloc (.cells (madeCells #[.int .i64 0, .int .i64 0, .slice none 0 0] (r * 3)) 37)).heap.size = wr.heap.size + 1 := by simp
  have hchg : Chg (fun x => x = pa) wr ((wr.setCell ⟨pa, k, none⟩ (.slice (some ⟨wr.heap.size, 0, none⟩) r r)).alloc (.cells (madeCells #[.int .i64 0, .int .i64 0, .slice none 0 0] (r * 3)) 37)) := by
    have hb2 : Below pa wr _ := below_setC (g := pa) (o := k) (v := (.slice (some ⟨wr.heap.size, 0, none⟩) r r)) (Below.refl pa _) (Nat.le_refl _)
    exact (⟨hb2.os, hb2.tape, hb2.output, hb2.size, fun x _ hn => heap_setCell_other _ ⟨pa, k, none⟩ x _ hn⟩ : Chg (fun x => x = pa) wr (wr.setCell ⟨pa, k, none⟩ (.slice (some ⟨wr.heap.size, 0, none⟩) r r))).trans (chg_below (S := fun x => x = pa) (box_below _ (.cells (madeCells #[.int .i64 0, .int .i64 0, .slice none 0 0] (r * 3)) 37)))
  refine ⟨⟨u, by rw [cell_of_row wr pa k _ _ (0, 0) hg]; exact hck⟩, frozen_of_row wr pa k _ _ hg, hpl, copy_chg L h hchg (fun x hx => by have e : x = pa := hx; rw [e]; exact hSg) ?_⟩
  refine back _ (cur.setIfInBounds k (.slice (some ⟨wr.heap.size, 0, none⟩) r r)) [.slice (some ⟨wr.heap.size, 0, none⟩) r r] _ (fun x => x = wr.heap.size) _ G1 (by simp) ?_ ?_ ?_ (zways_at Z rfl hr) ?_ (fun e => by omega) ?_ ?_ ?_
  · intro i hi
    rw [Array.getElem?_setIfInBounds_ne (by omega)]
  · intro i hi
    have : i = 0 := by omega
    subst this
    simp [kl]
  · intro x hx hl
    exact hchg.block x hl fun e => n2 (by have e' : x = pa := e; rw [← e']; exact hx)
  · intro x hx hT
    have e : x = wr.heap.size := hx
    have := (s2 x hT).2
    omega
  · exact ⟨.inl rfl, by rw [hsz]; omega⟩
  · intro x hx
    have e : x = wr.heap.size := hx
    exact ⟨.inr (by omega), by rw [hsz]; omega⟩
  · intro x hx
    have := s2 x hx
    exact ⟨this.1, by have := this.2; rw [hsz]; omega⟩
end Go.Proofs.Ytbcggkfbahmpoaa
