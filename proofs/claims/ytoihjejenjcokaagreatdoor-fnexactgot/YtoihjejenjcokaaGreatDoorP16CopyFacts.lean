import Derived.Test.YtoihjejenjcokaaGreatDoorP00Box
import Derived.Test.YtoihjejenjcokaaGreatDoorP15AppAny
import Derived.Test.YtoihjejenjcokaaGreatDoorP14WayCopy
import Derived.Lib.SliceRun
import Derived.BigRegion
import Derived.Deep.RegionLaw
import Derived.Deep.DeepCutAuto
import Derived.Deep.CutBlock
namespace Go.Proofs.YtoihjejenjcokaaGreatDoor
open Go.ChangeShapes Go.WideShapes Go.ChangeAt Go.RowKit
set_option linter.unusedVariables false
def zGd : zAU := (0, 0, [])
def zCI (m k : Nat) (cs : List (List zAU)) : List (List zAU) := cs.mapIdx fun i row => row.mapIdx fun j u => if i * m + j < k then u else zGd
theorem zDB (m k : Nat) (cs : List (List zAU)) : (zCI m k cs).length = cs.length := by simp [zCI]
theorem zE9 {m k s : Nat} {cs : List (List zAU)} {row : List zAU} (h : cs[s]? = some row) : (zCI m k cs)[s]? = some (row.mapIdx fun j u => if s * m + j < k then u else zGd) := by
 unfold zCI
 rw [List.getElem?_mapIdx, h]
 rfl
theorem zGH (m : Nat) (cs : List (List zAU)) : zCI m 0 cs = cs.map fun row => List.replicate row.length zGd := by
 unfold zCI
 apply List.ext_getElem?
 intro i
 rw [List.getElem?_mapIdx, List.getElem?_map]
 cases h : cs[i]? with
 | none => rfl
 | some row =>
  simp only [Option.map_some, Option.some.injEq]
  apply List.ext_getElem?
  intro j
  rw [List.getElem?_mapIdx, List.getElem?_replicate]
  by_cases hj : j < row.length
  ·simp [hj]
  ·simp [hj]
theorem zLO {m : Nat} {cs : List (List zAU)} (hm : ∀ row ∈ cs, row.length = m) : zCI m (cs.length * m) cs = cs := by
 unfold zCI
 apply List.ext_getElem?
 intro i
 rw [List.getElem?_mapIdx]
 cases h : cs[i]? with
 | none => rfl
 | some row =>
  have hil := (List.getElem?_eq_some_iff.1 h).1
  have hrl := hm row (List.mem_of_getElem? h)
  simp only [Option.map_some, Option.some.injEq]
  apply List.ext_getElem?
  intro j
  rw [List.getElem?_mapIdx]
  cases hu : row[j]? with
  | none => rfl
  | some u =>
   have hjl := (List.getElem?_eq_some_iff.1 hu).1
   have h1 : i * m + m ≤ cs.length * m := by
    have := Nat.mul_le_mul_right m (show i + 1 ≤ cs.length from hil)
    rw [Nat.add_mul, Nat.one_mul] at this
    exact this
   simp [show i * m + j < cs.length * m from by omega]
theorem zKs {m s j : Nat} {cs : List (List zAU)} {row : List zAU} {u : zAU} (hm : ∀ row ∈ cs, row.length = m) (hs : cs[s]? = some row) (hu : row[j]? = some u) :
    (zCI m (s * m + j) cs).set s ((row.mapIdx fun j' u' => if s * m + j' < s * m + j then u' else zGd).set j u) = zCI m (s * m + j + 1) cs := by
 have hjl := (List.getElem?_eq_some_iff.1 hu).1
 have hsl := (List.getElem?_eq_some_iff.1 hs).1
 have hrm := hm row (List.mem_of_getElem? hs)
 apply List.ext_getElem?
 intro i
 by_cases his : s = i
 ·subst his
  rw [List.getElem?_set_self (by rw [zDB]; exact hsl), zE9 hs]
  congr 1
  apply List.ext_getElem?
  intro j'
  by_cases hj : j = j'
  ·subst hj
   rw [List.getElem?_set_self (by simpa using hjl), List.getElem?_mapIdx, hu]
   simp
  ·rw [List.getElem?_set_ne hj, List.getElem?_mapIdx, List.getElem?_mapIdx]
   cases row[j']? with
   | none => rfl
   | some u' =>
    simp only [Option.map_some, Option.some.injEq]
    by_cases h1 : s * m + j' < s * m + j
    ·rw [if_pos h1, if_pos (by omega)]
    ·rw [if_neg h1, if_neg (by omega)]
 ·rw [List.getElem?_set_ne his]
  cases h : cs[i]? with
  | none =>
   have := List.getElem?_eq_none_iff.1 h
   rw [List.getElem?_eq_none_iff.2 (by rw [zDB]; exact this), List.getElem?_eq_none_iff.2 (by rw [zDB]; exact this)]
  | some row' =>
   rw [zE9 h, zE9 h]
   congr 1
   apply List.ext_getElem?
   intro j'
   rw [List.getElem?_mapIdx, List.getElem?_mapIdx]
   cases hu' : row'[j']? with
   | none => rfl
   | some u' =>
    have hj' := (List.getElem?_eq_some_iff.1 hu').1
    have hrm' := hm row' (List.mem_of_getElem? h)
    simp only [Option.map_some, Option.some.injEq]
    rcases Nat.lt_or_gt_of_ne his with hlt | hgt
    ·have h1 : s * m + m ≤ i * m := by
       have := Nat.mul_le_mul_right m (show s + 1 ≤ i from hlt)
       rw [Nat.add_mul, Nat.one_mul] at this
       exact this
     rw [if_neg (by omega), if_neg (by omega)]
    ·have h1 : i * m + m ≤ s * m := by
       have := Nat.mul_le_mul_right m (show i + 1 ≤ s from hgt)
       rw [Nat.add_mul, Nat.one_mul] at this
       exact this
     rw [if_pos (by omega), if_pos (by omega)]
theorem zJm (x y z : Value) : ∀ (n i : Nat), (List.replicate n [x, y, z]).flatten[i]? = if i < n * 3 then [x, y, z][i % 3]? else none
 | 0, i => by simp
 | n + 1, i => by
  rw [List.replicate_succ, List.flatten_cons, List.getElem?_append]
  by_cases h : i < 3
  ·rw [if_pos (by simpa using h), if_pos (by omega), Nat.mod_eq_of_lt h]
  ·rw [if_neg (by simpa using h), zJm x y z n]
   have e : (i - [x, y, z].length) % 3 = i % 3 := by
    show (i - 3) % 3 = i % 3
    omega
   rw [e]
   by_cases h2 : i < (n + 1) * 3
   ·rw [if_pos h2, if_pos (by show i - 3 < n * 3; omega)]
   ·rw [if_neg h2, if_neg (by show ¬ (i - 3 < n * 3); omega)]
theorem zLP (n : Nat) (x y z : Value) : (madeCells #[x, y, z] (n * 3)).toList = (List.replicate n [x, y, z]).flatten := by
 apply List.ext_getElem?
 intro i
 rw [zJm]
 unfold madeCells
 by_cases h : i < n * 3
 ·have h3 : i % 3 < 3 := Nat.mod_lt _ (by decide)
  rcases (by omega : i % 3 = 0 ∨ i % 3 = 1 ∨ i % 3 = 2) with e | e | e <;> simp [h, e]
 ·simp [h]
theorem zHE {w : World} {S : zAX} : ∀ n, zHi zAS w S (List.replicate n [.int .i64 0, .int .i64 0, .slice none 0 0]).flatten (List.replicate n zGd)
 | 0 => rfl
 | n + 1 => ⟨[.int .i64 0, .int .i64 0, .slice none 0 0], (List.replicate n [.int .i64 0, .int .i64 0, .slice none 0 0]).flatten, fun _ => False, S, by rw [List.replicate_succ, List.flatten_cons], zCF (by constructor <;> decide) (by constructor <;> decide) (zDR _ _), zHE n, fun _ h => h.elim, Sub.refl _, fun _ h _ => h⟩
theorem zLh {W : World} {S : zAX} {g n : Nat} (hh : W.heap[g]? = some (.cells (madeCells #[.int .i64 0, .int .i64 0, .slice none 0 0] (n * 3)) 39 (0, 0))) (hS : S g) (hm : n ≤ maxLen) : zBl.own W S [.slice (some ⟨g, 0, none⟩) n n] (List.replicate n zGd) := by
 have e1 : n * zAS.size = n * 3 := rfl
 have hl : (List.replicate n [Value.int .i64 0, .int .i64 0, .slice none 0 0]).flatten.length = n * 3 := by simp
 refine ⟨_, (List.replicate n [.int .i64 0, .int .i64 0, .slice none 0 0]).flatten, fun _ => False, rfl, ⟨by rw [hl, List.length_replicate, e1], .inr ⟨g, n, _, by simp, Nat.zero_le _, hh, by simp, hm, by rw [size_madeCells, e1], ?_⟩⟩, fun x hx => ?_, fun _ h => h.elim, zHE n⟩
 ·rw [zLP, List.length_replicate, e1, List.take_of_length_le (by rw [hl]; exact Nat.le_refl _)]
 ·simp [Value.ownBlock] at hx
  subst hx
  exact ⟨hS, fun h => h⟩
structure Lies (s t pa cb : Nat) (Tf : zAX) : Prop where
 p1 : s + 2 ≤ pa
 p2 : pa < t
 c1 : s + 2 ≤ cb
 c2 : cb < t
 ne : pa ≠ cb
 ts : Sub Tf (rng (s + 2) t)
 tp : ¬ Tf pa
 tc : ¬ Tf cb
def zIq (t pa : Nat) (w : World) : zAX := fun k => (k = pa ∨ t ≤ k) ∧ k < w.heap.size
def zEX (w : World) (t pa cb n : Nat) (Tf : zAX) (box : Obj) (v : Value) (ts : List Int) (xss : List (List zAU)) (wr : World) : Prop :=
 zBu.own wr (zIq t pa wr) [.slice (some ⟨pa, 0, none⟩) n n] xss ∧
 wr.heap[cb]? = some (.cells #[.slice (some ⟨pa, 0, none⟩) n n, v] 37 (0, 0)) ∧
 wr.heap[w.heap.size + 1]? = some (.cells #[.slice none 0 0, .slice none 0 0] 37 (0, 0)) ∧ wr.heap[w.heap.size]? = some box ∧
 zA5.own wr Tf [v] ts ∧ Below w.heap.size w wr ∧ t ≤ wr.heap.size
theorem zGI {w wr wr' : World} {t pa cb n : Nat} {Tf : zAX} {box : Obj} {v : Value} {ts : List Int} {xss : List (List zAU)} (h : zEX w t pa cb n Tf box v ts xss wr) (hb : Below wr.heap.size wr wr') : zEX w t pa cb n Tf box v ts xss wr' := by
 obtain ⟨h1, h2, h3, h4, h5, h6, h7⟩ := h
 have := hb.size
 exact ⟨zBu.own_mono (zBu.own_keep h1 (zAh hb)) fun k hk => ⟨hk.1, by have := hk.2; omega⟩, zAa hb h2, zAa hb h3, zAa hb h4, zA5.own_keep h5 (zAh hb), zAb h6 hb, by omega⟩
theorem zIr {w wr wr' : World} {t pa cb n : Nat} {Tf : zAX} {box : Obj} {v : Value} {ts : List Int} {xss yss : List (List zAU)} {S : zAX} (L : Lies w.heap.size t pa cb Tf) (h : zEX w t pa cb n Tf box v ts xss wr) (hc : Chg S wr wr') (hS : Sub S (zIq t pa wr))
    (ho : zBu.own wr' (zIq t pa wr') [.slice (some ⟨pa, 0, none⟩) n n] yss) : zEX w t pa cb n Tf box v ts yss wr' := by
 obtain ⟨h1, h2, h3, h4, h5, h6, h7⟩ := h
 obtain ⟨p1, p2, c1, c2, ne, ts', tp, tc⟩ := L
 have := hc.size
 have nS : ∀ x, x ≠ pa → x < t → ¬ S x := fun x hx hl hs => by
  rcases (hS x hs).1 with h | h
  ·exact hx h
  ·omega
 refine ⟨ho, (hc.block _ (by omega) (nS cb (Ne.symm ne) c2)).trans h2, (hc.block _ (by omega) (nS _ (by omega) (by omega))).trans h3, (hc.block _ (by omega) (nS _ (by omega) (by omega))).trans h4, zAO h5 hc (fun x hx hs => nS x (fun e => tp (e ▸ hx)) (ts' x hx).2 hs), hc.below h6 (fun x hs => ?_) (by omega), by omega⟩
 rcases (hS x hs).1 with h | h <;> omega
theorem copy_put {w wr wr' : World} {t pa cb n : Nat} {Tf : zAX} {box : Obj} {v : Value} {ts : List Int} {xss yss : List (List zAU)} (L : Lies w.heap.size t pa cb Tf) (h : zEX w t pa cb n Tf box v ts xss wr)
    (ho : zBu.own wr' (fun k => Old wr (zIq t pa wr) k ∨ (wr.heap.size ≤ k ∧ k < wr'.heap.size)) [.slice (some ⟨pa, 0, none⟩) n n] yss) (hc : Chg (Old wr (zIq t pa wr)) wr wr') : zEX w t pa cb n Tf box v ts yss wr' := by
 have hs := hc.size
 have ht := h.2.2.2.2.2.2
 exact zIr L h hc (fun k hk => hk.1) (zBu.own_mono ho fun k hk => by
  rcases hk with hk | hk
  ·exact ⟨hk.1.1, by have := hk.2; omega⟩
  ·exact ⟨.inr (by omega), hk.2⟩)
theorem copy_row {w wr : World} {t pa cb n k r : Nat} {Tf : zAX} {box : Obj} {v : Value} {ts : List Int} {xss : List (List zAU)} {old : List zAU} (L : Lies w.heap.size t pa cb Tf) (h : zEX w t pa cb n Tf box v ts xss wr) (hx : xss[k]? = some old) (hr : r ≤ maxLen) :
    (∃ u, wr.cell? ⟨pa, k, none⟩ = some u) ∧ wr.frozen? ⟨pa, k, none⟩ = false ∧ pa < wr.heap.size ∧
     zEX w t pa cb n Tf box v ts (xss.set k (List.replicate r zGd)) ((wr.alloc (.cells (madeCells #[.int .i64 0, .int .i64 0, .slice none 0 0] (r * 3)) 39)).setCell ⟨pa, k, none⟩ (.slice (some ⟨wr.heap.size, 0, none⟩) r r)) := by
 have h0 := h
 obtain ⟨h1, -, -, -, -, -, h7⟩ := h0
 obtain ⟨g, cap, cur, Sj, T, c, hv, hSg, hg, hc, hcl, ho, s1, s2, hd, n1, n2, back⟩ := zBH h1 hx
 simp only [Value.slice.injEq, Option.some.injEq, Addr.mk.injEq, and_true] at hv
 obtain ⟨rfl, hn, hcap⟩ := hv
 have e1 : zBl.size = 1 := rfl
 simp only [e1, Nat.mul_one] at hc back
 obtain ⟨u, rfl⟩ : ∃ u, c = [u] := List.length_eq_one_iff.1 hcl
 have hck : cur[k]? = some u := by simpa using hc 0 (by decide)
 have hpl := (Array.getElem?_eq_some_iff.1 hg).1
 have kl := (Array.getElem?_eq_some_iff.1 hck).1
 have hb := zAf wr (.cells (madeCells #[.int .i64 0, .int .i64 0, .slice none 0 0] (r * 3)) 39)
 have G1 := zAa hb hg
 have Z := zAy wr (.cells (madeCells #[.int .i64 0, .int .i64 0, .slice none 0 0] (r * 3)) 39)
 have hsz : ((wr.alloc (.cells (madeCells #[.int .i64 0, .int .i64 0, .slice none 0 0] (r * 3)) 39)).setCell ⟨pa, k, none⟩ (.slice (some ⟨wr.heap.size, 0, none⟩) r r)).heap.size = wr.heap.size + 1 := by simp
 have hchg : Chg (fun x => x = pa) wr ((wr.alloc (.cells (madeCells #[.int .i64 0, .int .i64 0, .slice none 0 0] (r * 3)) 39)).setCell ⟨pa, k, none⟩ (.slice (some ⟨wr.heap.size, 0, none⟩) r r)) := by
  have hb2 : Below pa (wr.alloc (.cells (madeCells #[.int .i64 0, .int .i64 0, .slice none 0 0] (r * 3)) 39)) _ := zAq (g := pa) (o := k) (v := .slice (some ⟨wr.heap.size, 0, none⟩) r r) (Below.refl pa _) (Nat.le_refl _)
  exact (zA9 (S := fun x => x = pa) hb).trans ⟨hb2.os, hb2.tape, hb2.output, hb2.size, fun x _ hn => heap_setCell_other _ ⟨pa, k, none⟩ x _ hn⟩
 refine ⟨⟨u, by rw [cell_of_row wr pa k _ _ (0, 0) hg]; exact hck⟩, frozen_of_row wr pa k _ _ hg, hpl, zIr L h hchg (fun x hx => by have e : x = pa := hx; rw [e]; exact hSg) ?_⟩
 refine back _ (cur.setIfInBounds k (.slice (some ⟨wr.heap.size, 0, none⟩) r r)) [.slice (some ⟨wr.heap.size, 0, none⟩) r r] _ (fun x => x = wr.heap.size) _ (heap_setCell_same _ pa k _ _ _ G1) (by simp) ?_ ?_ ?_ (zAl (zLh Z rfl hr) (fun e => by omega)) ?_ (fun e => by omega) ?_ ?_ ?_
 ·intro i hi
  rw [Array.getElem?_setIfInBounds_ne (by omega)]
 ·intro i hi
  have : i = 0 := by omega
  subst this
  simp [kl]
 ·intro x hx hl
  exact hchg.block x hl fun e => n2 (by have e' : x = pa := e; rw [← e']; exact hx)
 ·intro x hx hT
  have e : x = wr.heap.size := hx
  have := (s2 x hT).2
  omega
 ·exact ⟨.inl rfl, by rw [hsz]; omega⟩
 ·intro x hx
  have e : x = wr.heap.size := hx
  exact ⟨.inr (by omega), by rw [hsz]; omega⟩
 ·intro x hx
  have := s2 x hx
  exact ⟨this.1, by have := this.2; rw [hsz]; omega⟩
theorem zMU {w wr : World} {t pa cb n k r : Nat} {Tf : zAX} {box : Obj} {v : Value} {ts : List Int} {xss : List (List zAU)} {old : List zAU} (L : Lies w.heap.size t pa cb Tf) (h : zEX w t pa cb n Tf box v ts xss wr) (hx : xss[k]? = some old) (hr : r ≤ maxLen) :
    (∃ u, wr.cell? ⟨pa, k, none⟩ = some u) ∧ wr.frozen? ⟨pa, k, none⟩ = false ∧ pa < wr.heap.size ∧
     zEX w t pa cb n Tf box v ts (xss.set k (List.replicate r zGd)) ((wr.setCell ⟨pa, k, none⟩ (.slice (some ⟨wr.heap.size, 0, none⟩) r r)).alloc (.cells (madeCells #[.int .i64 0, .int .i64 0, .slice none 0 0] (r * 3)) 39)) := by
 have h0 := h
 obtain ⟨h1, -, -, -, -, -, h7⟩ := h0
 obtain ⟨g, cap, cur, Sj, T, c, hv, hSg, hg, hc, hcl, ho, s1, s2, hd, n1, n2, back⟩ := zBH h1 hx
 simp only [Value.slice.injEq, Option.some.injEq, Addr.mk.injEq, and_true] at hv
 obtain ⟨rfl, hn, hcap⟩ := hv
 have e1 : zBl.size = 1 := rfl
 simp only [e1, Nat.mul_one] at hc back
 obtain ⟨u, rfl⟩ : ∃ u, c = [u] := List.length_eq_one_iff.1 hcl
 have hck : cur[k]? = some u := by simpa using hc 0 (by decide)
 have hpl := (Array.getElem?_eq_some_iff.1 hg).1
 have kl := (Array.getElem?_eq_some_iff.1 hck).1
 have hs0 : (wr.setCell ⟨pa, k, none⟩ (.slice (some ⟨wr.heap.size, 0, none⟩) r r)).heap.size = wr.heap.size := by simp
 have G0 := heap_setCell_same wr pa k _ _ (.slice (some ⟨wr.heap.size, 0, none⟩) r r) hg
 have G1 := zAK (.cells (madeCells #[.int .i64 0, .int .i64 0, .slice none 0 0] (r * 3)) 39) G0
 have Z : ((wr.setCell ⟨pa, k, none⟩ (.slice (some ⟨wr.heap.size, 0, none⟩) r r)).alloc (.cells (madeCells #[.int .i64 0, .int .i64 0, .slice none 0 0] (r * 3)) 39)).heap[wr.heap.size]? = some (.cells (madeCells #[.int .i64 0, .int .i64 0, .slice none 0 0] (r * 3)) 39) := by
  have := zAy (wr.setCell ⟨pa, k, none⟩ (.slice (some ⟨wr.heap.size, 0, none⟩) r r)) (.cells (madeCells #[.int .i64 0, .int .i64 0, .slice none 0 0] (r * 3)) 39)
  rw [hs0] at this
  exact this
 have hsz : ((wr.setCell ⟨pa, k, none⟩ (.slice (some ⟨wr.heap.size, 0, none⟩) r r)).alloc (.cells (madeCells #[.int .i64 0, .int .i64 0, .slice none 0 0] (r * 3)) 39)).heap.size = wr.heap.size + 1 := by simp
 have hchg : Chg (fun x => x = pa) wr ((wr.setCell ⟨pa, k, none⟩ (.slice (some ⟨wr.heap.size, 0, none⟩) r r)).alloc (.cells (madeCells #[.int .i64 0, .int .i64 0, .slice none 0 0] (r * 3)) 39)) := by
  have hb2 : Below pa wr _ := zAq (g := pa) (o := k) (v := (.slice (some ⟨wr.heap.size, 0, none⟩) r r)) (Below.refl pa _) (Nat.le_refl _)
  exact (⟨hb2.os, hb2.tape, hb2.output, hb2.size, fun x _ hn => heap_setCell_other _ ⟨pa, k, none⟩ x _ hn⟩ : Chg (fun x => x = pa) wr (wr.setCell ⟨pa, k, none⟩ (.slice (some ⟨wr.heap.size, 0, none⟩) r r))).trans (zA9 (S := fun x => x = pa) (zAf _ (.cells (madeCells #[.int .i64 0, .int .i64 0, .slice none 0 0] (r * 3)) 39)))
 refine ⟨⟨u, by rw [cell_of_row wr pa k _ _ (0, 0) hg]; exact hck⟩, frozen_of_row wr pa k _ _ hg, hpl, zIr L h hchg (fun x hx => by have e : x = pa := hx; rw [e]; exact hSg) ?_⟩
 refine back _ (cur.setIfInBounds k (.slice (some ⟨wr.heap.size, 0, none⟩) r r)) [.slice (some ⟨wr.heap.size, 0, none⟩) r r] _ (fun x => x = wr.heap.size) _ G1 (by simp) ?_ ?_ ?_ (zLh Z rfl hr) ?_ (fun e => by omega) ?_ ?_ ?_
 ·intro i hi
  rw [Array.getElem?_setIfInBounds_ne (by omega)]
 ·intro i hi
  have : i = 0 := by omega
  subst this
  simp [kl]
 ·intro x hx hl
  exact hchg.block x hl fun e => n2 (by have e' : x = pa := e; rw [← e']; exact hx)
 ·intro x hx hT
  have e : x = wr.heap.size := hx
  have := (s2 x hT).2
  omega
 ·exact ⟨.inl rfl, by rw [hsz]; omega⟩
 ·intro x hx
  have e : x = wr.heap.size := hx
  exact ⟨.inr (by omega), by rw [hsz]; omega⟩
 ·intro x hx
  have := s2 x hx
  exact ⟨this.1, by have := this.2; rw [hsz]; omega⟩
set_option maxRecDepth 100000 in
set_option maxHeartbeats 1000000 in
theorem zJn (a : Option Addr) (d : List Int) (cap : Nat) (w : World) (h : zBh zBC w a d) (hm : d.length ≤ 1048576) :
    Calls Tryz.prog 72 #[.slice a d.length cap] w fun e w' => ∃ av cv, e = .returned (.slice av d.length cv) ∧ zAY zA5 w w' [.slice av d.length cv] d := by
 cases a with
 | some ad =>
  obtain ⟨i0, hi, hz0, hz1, hz2⟩ := info_parts Tryz.infoI
  have hown : (w.alloc (.cells #[] 2)).ownsRow w.heap.size 2 1 (.slice (some ⟨w.heap.size, 0, none⟩) 0 0) 0 [] := World.ownsRow_lit _ #[] 0 (Nat.le_refl _) (Nat.zero_le _) rfl
  have HS : Hid (zDF w (some ad) d ∧ ∀ x ∈ d, zBk x) := ⟨zCw h, zHS h⟩
  have he := fun W => Go.Lib.run_eql_slice_nil (P := Tryz.prog) W 23 2 (some ad) d.length cap 0 0 Tryz.underlying23
  clear h
  go_enter Tryz.func72, Tryz.ntmps72
  go_wp2_with (at_builtin; refine wpList_append_own _ rfl _ _ 23 rfl w.heap.size 2 i0 (.int .i64 0) 1 8 Tryz.underlying23 hi hz0 hz1 hz2 rfl (by decide) _ _ _ rfl hown ad d.length cap (d.map (Value.int .i64)) rfl (by simp) ?c1 ?c2 ?c3 ?c4 ?c5 ?_)
  case c1 =>
   intro j u hj
   obtain ⟨hjl, rfl⟩ := List.getElem?_eq_some_iff.1 hj
   simp at hjl
   rcases HS.out.1 with rfl | ⟨b, off, ha, hc⟩
   ·simp at hjl
   simp only [Option.some.injEq] at ha
   subst ha
   have g0 := hc j hjl
   have g1 := (World.cell?_of_block (w := w) (a := ⟨b, off + j, none⟩) (Below.heap_alloc w (.cells #[] 2) b (World.block_lt_of_cell? w _ g0))).trans g0
   rw [show (⟨b, off, none⟩ : Addr).add j = ⟨b, off + j, none⟩ from by simp [Addr.add], g1]
   simp [List.getD_eq_getElem?_getD, hjl]
  case c2 => intro u hu; simp at hu; obtain ⟨x, _, rfl⟩ := hu; rfl
  case c3 => unfold maxLen; omega
  case c4 => omega
  case c5 => simp
  ·intro v' w1 hown' hgrow hnil
   have hv : v' ≠ .slice none 0 0 := hnil
   have hown'' : w1.ownsRow w.heap.size 2 1 v' d.length (d.map (Value.int .i64)) := by simpa using hown'
   have HO := zD8 (zHR (w := w) hown'' hgrow hv) HS.out.2
   obtain ⟨av, cv, rfl⟩ := zBD HO.1
   have HH : Hid _ := HO
   clear HO hown' hgrow hnil hown hown'' hv
   go_wp2
   go_ret
   exact ⟨_, _, rfl, HH.out⟩
 | none =>
  obtain rfl : d = [] := by
   rcases h with h | ⟨b, off, rows, ha, _⟩
   ·exact h
   ·cases ha
  rw [show ([] : List Int).length = 0 from rfl]
  have he := fun W => Go.Lib.run_eql_slice_nil (P := Tryz.prog) W 23 2 none 0 cap 0 0 Tryz.underlying23
  go_enter Tryz.func72, Tryz.ntmps72
  go_wp2
  go_ret
  exact ⟨none, 0, rfl, zDR w _, Below.refl _ w⟩
theorem nils_at {W : World} {S : zAX} {g n : Nat} (hh : W.heap[g]? = some (.cells (madeCells #[.slice none 0 0] n) 115 (0, 0))) (hS : S g) (hm : n ≤ maxLen) : zBu.own W S [.slice (some ⟨g, 0, none⟩) n n] (List.replicate n ([] : List zAU)) := by
 have e1 : n * zBl.size = n := Nat.mul_one n
 refine ⟨_, List.replicate n (.slice none 0 0), fun _ => False, rfl, ⟨by simp [e1], .inr ⟨g, n, _, by simp, Nat.zero_le _, hh, by simp, hm, by rw [size_madeCells, e1], ?_⟩⟩, fun x hx => ?_, fun _ h => h.elim, zJk n⟩
 ·rw [made_one]; simp [e1]
 ·simp [Value.ownBlock] at hx
  subst hx
  exact ⟨hS, fun h => h⟩
end Go.Proofs.YtoihjejenjcokaaGreatDoor
