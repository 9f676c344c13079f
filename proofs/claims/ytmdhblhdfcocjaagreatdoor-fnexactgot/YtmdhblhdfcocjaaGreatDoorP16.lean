import Derived.Test.YtmdhblhdfcocjaaGreatDoorP00Box
import Derived.Test.YtmdhblhdfcocjaaGreatDoorP15
import Derived.Lib.SliceRun
import Derived.Deep.RegionLaw
namespace Go.Proofs.YtmdhblhdfcocjaaGreatDoor
open Go.ChangeShapes Go.WideShapes Go.ChangeAt Go.RowKit
set_option linter.unusedVariables false
def zGd : zAT := (0, 0, [])
def zCI (m k : Nat) (cs : List (List zAT)) : List (List zAT) := cs.mapIdx fun i row => row.mapIdx fun j u => if i * m + j < k then u else zGd
theorem zDB (m k : Nat) (cs : List (List zAT)) : (zCI m k cs).length = cs.length := by simp [zCI]
theorem zE9 {m k s : Nat} {cs : List (List zAT)} {row : List zAT} (h : cs[s]? = some row) : (zCI m k cs)[s]? = some (row.mapIdx fun j u => if s * m + j < k then u else zGd) := by
 unfold zCI;rw [List.getElem?_mapIdx, h];rfl
theorem zGH (m : Nat) (cs : List (List zAT)) : zCI m 0 cs = cs.map fun row => List.replicate row.length zGd := by
 unfold zCI;apply List.ext_getElem?
 intro i;rw [List.getElem?_mapIdx, List.getElem?_map];cases h : cs[i]? with
 | none => rfl
 | some row =>
  simp only [Option.map_some, Option.some.injEq];apply List.ext_getElem?
  intro j;rw [List.getElem?_mapIdx, List.getElem?_replicate];by_cases a : j < row.length
  ·simp [a]
  ·simp [a]
theorem zLO {m : Nat} {cs : List (List zAT)} (hm : ∀ row ∈ cs, row.length = m) : zCI m (cs.length * m) cs = cs := by
 unfold zCI;apply List.ext_getElem?
 intro i;rw [List.getElem?_mapIdx];cases h : cs[i]? with
 | none => rfl
 | some row =>
  have a := (List.getElem?_eq_some_iff.1 h).1;have b := hm row (List.mem_of_getElem? h);simp only [Option.map_some, Option.some.injEq];apply List.ext_getElem?
  intro j;rw [List.getElem?_mapIdx];cases c : row[j]? with
  | none => rfl
  | some u =>
   have d := (List.getElem?_eq_some_iff.1 c).1;have h1 : i * m + m ≤ cs.length * m := by
    have := Nat.mul_le_mul_right m (show i + 1 ≤ cs.length from a);rw [Nat.add_mul, Nat.one_mul] at this;exact this
   simp [show i * m + j < cs.length * m from by omega]
theorem zKs {m s j : Nat} {cs : List (List zAT)} {row : List zAT} {u : zAT} (hm : ∀ row ∈ cs, row.length = m) (hs : cs[s]? = some row) (hu : row[j]? = some u) :
    (zCI m (s * m + j) cs).set s ((row.mapIdx fun b u' => if s * m + b < s * m + j then u' else zGd).set j u) = zCI m (s * m + j + 1) cs := by
 have g := (List.getElem?_eq_some_iff.1 hu).1;have l := (List.getElem?_eq_some_iff.1 hs).1;have q := hm row (List.mem_of_getElem? hs);apply List.ext_getElem?
 intro i;by_cases a : s = i
 ·subst a;rw [List.getElem?_set_self (by rw [zDB]; exact l), zE9 hs];congr 1
  apply List.ext_getElem?
  intro b;by_cases n : j = b
  ·subst n;rw [List.getElem?_set_self (by simpa using g), List.getElem?_mapIdx, hu];simp
  ·rw [List.getElem?_set_ne n, List.getElem?_mapIdx, List.getElem?_mapIdx];cases row[b]? with
   | none => rfl
   | some u' =>
    simp only [Option.map_some, Option.some.injEq];by_cases c : s * m + b < s * m + j
    ·rw [if_pos c, if_pos (by omega)]
    ·rw [if_neg c, if_neg (by omega)]
 ·rw [List.getElem?_set_ne a];cases h : cs[i]? with
  | none =>
   have := List.getElem?_eq_none_iff.1 h;rw [List.getElem?_eq_none_iff.2 (by rw [zDB]; exact this), List.getElem?_eq_none_iff.2 (by rw [zDB]; exact this)]
  | some row' =>
   rw [zE9 h, zE9 h];congr 1
   apply List.ext_getElem?
   intro b;rw [List.getElem?_mapIdx, List.getElem?_mapIdx];cases d : row'[b]? with
   | none => rfl
   | some u' =>
    have p := (List.getElem?_eq_some_iff.1 d).1;have o := hm row' (List.mem_of_getElem? h);simp only [Option.map_some, Option.some.injEq];rcases Nat.lt_or_gt_of_ne a with k | f
    ·have c : s * m + m ≤ i * m := by
       have := Nat.mul_le_mul_right m (show s + 1 ≤ i from k);rw [Nat.add_mul, Nat.one_mul] at this;exact this
     rw [if_neg (by omega), if_neg (by omega)]
    ·have c : i * m + m ≤ s * m := by
       have := Nat.mul_le_mul_right m (show i + 1 ≤ s from f);rw [Nat.add_mul, Nat.one_mul] at this;exact this
     rw [if_pos (by omega), if_pos (by omega)]
theorem zJm (x y z : Value) : ∀ (n i : Nat), (List.replicate n [x, y, z]).flatten[i]? = if i < n * 3 then [x, y, z][i % 3]? else none
 | 0, i => by simp
 | n + 1, i => by
  rw [List.replicate_succ, List.flatten_cons, List.getElem?_append];by_cases h : i < 3
  ·rw [if_pos (by simpa using h), if_pos (by omega), Nat.mod_eq_of_lt h]
  ·rw [if_neg (by simpa using h), zJm x y z n];have e : (i - [x, y, z].length) % 3 = i % 3 := by
    show (i - 3) % 3 = i % 3
    omega
   rw [e];by_cases a : i < (n + 1) * 3
   ·rw [if_pos a, if_pos (by show i - 3 < n * 3; omega)]
   ·rw [if_neg a, if_neg (by show ¬ (i - 3 < n * 3); omega)]
theorem zLP (n : Nat) (x y z : Value) : (madeCells #[x, y, z] (n * 3)).toList = (List.replicate n [x, y, z]).flatten := by
 apply List.ext_getElem?
 intro i;rw [zJm];unfold madeCells;by_cases h : i < n * 3
 ·have h3 : i % 3 < 3 := Nat.mod_lt _ (by decide);rcases (by omega : i % 3 = 0 ∨ i % 3 = 1 ∨ i % 3 = 2) with e | e | e <;> simp [h, e]
 ·simp [h]
theorem zHF {w : World} {S : zAW} : ∀ n, zHi zAR w S (List.replicate n [nI 0, nI 0, sL none 0 0]).flatten (List.replicate n zGd)
 | 0 => rfl
 | n + 1 => ⟨[.int .i64 0, .int .i64 0, .slice none 0 0], (List.replicate n [.int .i64 0, .int .i64 0, .slice none 0 0]).flatten, fun _ => False, S, by rw [List.replicate_succ, List.flatten_cons], zCF (by constructor <;> decide) (by constructor <;> decide) (zDR _ _), zHF n, fun _ h => h.elim, Sub.refl _, fun _ h _ => h⟩
theorem zLh {W : World} {S : zAW} {g n : Nat} (hh : W.heap[g]? = some (.cells (madeCells #[nI 0, nI 0, sL none 0 0] (n * 3)) 39 (0, 0))) (hS : S g) (hm : n ≤ maxLen) : zBl.own W S [sL (some ⟨g, 0, none⟩) n n] (List.replicate n zGd) := by
 have a : n * zAR.size = n * 3 := rfl;have b : (List.replicate n [Value.int .i64 0, nI 0, sL none 0 0]).flatten.length = n * 3 := by simp
 refine ⟨_, (List.replicate n [nI 0, nI 0, sL none 0 0]).flatten, fun _ => False, rfl, ⟨by rw [b, List.length_replicate, a], .inr ⟨g, n, _, by simp, Nat.zero_le _, hh, by simp, hm, by rw [size_madeCells, a], ?_⟩⟩, fun x hx => ?_, fun _ h => h.elim, zHF n⟩
 ·rw [zLP, List.length_replicate, a, List.take_of_length_le (by rw [b]; exact Nat.le_refl _)]
 ·simp [Value.ownBlock] at hx
  subst hx;exact ⟨hS, fun h => h⟩
structure Lies (s t pa cb : Nat) (Tf : zAW) : Prop where
 p1 : s + 2 ≤ pa
 p2 : pa < t
 c1 : s + 2 ≤ cb
 c2 : cb < t
 ne : pa ≠ cb
 ts : Sub Tf (rng (s + 2) t)
 tp : ¬ Tf pa
 tc : ¬ Tf cb
def zIr (t pa : Nat) (w : World) : zAW := fun k => (k = pa ∨ t ≤ k) ∧ k < w.heap.size
def zEX (w : World) (t pa cb n : Nat) (Tf : zAW) (box : Obj) (v : Value) (ts : List Int) (xss : List (List zAT)) (wr : World) : Prop :=
 zBu.own wr (zIr t pa wr) [.slice (some ⟨pa, 0, none⟩) n n] xss ∧
 wr.heap[cb]? = some (.cells #[.slice (some ⟨pa, 0, none⟩) n n, v] 37 (0, 0)) ∧
 wr.heap[w.heap.size + 1]? = some (.cells #[.slice none 0 0, .slice none 0 0] 37 (0, 0)) ∧ wr.heap[w.heap.size]? = some box ∧
 zA5.own wr Tf [v] ts ∧ Below w.heap.size w wr ∧ t ≤ wr.heap.size
theorem zGI {w wr wr' : World} {t pa cb n : Nat} {Tf : zAW} {box : Obj} {v : Value} {ts : List Int} {xss : List (List zAT)} (h : zEX w t pa cb n Tf box v ts xss wr) (hb : Bl wr wr') : zEX w t pa cb n Tf box v ts xss wr' := by
 obtain ⟨f, g, c, b, i, d, h7⟩ := h;have := hb.size;exact ⟨zBu.own_mono (zBu.own_keep f (zAh hb)) fun k hk => ⟨hk.1, by have := hk.2; omega⟩, zAa hb g, zAa hb c, zAa hb b, zA5.own_keep i (zAh hb), zAb d hb, by omega⟩
theorem zIs {w wr wr' : World} {t pa cb n : Nat} {Tf : zAW} {box : Obj} {v : Value} {ts : List Int} {xss yss : List (List zAT)} {S : zAW} (L : Lies w.heap.size t pa cb Tf) (h : zEX w t pa cb n Tf box v ts xss wr) (hc : Chg S wr wr') (hS : Sub S (zIr t pa wr))
    (ho : zBu.own wr' (zIr t pa wr') [sL (some ⟨pa, 0, none⟩) n n] yss) : zEX w t pa cb n Tf box v ts yss wr' := by
 obtain ⟨h1, k, f, c, l, i, h7⟩ := h;obtain ⟨p1, p2, c1, j, g, b, d, tc⟩ := L;have := hc.size;have a : ∀ x, x ≠ pa → x < t → ¬ S x := fun x hx hl hs => by
  rcases (hS x hs).1 with h | h
  ·exact hx h
  ·omega
 refine ⟨ho, (hc.block _ (by omega) (a cb (Ne.symm g) j)).trans k, (hc.block _ (by omega) (a _ (by omega) (by omega))).trans f, (hc.block _ (by omega) (a _ (by omega) (by omega))).trans c, zAN l hc (fun x hx hs => a x (fun e => d (e ▸ hx)) (b x hx).2 hs), hc.below i (fun x hs => ?_) (by omega), by omega⟩;rcases (hS x hs).1 with h | h <;> omega
theorem copy_put {w wr wr' : World} {t pa cb n : Nat} {Tf : zAW} {box : Obj} {v : Value} {ts : List Int} {xss yss : List (List zAT)} (L : Lies w.heap.size t pa cb Tf) (h : zEX w t pa cb n Tf box v ts xss wr)
    (ho : zBu.own wr' (fun k => Old wr (zIr t pa wr) k ∨ (wr.heap.size ≤ k ∧ k < wr'.heap.size)) [sL (some ⟨pa, 0, none⟩) n n] yss) (hc : Chg (Old wr (zIr t pa wr)) wr wr') : zEX w t pa cb n Tf box v ts yss wr' := by
 have hs := hc.size;have ht := h.2.2.2.2.2.2
 exact zIs L h hc (fun k a => a.1) (zBu.own_mono ho fun k a => by
  rcases a with a | a
  ·exact ⟨a.1.1, by have := a.2; omega⟩
  ·exact ⟨.inr (by omega), a.2⟩)
theorem copy_row {w wr : World} {t pa cb n k r : Nat} {Tf : zAW} {box : Obj} {v : Value} {ts : List Int} {xss : List (List zAT)} {old : List zAT} (L : Lies w.heap.size t pa cb Tf) (h : zEX w t pa cb n Tf box v ts xss wr) (a : xss[k]? = some old) (hr : r ≤ maxLen) :
    (∃ u, wr.cell? ⟨pa, k, none⟩ = some u) ∧ wr.frozen? ⟨pa, k, none⟩ = false ∧ pa < wr.heap.size ∧
     zEX w t pa cb n Tf box v ts (xss.set k (List.replicate r zGd)) ((wr.alloc (.cells (madeCells #[nI 0, nI 0, sL none 0 0] (r * 3)) 39)).setCell ⟨pa, k, none⟩ (sL (some ⟨wr.heap.size, 0, none⟩) r r)) := by
 have I := h;obtain ⟨K, -, -, -, -, -, h7⟩ := I;obtain ⟨g, J, m, Sj, T, c, B, q, p, E, s, ho, s1, z, hd, n1, O, f⟩ := zBH K a;simp only [Value.slice.injEq, Option.some.injEq, Addr.mk.injEq, and_true] at B;obtain ⟨rfl, C, A⟩ := B;have N : zBl.size = 1 := rfl;simp only [N, Nat.mul_one] at E f;obtain ⟨u, rfl⟩ : ∃ u, c = [u] := List.length_eq_one_iff.1 s;have l : m[k]? = some u := by simpa using E 0 (by decide)
 have y := (ltH p);have U := (ltH l);have D := zAf wr (.cells (madeCells #[nI 0, nI 0, sL none 0 0] (r * 3)) 39);have G := zAa D p;have Z := zAx wr (.cells (madeCells #[nI 0, nI 0, sL none 0 0] (r * 3)) 39);have j : ((wr.alloc (.cells (madeCells #[nI 0, nI 0, sL none 0 0] (r * 3)) 39)).setCell ⟨pa, k, none⟩ (sL (some ⟨wr.heap.size, 0, none⟩) r r)).heap.size = wr.heap.size + 1 := by simp
 have d : Chg (fun x => x = pa) wr ((wr.alloc (.cells (madeCells #[nI 0, nI 0, sL none 0 0] (r * 3)) 39)).setCell ⟨pa, k, none⟩ (sL (some ⟨wr.heap.size, 0, none⟩) r r)) := by
  have b : Below pa (wr.alloc (.cells (madeCells #[nI 0, nI 0, sL none 0 0] (r * 3)) 39)) _ := zAq (g := pa) (o := k) (v := sL (some ⟨wr.heap.size, 0, none⟩) r r) (Below.refl pa _) (Nat.le_refl _);exact (zA9 (S := fun x => x = pa) D).trans ⟨b.os, b.tape, b.output, b.size, fun x _ C => heap_setCell_other _ ⟨pa, k, none⟩ x _ C⟩
 refine ⟨⟨u, by rw [cell_of_row wr pa k _ _ (0, 0) p]; exact l⟩, frozen_of_row wr pa k _ _ p, y, zIs L h d (fun x a => by have e : x = pa := a; rw [e]; exact q) ?_⟩;refine f _ (m.setIfInBounds k (sL (some ⟨wr.heap.size, 0, none⟩) r r)) [sL (some ⟨wr.heap.size, 0, none⟩) r r] _ (fun x => x = wr.heap.size) _ (heap_setCell_same _ pa k _ _ _ G) (by simp) ?_ ?_ ?_ (zAl (zLh Z rfl hr) (fun e => by omega)) ?_ (fun e => by omega) ?_ ?_ ?_
 ·intro i R;rw [Array.getElem?_setIfInBounds_ne (by omega)]
 ·intro i R;have : i = 0 := by omega
  subst this;simp [U]
 ·intro x a H;exact d.block x H fun e => O (by have F : x = pa := e; rw [← F]; exact a)
 ·intro x a M;have e : x = wr.heap.size := a;have := (z x M).2;omega
 ·exact ⟨.inl rfl, by rw [j]; omega⟩
 ·intro x a;have e : x = wr.heap.size := a;exact ⟨.inr (by omega), by rw [j]; omega⟩
 ·intro x a;have := z x a;exact ⟨this.1, by have := this.2; rw [j]; omega⟩
theorem zMU {w wr : World} {t pa cb n k r : Nat} {Tf : zAW} {box : Obj} {v : Value} {ts : List Int} {xss : List (List zAT)} {old : List zAT} (L : Lies w.heap.size t pa cb Tf) (h : zEX w t pa cb n Tf box v ts xss wr) (a : xss[k]? = some old) (hr : r ≤ maxLen) :
    (∃ u, wr.cell? ⟨pa, k, none⟩ = some u) ∧ wr.frozen? ⟨pa, k, none⟩ = false ∧ pa < wr.heap.size ∧
     zEX w t pa cb n Tf box v ts (xss.set k (List.replicate r zGd)) ((wr.setCell ⟨pa, k, none⟩ (sL (some ⟨wr.heap.size, 0, none⟩) r r)).alloc (.cells (madeCells #[nI 0, nI 0, sL none 0 0] (r * 3)) 39)) := by
 have I := h;obtain ⟨M, -, -, -, -, -, h7⟩ := I;obtain ⟨g, J, m, Sj, T, c, C, q, p, E, y, ho, s1, A, hd, n1, R, f⟩ := zBH M a;simp only [Value.slice.injEq, Option.some.injEq, Addr.mk.injEq, and_true] at C;obtain ⟨rfl, D, B⟩ := C;have O : zBl.size = 1 := rfl;simp only [O, Nat.mul_one] at E f;obtain ⟨u, rfl⟩ : ∃ u, c = [u] := List.length_eq_one_iff.1 y;have l : m[k]? = some u := by simpa using E 0 (by decide)
 have z := (ltH p);have V := (ltH l);have s : (wr.setCell ⟨pa, k, none⟩ (sL (some ⟨wr.heap.size, 0, none⟩) r r)).heap.size = wr.heap.size := by simp
 have K := heap_setCell_same wr pa k _ _ (sL (some ⟨wr.heap.size, 0, none⟩) r r) p;have G := zAK (.cells (madeCells #[nI 0, nI 0, sL none 0 0] (r * 3)) 39) K;have Z : ((wr.setCell ⟨pa, k, none⟩ (sL (some ⟨wr.heap.size, 0, none⟩) r r)).alloc (.cells (madeCells #[nI 0, nI 0, sL none 0 0] (r * 3)) 39)).heap[wr.heap.size]? = some (.cells (madeCells #[nI 0, nI 0, sL none 0 0] (r * 3)) 39) := by
  have := zAx (wr.setCell ⟨pa, k, none⟩ (sL (some ⟨wr.heap.size, 0, none⟩) r r)) (.cells (madeCells #[nI 0, nI 0, sL none 0 0] (r * 3)) 39);rw [s] at this;exact this
 have j : ((wr.setCell ⟨pa, k, none⟩ (sL (some ⟨wr.heap.size, 0, none⟩) r r)).alloc (.cells (madeCells #[nI 0, nI 0, sL none 0 0] (r * 3)) 39)).heap.size = wr.heap.size + 1 := by simp
 have d : Chg (fun x => x = pa) wr ((wr.setCell ⟨pa, k, none⟩ (sL (some ⟨wr.heap.size, 0, none⟩) r r)).alloc (.cells (madeCells #[nI 0, nI 0, sL none 0 0] (r * 3)) 39)) := by
  have b : Below pa wr _ := zAq (g := pa) (o := k) (v := (sL (some ⟨wr.heap.size, 0, none⟩) r r)) (Below.refl pa _) (Nat.le_refl _);exact (⟨b.os, b.tape, b.output, b.size, fun x _ D => heap_setCell_other _ ⟨pa, k, none⟩ x _ D⟩ : Chg (fun x => x = pa) wr (wr.setCell ⟨pa, k, none⟩ (sL (some ⟨wr.heap.size, 0, none⟩) r r))).trans (zA9 (S := fun x => x = pa) (zAf _ (.cells (madeCells #[nI 0, nI 0, sL none 0 0] (r * 3)) 39)))
 refine ⟨⟨u, by rw [cell_of_row wr pa k _ _ (0, 0) p]; exact l⟩, frozen_of_row wr pa k _ _ p, z, zIs L h d (fun x a => by have e : x = pa := a; rw [e]; exact q) ?_⟩;refine f _ (m.setIfInBounds k (sL (some ⟨wr.heap.size, 0, none⟩) r r)) [sL (some ⟨wr.heap.size, 0, none⟩) r r] _ (fun x => x = wr.heap.size) _ G (by simp) ?_ ?_ ?_ (zLh Z rfl hr) ?_ (fun e => by omega) ?_ ?_ ?_
 ·intro i U;rw [Array.getElem?_setIfInBounds_ne (by omega)]
 ·intro i U;have : i = 0 := by omega
  subst this;simp [V]
 ·intro x a H;exact d.block x H fun e => R (by have F : x = pa := e; rw [← F]; exact a)
 ·intro x a N;have e : x = wr.heap.size := a;have := (A x N).2;omega
 ·exact ⟨.inl rfl, by rw [j]; omega⟩
 ·intro x a;have e : x = wr.heap.size := a;exact ⟨.inr (by omega), by rw [j]; omega⟩
 ·intro x a;have := A x a;exact ⟨this.1, by have := this.2; rw [j]; omega⟩
set_option maxRecDepth 100000 in
set_option maxHeartbeats 1000000 in
theorem zJn (a : Option Addr) (d : List Int) (cap : Nat) (w : World) (h : zBg zBC w a d) (hm : d.length ≤ 1048576) :
    Calls Tryz.prog 72 #[sL a d.length cap] w fun e w' => ∃ r o, e = .returned (sL r d.length o) ∧ zAX zA5 w w' [sL r d.length o] d := by
 cases a with
 | some ad =>
  obtain ⟨F, K, q, v, s⟩ := info_parts Tryz.infoI;have l : (w.alloc (.cells #[] 2)).ownsRow w.heap.size 2 1 (sL (some ⟨w.heap.size, 0, none⟩) 0 0) 0 [] := World.ownsRow_lit _ #[] 0 (Nat.le_refl _) (Nat.zero_le _) rfl;have A : Hid (zDF w (some ad) d ∧ ∀ x ∈ d, zBk x) := ⟨zCw h, zHT h⟩;have H := fun W => Go.Lib.run_eql_slice_nil (P := Tryz.prog) W 23 2 (some ad) d.length cap 0 0 Tryz.underlying23;clear h;go_enter Tryz.func72, Tryz.ntmps72;go_wp2_with (at_builtin; refine wpList_append_own _ rfl _ _ 23 rfl w.heap.size 2 F (nI 0) 1 8 Tryz.underlying23 K q v s rfl (by decide) _ _ _ rfl l ad d.length cap (d.map (Value.int .i64)) rfl (by simp) ?c1 ?c2 ?c3 ?c4 ?c5 ?_)
  case c1 =>
   intro j u J;obtain ⟨i, rfl⟩ := List.getElem?_eq_some_iff.1 J;simp at i
   rcases A.out.1 with rfl | ⟨b, k, n, L⟩
   ·simp at i
   simp only [Option.some.injEq] at n;subst n;have y := L j i;have I := (World.cell?_of_block (w := w) (a := ⟨b, k + j, none⟩) (Below.heap_alloc w (.cells #[] 2) b (World.block_lt_of_cell? w _ y))).trans y;rw [show (⟨b, k, none⟩ : Addr).add j = ⟨b, k + j, none⟩ from by simp [Addr.add], I];simp [List.getD_eq_getElem?_getD, i]
  case c2 => intro u D; simp at D; obtain ⟨x, _, rfl⟩ := D; rfl
  case c3 => unfold maxLen; omega
  case c4 => omega
  case c5 => simp
  ·intro C G f g m;have B : C ≠ sL none 0 0 := m;have c : G.ownsRow w.heap.size 2 1 C d.length (d.map (Value.int .i64)) := by simpa using f
   have p := zD8 (zHS (w := w) c g B) A.out.2;obtain ⟨r, o, rfl⟩ := zBD p.1;have E : Hid _ := p;clear p f g m l c B;go_wp2;go_ret
   exact ⟨_, _, rfl, E.out⟩
 | none =>
  obtain rfl : d = [] := by
   rcases h with h | ⟨b, k, z, n, _⟩
   ·exact h
   ·cases n
  rw [show ([] : List Int).length = 0 from rfl];have H := fun W => Go.Lib.run_eql_slice_nil (P := Tryz.prog) W 23 2 none 0 cap 0 0 Tryz.underlying23;go_enter Tryz.func72, Tryz.ntmps72;go_wp2;go_ret
  exact ⟨none, 0, rfl, zDR w _, Below.refl _ w⟩
theorem nils_at {W : World} {S : zAW} {g n : Nat} (hh : W.heap[g]? = some (.cells (madeCells #[sL none 0 0] n) 115 (0, 0))) (hS : S g) (hm : n ≤ maxLen) : zBu.own W S [sL (some ⟨g, 0, none⟩) n n] (List.replicate n ([] : List zAT)) := by
 have b : n * zBl.size = n := Nat.mul_one n;refine ⟨_, List.replicate n (sL none 0 0), fun _ => False, rfl, ⟨by simp [b], .inr ⟨g, n, _, by simp, Nat.zero_le _, hh, by simp, hm, by rw [size_madeCells, b], ?_⟩⟩, fun x hx => ?_, fun _ h => h.elim, zJk n⟩
 ·rw [made_one]; simp [b]
 ·simp [Value.ownBlock] at hx
  subst hx;exact ⟨hS, fun h => h⟩
end Go.Proofs.YtmdhblhdfcocjaaGreatDoor
