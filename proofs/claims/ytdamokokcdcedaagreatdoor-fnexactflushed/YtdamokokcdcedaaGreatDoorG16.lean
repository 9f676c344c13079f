import Derived.Test.YtdamokokcdcedaaGreatDoorG00Box
import Derived.Test.YtdamokokcdcedaaGreatDoorG15
namespace Go.Proofs.YtdamokokcdcedaaGreatDoor
set_option maxHeartbeats 4000000
open Go.ChangeShapes Go.WideShapes Go.ChangeAt Go.RowKit
set_option linter.unusedVariables false
abbrev FevD := Int × Int × Int × Int × Int × Int × Int × List Int × Int
abbrev fevR : Rep FevD := prodR intR (prodR intR (prodR intR (prodR intR (prodR intR (prodR intR (prodR intR (prodR intsR intR)))))))
abbrev fevM : Mk FevD := prodM intM (prodM intM (prodM intM (prodM intM (prodM intM (prodM intM (prodM intM (prodM intsM intM)))))))
abbrev fevsR : Rep (List FevD) := slR 135 fevR
theorem fev_own {w : World} {S : Foot} {cs : List Value} {u : FevD} (h : fevR.own w S cs u) :
    ∃ v, cs = [nI u.1, nI u.2.1, nI u.2.2.1, nI u.2.2.2.1, nI u.2.2.2.2.1, nI u.2.2.2.2.2.1, nI u.2.2.2.2.2.2.1, v, nI u.2.2.2.2.2.2.2.2] ∧ In64 u.1 ∧ In64 u.2.1 ∧ In64 u.2.2.1 ∧ In64 u.2.2.2.1 ∧ In64 u.2.2.2.2.1 ∧ In64 u.2.2.2.2.2.1 ∧ In64 u.2.2.2.2.2.2.1 ∧ In64 u.2.2.2.2.2.2.2.2 ∧ intsR.own w S [v] u.2.2.2.2.2.2.2.1 := by
 obtain ⟨c0, e0, S0, T0, rfl, ⟨rfl, f⟩, ⟨c1, e1, S1, T1, rfl, ⟨rfl, y⟩, ⟨c2, e2, S2, T2, rfl, ⟨rfl, p⟩, ⟨c3, e3, S3, T3, rfl, ⟨rfl, k⟩, ⟨c4, e4, S4, T4, rfl, ⟨rfl, r⟩, ⟨c5, e5, S5, T5, rfl, ⟨rfl, q⟩, ⟨c6, e6, S6, T6, rfl, ⟨rfl, n⟩, ⟨i, e7, S7, T7, rfl, a, ⟨rfl, s⟩, l, q7, d7⟩, p6, g, d6⟩, p5, j, d5⟩, p4, d, d4⟩, p3, m, d3⟩, p2, b, d2⟩, p1, o, d1⟩, p0, z, d0⟩ := h;have c := intsR.rd_len (intsR.own_rd a);obtain ⟨v, rfl⟩ : ∃ v, i = [v] := List.length_eq_one_iff.1 c;exact ⟨v, rfl, f, y, p, k, r, q, n, s, intsR.own_mono a ((((((((l).trans g).trans j).trans d).trans m).trans b).trans o).trans z)⟩
theorem own_fev {w : World} {S : Foot} {f0 f1 f2 f3 f4 f5 f6 f8 : Int} {d : List Int} {v : Value} (i0 : In64 f0) (i1 : In64 f1) (i2 : In64 f2) (i3 : In64 f3) (i4 : In64 f4) (i5 : In64 f5) (i6 : In64 f6) (i8 : In64 f8) (h : intsR.own w S [v] d) : fevR.own w S [nI f0, nI f1, nI f2, nI f3, nI f4, nI f5, nI f6, v, nI f8] (f0, f1, f2, f3, f4, f5, f6, d, f8) :=
 ⟨[_], [_, _, _, _, _, _, _, _], fun _ => False, S, rfl, ⟨rfl, i0⟩, ⟨[_], [_, _, _, _, _, _, _], fun _ => False, S, rfl, ⟨rfl, i1⟩, ⟨[_], [_, _, _, _, _, _], fun _ => False, S, rfl, ⟨rfl, i2⟩, ⟨[_], [_, _, _, _, _], fun _ => False, S, rfl, ⟨rfl, i3⟩, ⟨[_], [_, _, _, _], fun _ => False, S, rfl, ⟨rfl, i4⟩, ⟨[_], [_, _, _], fun _ => False, S, rfl, ⟨rfl, i5⟩, ⟨[_], [_, _], fun _ => False, S, rfl, ⟨rfl, i6⟩, ⟨[_], [_], S, fun _ => False, rfl, h, ⟨rfl, i8⟩, Sub.refl _, fun _ h => h.elim, fun _ _ h => h⟩, fun _ h => h.elim, Sub.refl _, fun _ h _ => h⟩, fun _ h => h.elim, Sub.refl _, fun _ h _ => h⟩, fun _ h => h.elim, Sub.refl _, fun _ h _ => h⟩, fun _ h => h.elim, Sub.refl _, fun _ h _ => h⟩, fun _ h => h.elim, Sub.refl _, fun _ h _ => h⟩, fun _ h => h.elim, Sub.refl _, fun _ h _ => h⟩, fun _ h => h.elim, Sub.refl _, fun _ h _ => h⟩
def flatE (u : EventD) : FevD := (u.1, u.2.1.1, u.2.1.2.1, u.2.1.2.2.1, u.2.1.2.2.2, u.2.2.1, u.2.2.2.1, u.2.2.2.2.1, u.2.2.2.2.2)
theorem ev_own {w : World} {S : Foot} {cs : List Value} {u : EventD} : eventR.own w S cs u ↔ fevR.own w S cs (flatE u) := by
 constructor
 ·intro h;obtain ⟨v1, v2, v3, v4, v7, S1, S4, rfl, b, d, c, f, n, i, s1, m, -⟩ := event_own h;obtain ⟨l, g, a, j, k⟩ := op_rd (opR.own_rd n);simp only [List.cons.injEq, and_true] at l;obtain ⟨rfl, rfl, rfl, rfl⟩ := l;exact own_fev b g a j k d c f (intsR.own_mono i m)
 ·intro h;obtain ⟨v, rfl, b, g, a, j, k, d, c, f, i⟩ := fev_own h;exact own_event b d c f (own_op (S := fun _ => False) (u := u.2.1) ⟨g, a, j, k⟩) i (fun _ h => h.elim) (Sub.refl _) (fun _ h _ => h)
theorem lown_map {α β : Type} {R : Rep α} {Q : Rep β} {f : α → β} (h : ∀ {w : World} {S : Foot} {cs : List Value} {x : α}, R.own w S cs x ↔ Q.own w S cs (f x)) {w : World} : ∀ {S : Foot} {cs : List Value} {xs : List α}, lown R w S cs xs ↔ lown Q w S cs (xs.map f)
 | _, _, [] => Iff.rfl
 | S, cs, x :: xs => ⟨fun ⟨c1, c2, S1, S2, e, h1, h2, r⟩ => ⟨c1, c2, S1, S2, e, h.1 h1, (lown_map h).1 h2, r⟩, fun ⟨c1, c2, S1, S2, e, h1, h2, r⟩ => ⟨c1, c2, S1, S2, e, h.2 h1, (lown_map h).2 h2, r⟩⟩
theorem slown_map {α β : Type} {e : TypeId} {R : Rep α} {Q : Rep β} {f : α → β} (h : ∀ {w : World} {S : Foot} {cs : List Value} {x : α}, R.own w S cs x ↔ Q.own w S cs (f x)) (hs : R.size = Q.size) {w : World} {S : Foot} {cs : List Value} {xs : List α} : (slR e R).own w S cs xs ↔ (slR e Q).own w S cs (xs.map f) := by
 constructor
 ·rintro ⟨v, a, b, c, r, g, s, l⟩;exact ⟨v, a, b, c, by rw [List.length_map, ← hs]; exact r, g, s, (lown_map h).1 l⟩
 ·rintro ⟨v, a, b, c, r, g, s, l⟩;exact ⟨v, a, b, c, by rw [List.length_map, ← hs] at r; exact r, g, s, (lown_map h).2 l⟩
theorem flat_cE (x : EventD) : eventM.cE x = fevM.cE (flatE x) := by
 show 1 + ((1 + (1 + (1 + 1))) + (1 + (1 + (slcnt intM x.2.2.2.2.1 + 1)))) = 1 + (1 + (1 + (1 + (1 + (1 + (1 + (slcnt intM x.2.2.2.2.1 + 1)))))))
 omega
theorem flat_mE (k : Int) (x : EventD) : flatE (eventM.mE k x) = fevM.mE k (flatE x) := by
 refine Prod.ext rfl (Prod.ext rfl (Prod.ext rfl (Prod.ext rfl (Prod.ext rfl (Prod.ext ?_ (Prod.ext ?_ (Prod.ext ?_ ?_)))))))
 ·show k + ((1 : Nat) : Int) + ((1 + (1 + (1 + 1)) : Nat) : Int) = k + ((1 : Nat) : Int) + ((1 : Nat) : Int) + ((1 : Nat) : Int) + ((1 : Nat) : Int) + ((1 : Nat) : Int)
  omega
 ·show k + ((1 : Nat) : Int) + ((1 + (1 + (1 + 1)) : Nat) : Int) + ((1 : Nat) : Int) = k + ((1 : Nat) : Int) + ((1 : Nat) : Int) + ((1 : Nat) : Int) + ((1 : Nat) : Int) + ((1 : Nat) : Int) + ((1 : Nat) : Int)
  omega
 ·show slmark intM (k + ((1 : Nat) : Int) + ((1 + (1 + (1 + 1)) : Nat) : Int) + ((1 : Nat) : Int) + ((1 : Nat) : Int)) x.2.2.2.2.1 = slmark intM (k + ((1 : Nat) : Int) + ((1 : Nat) : Int) + ((1 : Nat) : Int) + ((1 : Nat) : Int) + ((1 : Nat) : Int) + ((1 : Nat) : Int) + ((1 : Nat) : Int)) x.2.2.2.2.1
  congr 1
  omega
 ·show k + ((1 : Nat) : Int) + ((1 + (1 + (1 + 1)) : Nat) : Int) + ((1 : Nat) : Int) + ((1 : Nat) : Int) + ((slcnt intM x.2.2.2.2.1 : Nat) : Int) = k + ((1 : Nat) : Int) + ((1 : Nat) : Int) + ((1 : Nat) : Int) + ((1 : Nat) : Int) + ((1 : Nat) : Int) + ((1 : Nat) : Int) + ((1 : Nat) : Int) + ((slcnt intM x.2.2.2.2.1 : Nat) : Int)
  omega
theorem flat_cnt (xs : List EventD) : slcnt eventM xs = slcnt fevM (xs.map flatE) := by
 unfold slcnt;rw [List.map_map];congr 1
 exact List.map_congr_left fun x _ => flat_cE x
theorem flat_mark : ∀ (k : Int) (xs : List EventD), (slmark eventM k xs).map flatE = slmark fevM k (xs.map flatE)
 | _, [] => rfl
 | k, x :: xs => by
  show flatE (eventM.mE k x) :: (slmark eventM (k + (eventM.cE x : Int)) xs).map flatE = fevM.mE k (flatE x) :: slmark fevM (k + (fevM.cE (flatE x) : Int)) (xs.map flatE)
  rw [flat_mE, flat_mark, flat_cE]
theorem chg_cellfev {S : Foot} {w W : World} {g o : Nat} {v : Value} (h : Chg S w W) (hg : S g) : Chg S w (W.setCell ⟨g, o, none⟩ v) :=
 ⟨h.os, h.tape, h.output, by have := h.size; simpa using this, fun k hk hn => by rw [heap_setCell_other _ ⟨g, o, none⟩ k _ (fun e => hn (by rw [e]; exact hg))]; exact h.block k hk hn⟩
theorem in64_fev {k : Int} (h0 : 0 ≤ k) (h1 : k ≤ 1152921504606846976) : In64 k := by constructor <;> omega
theorem cnt_fev (x : FevD) : fevM.cE x = (1 + (1 + (1 + (1 + (1 + (1 + (1 + (slcnt intM x.2.2.2.2.2.2.2.1 + 1)))))))) := rfl
theorem cnt_fevs (xs : List FevD) : xs.length ≤ slcnt fevM xs := by
 induction xs with
 | nil => exact Nat.zero_le _
 | cons x xs ih =>
  simp only [slcnt, List.map_cons, List.sum_cons, List.length_cons] at ih ⊢;have := cnt_fev x;omega
theorem markEventS_nil (k : Int) (w : World) :
    Calls Tryz.prog 50 #[sL none 0 0, nI k] w fun e' w' => e' = .returned (nI k) ∧ w' = w := by
 go_enter Tryz.func50, Tryz.ntmps50;go_wp2;refine wp_loop_rounds 1 ?_;rw [rounds_succ];go_wp2;go_ret
 exact ⟨rfl, rfl⟩
theorem markEventS_rep (S : Foot) (v : Value) (k : Int) (xs : List FevD) (w : World) (h0 : 0 ≤ k) (h1 : k ≤ 288230376151711744) (hm : slcnt fevM xs ≤ 288230376151711744) (h : fevsR.own w S [v] xs) :
    Calls Tryz.prog 50 #[v, nI k] w fun e' d => e' = .returned (nI (k + slcnt fevM xs)) ∧ fevsR.own d S [v] (slmark fevM k xs) ∧ Chg S w d := by
 have bB := cnt_fevs xs;rcases slown_form h with ⟨rfl, rfl⟩ | ⟨G, C, rfl, hG⟩
 ·exact (markEventS_nil k w).mono fun e d ⟨e1, e2⟩ => ⟨by simpa [slcnt] using e1, by rw [e2]; exact h, by rw [e2]; exact Chg.refl _ _⟩
 go_enter Tryz.func50, Tryz.ntmps50;go_wp2;go_loopw [1, 5] (fun q i wr => ∃ j : Nat, j ≤ xs.length ∧ i = nI j ∧ q = nI (k + slcnt fevM (xs.take j)) ∧ fevsR.own wr S [sL (some ⟨G, 0, none⟩) xs.length C] (pmark fevM k xs j) ∧ Chg S w wr)
  (fun _ i _ => xs.length - (intOf i).toNat)
 case atStart => exact ⟨0, Nat.zero_le _, rfl, by simp [slcnt], by rw [pmark_zero]; exact h, Chg.refl _ _⟩
 case round =>
  obtain ⟨j, hj, rfl, rfl, K, hs⟩ := hrel;by_cases R : j < xs.length
  ·have sA : (j : Int) < (xs.length : Int) := by omega
   obtain ⟨x, A⟩ : ∃ x, xs[j]? = some x := ⟨_, List.getElem?_eq_getElem R⟩;have HT : Hid (slcnt fevM (xs.take (j + 1)) = slcnt fevM (xs.take j) + (1 + (1 + (1 + (1 + (1 + (1 + (1 + (slcnt intM x.2.2.2.2.2.2.2.1 + 1))))))))) := slcnt_step (M := fevM) A;have hT : slcnt fevM (xs.take j) + (1 + (1 + (1 + (1 + (1 + (1 + (1 + (slcnt intM x.2.2.2.2.2.2.2.1 + 1)))))))) ≤ slcnt fevM xs := slcnt_get (M := fevM) A;have z : Hid _ := pmark_step (M := fevM) (k := k) A;obtain ⟨g, mA, f, Sj, T, c, hv, l, a, b, aA, r, s1, s2, s3, n, s5, o⟩ := slown_focus K (pmark_at A);simp only [Value.slice.injEq, Option.some.injEq, Addr.mk.injEq, and_true] at hv;obtain ⟨rfl, X⟩ := hv;obtain ⟨vd, rfl, -, -, -, -, -, -, -, -, y⟩ := fev_own r;obtain ⟨F, J, rfl⟩ := slown_val y;have q0 : wr.cell? ⟨G, j * 9, none⟩ = some (nI x.1) := by rw [cell_of_row wr G _ f _ (0, 0) a]; exact b 0 (by decide)
   have q1 : wr.cell? ⟨G, j * 9 + 1, none⟩ = some (nI x.2.1) := by rw [cell_of_row wr G _ f _ (0, 0) a]; exact b 1 (by decide)
   have q2 : wr.cell? ⟨G, j * 9 + 2, none⟩ = some (nI x.2.2.1) := by rw [cell_of_row wr G _ f _ (0, 0) a]; exact b 2 (by decide)
   have q3 : wr.cell? ⟨G, j * 9 + 3, none⟩ = some (nI x.2.2.2.1) := by rw [cell_of_row wr G _ f _ (0, 0) a]; exact b 3 (by decide)
   have q4 : wr.cell? ⟨G, j * 9 + 4, none⟩ = some (nI x.2.2.2.2.1) := by rw [cell_of_row wr G _ f _ (0, 0) a]; exact b 4 (by decide)
   have q5 : wr.cell? ⟨G, j * 9 + 5, none⟩ = some (nI x.2.2.2.2.2.1) := by rw [cell_of_row wr G _ f _ (0, 0) a]; exact b 5 (by decide)
   have q6 : wr.cell? ⟨G, j * 9 + 6, none⟩ = some (nI x.2.2.2.2.2.2.1) := by rw [cell_of_row wr G _ f _ (0, 0) a]; exact b 6 (by decide)
   have q7 : wr.cell? ⟨G, j * 9 + 7, none⟩ = some (sL F x.2.2.2.2.2.2.2.1.length J) := by rw [cell_of_row wr G _ f _ (0, 0) a]; exact b 7 (by decide)
   have q8 : wr.cell? ⟨G, j * 9 + 8, none⟩ = some (nI x.2.2.2.2.2.2.2.2) := by rw [cell_of_row wr G _ f _ (0, 0) a]; exact b 8 (by decide)
   have r0 : wr.frozen? ⟨G, j * 9, none⟩ = false := frozen_of_row wr G _ _ _ a;have r1 : wr.frozen? ⟨G, j * 9 + 1, none⟩ = false := frozen_of_row wr G _ _ _ a;have r2 : wr.frozen? ⟨G, j * 9 + 2, none⟩ = false := frozen_of_row wr G _ _ _ a;have r3 : wr.frozen? ⟨G, j * 9 + 3, none⟩ = false := frozen_of_row wr G _ _ _ a;have r4 : wr.frozen? ⟨G, j * 9 + 4, none⟩ = false := frozen_of_row wr G _ _ _ a;have r5 : wr.frozen? ⟨G, j * 9 + 5, none⟩ = false := frozen_of_row wr G _ _ _ a;have r6 : wr.frozen? ⟨G, j * 9 + 6, none⟩ = false := frozen_of_row wr G _ _ _ a;have r8 : wr.frozen? ⟨G, j * 9 + 8, none⟩ = false := frozen_of_row wr G _ _ _ a;have U : j * 9 + 8 < f.size := by
    have := b 8 (by decide);exact (Array.getElem?_eq_some_iff.1 (this.trans rfl)).1
   clear X aA;generalize cA : k + (slcnt fevM (xs.take j) : Int) = kk at z ⊢;have HA : 0 ≤ kk ∧ kk ≤ 576460752303423488 := by omega
   have D : G < wr.heap.size := (ltH a);have y0 := a;have y1 := heap_setCell_same _ G (j * 9) _ _ (nI (kk)) y0;have y2 := heap_setCell_same _ G (j * 9 + 1) _ _ (nI (kk + 1)) y1;have y3 := heap_setCell_same _ G (j * 9 + 2) _ _ (nI (kk + 1 + 1)) y2;have y4 := heap_setCell_same _ G (j * 9 + 3) _ _ (nI (kk + 1 + 1 + 1)) y3;have y5 := heap_setCell_same _ G (j * 9 + 4) _ _ (nI (kk + 1 + 1 + 1 + 1)) y4;have y6 := heap_setCell_same _ G (j * 9 + 5) _ _ (nI (kk + 1 + 1 + 1 + 1 + 1)) y5;have y7 := heap_setCell_same _ G (j * 9 + 6) _ _ (nI (kk + 1 + 1 + 1 + 1 + 1 + 1)) y6
   have V : Hid (∀ d : World, d.heap[G]? = some (.cells (((((((f.setIfInBounds (j * 9) (nI (kk))).setIfInBounds (j * 9 + 1) (nI (kk + 1))).setIfInBounds (j * 9 + 2) (nI (kk + 1 + 1))).setIfInBounds (j * 9 + 3) (nI (kk + 1 + 1 + 1))).setIfInBounds (j * 9 + 4) (nI (kk + 1 + 1 + 1 + 1))).setIfInBounds (j * 9 + 5) (nI (kk + 1 + 1 + 1 + 1 + 1))).setIfInBounds (j * 9 + 6) (nI (kk + 1 + 1 + 1 + 1 + 1 + 1))) 135 (0, 0)) → ∃ t, d.cell? ⟨G, j * 9 + 8, none⟩ = some t) := fun d hb => ⟨nI x.2.2.2.2.2.2.2.2, by
    rw [cell_of_row d G _ _ _ (0, 0) hb, Array.getElem?_setIfInBounds_ne (by omega), Array.getElem?_setIfInBounds_ne (by omega), Array.getElem?_setIfInBounds_ne (by omega), Array.getElem?_setIfInBounds_ne (by omega), Array.getElem?_setIfInBounds_ne (by omega), Array.getElem?_setIfInBounds_ne (by omega), Array.getElem?_setIfInBounds_ne (by omega)]
    exact b 8 (by decide)⟩
   have O : Hid (∀ d, Chg Sj (((((((wr.setCell ⟨G, j * 9, none⟩ (nI (kk))).setCell ⟨G, j * 9 + 1, none⟩ (nI (kk + 1))).setCell ⟨G, j * 9 + 2, none⟩ (nI (kk + 1 + 1))).setCell ⟨G, j * 9 + 3, none⟩ (nI (kk + 1 + 1 + 1))).setCell ⟨G, j * 9 + 4, none⟩ (nI (kk + 1 + 1 + 1 + 1))).setCell ⟨G, j * 9 + 5, none⟩ (nI (kk + 1 + 1 + 1 + 1 + 1))).setCell ⟨G, j * 9 + 6, none⟩ (nI (kk + 1 + 1 + 1 + 1 + 1 + 1))) d → d.heap[G]? = some (.cells (((((((f.setIfInBounds (j * 9) (nI (kk))).setIfInBounds (j * 9 + 1) (nI (kk + 1))).setIfInBounds (j * 9 + 2) (nI (kk + 1 + 1))).setIfInBounds (j * 9 + 3) (nI (kk + 1 + 1 + 1))).setIfInBounds (j * 9 + 4) (nI (kk + 1 + 1 + 1 + 1))).setIfInBounds (j * 9 + 5) (nI (kk + 1 + 1 + 1 + 1 + 1))).setIfInBounds (j * 9 + 6) (nI (kk + 1 + 1 + 1 + 1 + 1 + 1))) 135 (0, 0))) := fun d H => (H.block G (by simpa using D) n).trans y7;have HC : Hid (∀ d, Chg Sj (((((((wr.setCell ⟨G, j * 9, none⟩ (nI (kk))).setCell ⟨G, j * 9 + 1, none⟩ (nI (kk + 1))).setCell ⟨G, j * 9 + 2, none⟩ (nI (kk + 1 + 1))).setCell ⟨G, j * 9 + 3, none⟩ (nI (kk + 1 + 1 + 1))).setCell ⟨G, j * 9 + 4, none⟩ (nI (kk + 1 + 1 + 1 + 1))).setCell ⟨G, j * 9 + 5, none⟩ (nI (kk + 1 + 1 + 1 + 1 + 1))).setCell ⟨G, j * 9 + 6, none⟩ (nI (kk + 1 + 1 + 1 + 1 + 1 + 1))) d → intsR.own d Sj [sL F x.2.2.2.2.2.2.2.1.length J] (slmark intM (kk + 1 + 1 + 1 + 1 + 1 + 1 + 1) x.2.2.2.2.2.2.2.1) → fevsR.own (d.setCell ⟨G, j * 9 + 8, none⟩ (nI (kk + 1 + 1 + 1 + 1 + 1 + 1 + 1 + (slcnt intM x.2.2.2.2.2.2.2.1 : Int)))) S [sL (some ⟨G, 0, none⟩) xs.length C] (pmark fevM k xs (j + 1)) ∧ Chg S wr (d.setCell ⟨G, j * 9 + 8, none⟩ (nI (kk + 1 + 1 + 1 + 1 + 1 + 1 + 1 + (slcnt intM x.2.2.2.2.2.2.2.1 : Int))))) := by
    intro d H Z;have z0 := O.out d H;have z1 := heap_setCell_same _ G (j * 9 + 8) _ _ (nI (kk + 1 + 1 + 1 + 1 + 1 + 1 + 1 + (slcnt intM x.2.2.2.2.2.2.2.1 : Int))) z0;have c1 : Chg S wr (((((((wr.setCell ⟨G, j * 9, none⟩ (nI (kk))).setCell ⟨G, j * 9 + 1, none⟩ (nI (kk + 1))).setCell ⟨G, j * 9 + 2, none⟩ (nI (kk + 1 + 1))).setCell ⟨G, j * 9 + 3, none⟩ (nI (kk + 1 + 1 + 1))).setCell ⟨G, j * 9 + 4, none⟩ (nI (kk + 1 + 1 + 1 + 1))).setCell ⟨G, j * 9 + 5, none⟩ (nI (kk + 1 + 1 + 1 + 1 + 1))).setCell ⟨G, j * 9 + 6, none⟩ (nI (kk + 1 + 1 + 1 + 1 + 1 + 1))) := chg_cellfev (chg_cellfev (chg_cellfev (chg_cellfev (chg_cellfev (chg_cellfev (chg_cellfev (Chg.refl S wr) l) l) l) l) l) l) l;have c2 := c1.trans (H.mono s1);have c3 : Chg S d (d.setCell ⟨G, j * 9 + 8, none⟩ (nI (kk + 1 + 1 + 1 + 1 + 1 + 1 + 1 + (slcnt intM x.2.2.2.2.2.2.2.1 : Int)))) := chg_cellfev (Chg.refl S d) l;refine ⟨?_, c2.trans c3⟩;rw [← z.out];have p : intsR.own (d.setCell ⟨G, j * 9 + 8, none⟩ (nI (kk + 1 + 1 + 1 + 1 + 1 + 1 + 1 + (slcnt intM x.2.2.2.2.2.2.2.1 : Int)))) Sj [sL F x.2.2.2.2.2.2.2.1.length J] (slmark intM (kk + 1 + 1 + 1 + 1 + 1 + 1 + 1) x.2.2.2.2.2.2.2.1) := own_setC (Z) n;refine o (d.setCell ⟨G, j * 9 + 8, none⟩ (nI (kk + 1 + 1 + 1 + 1 + 1 + 1 + 1 + (slcnt intM x.2.2.2.2.2.2.2.1 : Int)))) _ [nI (kk), nI (kk + 1), nI (kk + 1 + 1), nI (kk + 1 + 1 + 1), nI (kk + 1 + 1 + 1 + 1), nI (kk + 1 + 1 + 1 + 1 + 1), nI (kk + 1 + 1 + 1 + 1 + 1 + 1), sL F x.2.2.2.2.2.2.2.1.length J, nI (kk + 1 + 1 + 1 + 1 + 1 + 1 + 1 + (slcnt intM x.2.2.2.2.2.2.2.1 : Int))] _ Sj S z1 (by simp) ?_ ?_ ?_ (own_fev (in64_fev (by omega) (by omega)) (in64_fev (by omega) (by omega)) (in64_fev (by omega) (by omega)) (in64_fev (by omega) (by omega)) (in64_fev (by omega) (by omega)) (in64_fev (by omega) (by omega)) (in64_fev (by omega) (by omega)) (in64_fev (by omega) (by omega)) p) s3 n l s1 s2
    ·intro i B;rw [show fevR.size = 9 from rfl] at B;rw [Array.getElem?_setIfInBounds_ne (by omega), Array.getElem?_setIfInBounds_ne (by omega), Array.getElem?_setIfInBounds_ne (by omega), Array.getElem?_setIfInBounds_ne (by omega), Array.getElem?_setIfInBounds_ne (by omega), Array.getElem?_setIfInBounds_ne (by omega), Array.getElem?_setIfInBounds_ne (by omega), Array.getElem?_setIfInBounds_ne (by omega)]
    ·intro i B;rw [show fevR.size = 9 from rfl] at B;rw [show j * fevR.size = j * 9 from rfl];have h3 : i = 0 ∨ i = 1 ∨ i = 2 ∨ i = 3 ∨ i = 4 ∨ i = 5 ∨ i = 6 ∨ i = 7 ∨ i = 8 := by omega
     rcases h3 with rfl | rfl | rfl | rfl | rfl | rfl | rfl | rfl | rfl
     ·rw [Array.getElem?_setIfInBounds_ne (by omega), Array.getElem?_setIfInBounds_ne (by omega), Array.getElem?_setIfInBounds_ne (by omega), Array.getElem?_setIfInBounds_ne (by omega), Array.getElem?_setIfInBounds_ne (by omega), Array.getElem?_setIfInBounds_ne (by omega), Array.getElem?_setIfInBounds_ne (by omega)];rw [Nat.add_zero];rw [Array.getElem?_setIfInBounds_self_of_lt (by first | omega | (simp; omega))];rfl
     ·rw [Array.getElem?_setIfInBounds_ne (by omega), Array.getElem?_setIfInBounds_ne (by omega), Array.getElem?_setIfInBounds_ne (by omega), Array.getElem?_setIfInBounds_ne (by omega), Array.getElem?_setIfInBounds_ne (by omega), Array.getElem?_setIfInBounds_ne (by omega)];skip
      rw [Array.getElem?_setIfInBounds_self_of_lt (by first | omega | (simp; omega))];rfl
     ·rw [Array.getElem?_setIfInBounds_ne (by omega), Array.getElem?_setIfInBounds_ne (by omega), Array.getElem?_setIfInBounds_ne (by omega), Array.getElem?_setIfInBounds_ne (by omega), Array.getElem?_setIfInBounds_ne (by omega)];skip
      rw [Array.getElem?_setIfInBounds_self_of_lt (by first | omega | (simp; omega))];rfl
     ·rw [Array.getElem?_setIfInBounds_ne (by omega), Array.getElem?_setIfInBounds_ne (by omega), Array.getElem?_setIfInBounds_ne (by omega), Array.getElem?_setIfInBounds_ne (by omega)];skip
      rw [Array.getElem?_setIfInBounds_self_of_lt (by first | omega | (simp; omega))];rfl
     ·rw [Array.getElem?_setIfInBounds_ne (by omega), Array.getElem?_setIfInBounds_ne (by omega), Array.getElem?_setIfInBounds_ne (by omega)];skip
      rw [Array.getElem?_setIfInBounds_self_of_lt (by first | omega | (simp; omega))];rfl
     ·rw [Array.getElem?_setIfInBounds_ne (by omega), Array.getElem?_setIfInBounds_ne (by omega)];skip
      rw [Array.getElem?_setIfInBounds_self_of_lt (by first | omega | (simp; omega))];rfl
     ·rw [Array.getElem?_setIfInBounds_ne (by omega)];skip
      rw [Array.getElem?_setIfInBounds_self_of_lt (by first | omega | (simp; omega))];rfl
     ·rw [Array.getElem?_setIfInBounds_ne (by omega), Array.getElem?_setIfInBounds_ne (by omega), Array.getElem?_setIfInBounds_ne (by omega), Array.getElem?_setIfInBounds_ne (by omega), Array.getElem?_setIfInBounds_ne (by omega), Array.getElem?_setIfInBounds_ne (by omega), Array.getElem?_setIfInBounds_ne (by omega), Array.getElem?_setIfInBounds_ne (by omega)];exact b 7 (by decide)
     ·skip
      skip
      rw [Array.getElem?_setIfInBounds_self_of_lt (by first | omega | (simp; omega))];rfl
    ·intro i B bA;have m : i ≠ G := fun e => s5 (by rw [← e]; exact B);rw [heap_setCell_other _ ⟨G, j * 9 + 8, none⟩ i _ m, H.block i (by simpa using bA) (fun A => s3 i A B), heap_setCell_other _ ⟨G, j * 9 + 6, none⟩ i _ m, heap_setCell_other _ ⟨G, j * 9 + 5, none⟩ i _ m, heap_setCell_other _ ⟨G, j * 9 + 4, none⟩ i _ m, heap_setCell_other _ ⟨G, j * 9 + 3, none⟩ i _ m, heap_setCell_other _ ⟨G, j * 9 + 2, none⟩ i _ m, heap_setCell_other _ ⟨G, j * 9 + 1, none⟩ i _ m, heap_setCell_other _ ⟨G, j * 9, none⟩ i _ m]
   have HO : Hid (intsR.own (((((((wr.setCell ⟨G, j * 9, none⟩ (nI (kk))).setCell ⟨G, j * 9 + 1, none⟩ (nI (kk + 1))).setCell ⟨G, j * 9 + 2, none⟩ (nI (kk + 1 + 1))).setCell ⟨G, j * 9 + 3, none⟩ (nI (kk + 1 + 1 + 1))).setCell ⟨G, j * 9 + 4, none⟩ (nI (kk + 1 + 1 + 1 + 1))).setCell ⟨G, j * 9 + 5, none⟩ (nI (kk + 1 + 1 + 1 + 1 + 1))).setCell ⟨G, j * 9 + 6, none⟩ (nI (kk + 1 + 1 + 1 + 1 + 1 + 1))) Sj [sL F x.2.2.2.2.2.2.2.1.length J] x.2.2.2.2.2.2.2.1) := own_setC (own_setC (own_setC (own_setC (own_setC (own_setC (own_setC (y) n) n) n) n) n) n) n;clear A K r o b a s1 s2 s3 n s5 z h y U D y0 y1 y2 y3 y4 y5 y6 y7;generalize slcnt fevM (xs.take j) = TT at HT hT cA;go_wp2_with fail
   refine (markInt64S_rep Sj _ _ x.2.2.2.2.2.2.2.1 _ (by omega) (by omega) (by omega) HO.out).mono ?_;rintro e d ⟨rfl, s, N⟩;have Y := O.out d N;obtain ⟨p, E⟩ := HC.out d N s;have I := hs.trans E;have HF : Hid _ := aI p I;clear s N E HC HO p I O q0 q1 q2 q3 q4 q5 q6 q7 q8 r0 r1 r2 r3 r4 r5 r6 r8;obtain ⟨t8, ZA⟩ : ∃ t, d.cell? ⟨G, j * 9 + 8, none⟩ = some t := V.out d Y;have r8 : d.frozen? ⟨G, j * 9 + 8, none⟩ = false := frozen_of_row d G _ _ _ Y;clear Y;go_wp2;go_roundw
   case rel => exact ⟨j + 1, by omega, by go_num, by rw [HT.out]; congr 1; omega, HF.out.1, HF.out.2⟩
   case measure => simp [intOf]; omega
  ·have L : j = xs.length := by omega
   subst L;rw [List.take_length];rw [pmark_all] at K;go_wp2;go_ret
   exact ⟨rfl, K, hs⟩
theorem mkEvents_u : MkC 50 eventsR eventsM cell1 := by
 intro S cs x k w h a hm hb;obtain ⟨v, rfl⟩ := own_cell h;have e : lot = 4398046511104 := rfl;have b : eventsM.cV x = slcnt fevM (x.map flatE) := flat_cnt x;have := markEventS_rep S v k (x.map flatE) w a (by omega) (by omega) ((slown_map ev_own rfl).1 h);rw [b];refine this.mono fun e' w' ⟨q, r, c⟩ => ⟨q, (slown_map ev_own rfl).2 ?_, c⟩;rw [show eventsM.mV k x = slmark eventM k x from rfl, flat_mark];exact r
theorem szInt64SS_rep (a : Option Addr) (xs : List (List Int)) (cap : Nat) (left : Int) (w : World) (h : SlRd intsR w a xs) (h0 : 0 ≤ left) (h1 : left ≤ 1048576) (hm : xs.length ≤ maxLen) :
    Calls Tryz.prog 60 #[sL a xs.length cap, nI left] w fun e n => e = .returned (nI (szI ((slM intsM).bk xs) left)) ∧ n = w := by
 have H : xs.length ≤ 9223372036854775807 := hm;have f : (slM intsM).bk xs = xs.length + sumbk intsM xs := rfl;clear hm;by_cases hl : (xs.length : Int) ≤ left
 ·have v : ¬ (left - (xs.length : Int) < 0) := by omega
  have E : Hid _ := f;clear f;go_enter Tryz.func60, Tryz.ntmps60;go_wp2;go_loop [1, 5] (fun q i => ∃ k : Nat, k ≤ xs.length ∧ i = nI k ∧ (sumbk intsM (xs.take k) : Int) + xs.length ≤ left ∧ q = nI (left - (xs.length : Int) - sumbk intsM (xs.take k))) (fun _ i => xs.length - (intOf i).toNat)
  case atStart => exact ⟨0, Nat.zero_le _, rfl, by simp [sumbk]; omega, by simp [sumbk]⟩
  case round =>
   obtain ⟨k, hk, rfl, B, rfl⟩ := hrel;by_cases y : k < xs.length
   ·have C : (k : Int) < (xs.length : Int) := by omega
    obtain ⟨x, j⟩ : ∃ x, xs[k]? = some x := ⟨_, List.getElem?_eq_getElem y⟩;obtain ⟨b, I, c, rfl, ⟨aj, cj, rfl, l, m, g⟩, d⟩ := slrd_at h j;have F := d 0 _ rfl;rw [show k * (intsR).size + 0 = k from Nat.mul_one k] at F;have HR : Hid _ := g;have D : Hid _ := Nat.le_trans l m;have o : Hid _ := sumbk_step (M := intsM) j;have r := sumbk_get (M := intsM) j;clear h j d g;generalize sumbk intsM (xs.take k) = T at B o r ⊢;by_cases A : (((intsM).bk x : Nat) : Int) ≤ left - (xs.length : Int) - (T : Int)
    ·have G : ¬ (left - (xs.length : Int) - (T : Int) - (((intsM).bk x : Nat) : Int) < 0) := by omega
     have p : Hid (szI ((intsM).bk x) (left - (xs.length : Int) - (T : Int)) = _) := szI_yes A;go_wp2_with (go_at_call 120; refine (szInt64S_rep _ x _ _ _ (by omega) (by omega) D.out).mono ?_; rintro e n ⟨rfl, rfl⟩; rw [p.out])
     go_round
     case rel => exact ⟨k + 1, by omega, by go_num, by have := o.out; omega, by rw [o.out]; go_num⟩
     case measure => simp [intOf]; omega
    ·have p : Hid (szI ((intsM).bk x) (left - (xs.length : Int) - (T : Int)) = _) := szI_no A;have s : Hid (szI ((slM intsM).bk xs) left = -1) := by unfold Hid; rw [E.out]; exact szI_no (by omega)
     go_wp2_with (go_at_call 120; refine (szInt64S_rep _ x _ _ _ (by omega) (by omega) D.out).mono ?_; rintro e n ⟨rfl, rfl⟩; rw [p.out])
     go_ret
     exact ⟨ret_int s.out.symm, rfl⟩
   ·have z : k = xs.length := by omega
    subst z;rw [List.take_length] at B ⊢;have s : Hid (szI ((slM intsM).bk xs) left = left - (xs.length : Int) - (sumbk intsM xs : Int)) := by unfold Hid; rw [E.out, szI_yes (by omega)]; omega
    go_wp2;go_ret
    exact ⟨ret_int s.out.symm, rfl⟩
 ·have v : left - (xs.length : Int) < 0 := by omega
  rw [szI_no (by omega)];clear f h;go_enter Tryz.func60, Tryz.ntmps60;go_wp2;go_ret
  exact ⟨rfl, rfl⟩
theorem Tryz.infoInt64SS : (Tryz.prog.info? 68).map (fun i => (i.zero, i.size, i.bytes)) = some (some (sL none 0 0), 1, 24) := by kernel_rfl
theorem toInt64SS_rep (a : Option Addr) (xs : List (List Int)) (cap : Nat) (w : World) (h : SlRd intsR w a xs) (hm : (slM intsM).bk xs ≤ 1048576) :
    Calls Tryz.prog 77 #[sL a xs.length cap] w fun e w' => ∃ v, e = .returned v ∧ MadeR (slR 68 intsR) w w' [v] xs := by
 have r : (slM intsM).bk xs = xs.length + sumbk intsM xs := rfl;have G : xs.length ≤ 1048576 := by omega
 have N : Hid (sumbk intsM xs ≤ 1048576) := by unfold Hid; omega
 clear r hm;have o := Go.run_make_row' (P := Tryz.prog) 24 68 (sL none 0 0) 24 Tryz.underlying24 Tryz.infoInt64SS rfl .i64 .i64 xs.length (by omega) (by omega);go_enter Tryz.func77, Tryz.ntmps77;go_wp2;go_loopw [4] (fun i wr => ∃ k : Nat, k ≤ xs.length ∧ i = nI k ∧ Fill 68 intsR w wr xs.length (xs.take k)) (fun i _ => xs.length - (intOf i).toNat)
 case atStart => exact ⟨0, Nat.zero_le _, rfl, by simpa using fillR_start (e := 68) (R := intsR) (w0 := w) (n := xs.length) (cs := madeCells #[sL none 0 0] xs.length) (by unfold maxLen; omega) (by simp [size_madeCells]; exact (Nat.mul_one _).symm)⟩
 case round =>
  obtain ⟨k, hk, rfl, f⟩ := hrel;by_cases j : k < xs.length
  ·have z : (k : Int) < (xs.length : Int) := by omega
   obtain ⟨x, l⟩ : ∃ x, xs[k]? = some x := ⟨_, List.getElem?_eq_getElem j⟩;obtain ⟨b, O, c, rfl, ⟨aj, cj, rfl, D, E, g⟩, d⟩ := slrd_at (slrd_next h (fill_below f)) l;have C := d 0 _ rfl;rw [show k * (intsR).size + 0 = k from Nat.mul_one k] at C;have B : Hid _ := g;have K : Hid ((intsM).bk x ≤ 1048576) := by unfold Hid; have := sumbk_get (M := intsM) l; have := N.out; omega
   have I : Hid (∀ w1 v, MadeR intsR wr w1 [v] x → _) := fun w1 v hm => fillR_step (w1 := w1) (c := [v]) f (by simp; omega) j hm;have H : Hid (xs.take k ++ [x] = xs.take (k + 1)) := by unfold Hid; rw [List.take_add_one, l]; rfl
   clear h l g d o f;go_wp2_with (go_at_call 138; refine (toInt64S_rep _ x _ _ B.out K.out).mono ?_; rintro e w1 ⟨v, rfl, p⟩; obtain ⟨av, cv, rfl⟩ := slown_val p.1; obtain ⟨A, y, q⟩ := I.out _ _ p; obtain ⟨v0, m⟩ := A 0 (Nat.zero_lt_one); have J := y k; rw [show k * (intsR).size + 0 = k from Nat.mul_one k] at m; rw [show k * (intsR).size = k from Nat.mul_one k, H.out] at q; have L : Hid _ := q; clear q p A y)
   go_roundw
   case rel => exact ⟨k + 1, by omega, by go_num, L.out⟩
   case measure => simp [intOf]; omega
  ·have s : k = xs.length := by omega
   subst s;rw [List.take_length] at f;have F := fillR_end f rfl;clear f;go_wp2;go_ret
   exact ⟨_, rfl, F⟩
theorem eqInt64SS_rep (a1 a2 : Option Addr) (xs : List (List Int)) (c1 z : Nat) (w : World) (h1 : SlRd intsR w a1 xs) (h2 : SlRd intsR w a2 xs) (hm : (slM intsM).bk xs ≤ 1152921504606846976) :
    Calls Tryz.prog 10 #[sL a1 xs.length c1, sL a2 xs.length z] w fun e w' => e = .returned (.bool true) ∧ ∃ n, w' = w.drewN n := by
 have v : (slM intsM).bk xs = xs.length + sumbk intsM xs := rfl;have H : xs.length ≤ 1152921504606846976 := by omega
 have O : Hid (sumbk intsM xs ≤ 1152921504606846976) := by unfold Hid; omega
 clear v hm;go_enter Tryz.func10, Tryz.ntmps10;go_wp2;go_loopw [5] (fun i wr => ∃ k : Nat, k ≤ xs.length ∧ i = nI k ∧ ∃ n, wr = w.drewN n) (fun i _ => xs.length - (intOf i).toNat)
 case atStart => exact ⟨0, Nat.zero_le _, rfl, 0, rfl⟩
 case round =>
  obtain ⟨k, hk, rfl, n, l⟩ := hrel;by_cases s : k < xs.length
  ·have y : (k : Int) < (xs.length : Int) := by omega
   obtain ⟨x, m⟩ : ∃ x, xs[k]? = some x := ⟨_, List.getElem?_eq_getElem s⟩;have o : ∀ j, j < w.heap.size → wr.heap[j]? = w.heap[j]? := by rw [l]; exact fun _ _ => rfl
   obtain ⟨b, R, c, rfl, ⟨G, cj, rfl, D, F, g⟩, d⟩ := slrd_at (slrd_keep h1 o) m;obtain ⟨b2, A, z, rfl, ⟨p, I, rfl, N, K, f⟩, a⟩ := slrd_at (slrd_keep h2 o) m;have C := d 0 _ rfl;have J := a 0 _ rfl;rw [show k * (intsR).size + 0 = k from Nat.mul_one k] at C J;have B : Hid (∀ q, SlRd _ (wr.drewN q) G x) := fun q => slrd_keep g (fun _ _ => rfl);have r : Hid (∀ q, SlRd _ (wr.drewN q) p x) := fun q => slrd_keep f (fun _ _ => rfl);have L : Hid ((intsM).bk x ≤ 1152921504606846976) := by unfold Hid; have := sumbk_get (M := intsM) m; have := O.out; omega
   have E : Hid (wr = w.drewN n) := l;clear h1 h2 m g f d a l o;go_wp2_with fail
   go_quiet (first | (go_at_call 39; exact Calls.quiet_of (eqInt64S_rep _ _ x _ _ _ (B.out _) (r.out _) L.out)))
   go_wp2;go_roundw
   case rel => exact ⟨k + 1, by omega, by go_num, n + nq, by rw [E.out, World.drewN_drewN]⟩
   case measure => simp [intOf]; omega
  ·go_wp2;go_ret
   first | exact ⟨rfl, _, rfl⟩ | exact ⟨rfl, _, l⟩
theorem markInt64SS_nil (k : Int) (w : World) :
    Calls Tryz.prog 13 #[sL none 0 0, nI k] w fun e' w' => e' = .returned (nI k) ∧ w' = w := by
 go_enter Tryz.func13, Tryz.ntmps13;go_wp2;refine wp_loop_rounds 1 ?_;rw [rounds_succ];go_wp2;go_ret
 exact ⟨rfl, rfl⟩
theorem markInt64SS_rep (S : Foot) (v : Value) (k : Int) (xs : List (List Int)) (w : World) (h0 : 0 ≤ k) (h1 : k ≤ 576460752303423488) (hm : slcnt intsM xs ≤ 576460752303423488) (hln : xs.length ≤ 576460752303423488) (h : (slR 68 intsR).own w S [v] xs) :
    Calls Tryz.prog 13 #[v, nI k] w fun e' f => e' = .returned (nI (k + slcnt intsM xs)) ∧ (slR 68 intsR).own f S [v] (slmark intsM k xs) ∧ Chg S w f := by
 rcases slown_form h with ⟨rfl, rfl⟩ | ⟨G, s, rfl, hG⟩
 ·exact (markInt64SS_nil k w).mono fun e f ⟨e1, e2⟩ => ⟨by simpa [slcnt] using e1, by rw [e2]; exact h, by rw [e2]; exact Chg.refl _ _⟩
 go_enter Tryz.func13, Tryz.ntmps13;go_wp2;go_loopw [1, 5] (fun q i wr => ∃ j : Nat, j ≤ xs.length ∧ i = nI j ∧ q = nI (k + slcnt intsM (xs.take j)) ∧ (slR 68 intsR).own wr S [sL (some ⟨G, 0, none⟩) xs.length s] (pmark intsM k xs j) ∧ Chg S w wr)
  (fun _ i _ => xs.length - (intOf i).toNat)
 case atStart => exact ⟨0, Nat.zero_le _, rfl, by simp [slcnt], by rw [pmark_zero]; exact h, Chg.refl _ _⟩
 case round =>
  obtain ⟨j, hj, rfl, rfl, y, X⟩ := hrel;by_cases O : j < xs.length
  ·have Z : (j : Int) < (xs.length : Int) := by omega
   obtain ⟨x, r⟩ : ∃ x, xs[j]? = some x := ⟨_, List.getElem?_eq_getElem O⟩;have HT : Hid (slcnt intsM (xs.take (j + 1)) = slcnt intsM (xs.take j) + slcnt intM x) := slcnt_step (M := intsM) r;have hT : slcnt intsM (xs.take j) + slcnt intM x ≤ slcnt intsM xs := slcnt_get (M := intsM) r;have o : Hid _ := pmark_step (M := intsM) (k := k) r;obtain ⟨g, cA, p, Sj, T, c, Y, I, a, l, n, d, E, s2, L, z, s5, b⟩ := slown_focus y (pmark_at r);obtain ⟨U, rfl⟩ : ∃ U, c = [U] := List.length_eq_one_iff.1 n;obtain ⟨F, R, rfl⟩ := slown_val d;simp only [Value.slice.injEq, Option.some.injEq, Addr.mk.injEq, and_true] at Y;obtain ⟨rfl, J⟩ := Y;clear J n;have q1 : wr.cell? ⟨G, j, none⟩ = some (sL F x.length R) := by
    rw [cell_of_row wr G j p _ (0, 0) a];have := l 0 Nat.zero_lt_one;rwa [show j * (intsR).size + 0 = j from Nat.mul_one j] at this
   have HO : Hid _ := d;have V : Hid (∀ f, Chg Sj wr f → (intsR).own f Sj [sL F x.length R] (slmark intM (k + slcnt intsM (xs.take j)) x) → (slR 68 intsR).own f S [sL (some ⟨G, 0, none⟩) xs.length s] (pmark intsM k xs (j + 1))) := by
    intro f hc A;rw [← o.out];have N : G < wr.heap.size := (ltH a);exact b f p [sL F x.length R] _ Sj S (by rw [hc.block G N z]; exact a) rfl (fun _ _ => rfl) l (hc.keeps L.symm) A L z I E s2
   have B : Hid _ := E;clear r y d b l a s2 L z s5 E o h;generalize slcnt intsM (xs.take j) = T at HT hT V ⊢;go_wp2_with (go_at_call 51; refine (markInt64S_rep Sj _ _ x _ (by omega) (by omega) (by omega) HO.out).mono ?_; rintro e f ⟨rfl, m, H⟩)
   have K := V.out f H m;have C := X.trans (H.mono B.out);clear m H;go_roundw
   case rel => exact ⟨j + 1, by omega, by go_num, by rw [HT.out]; go_num, K, C⟩
   case measure => simp [intOf]; omega
  ·have D : j = xs.length := by omega
   subst D;rw [List.take_length];rw [pmark_all] at y;go_wp2;go_ret
   exact ⟨rfl, y, X⟩
theorem heldInt64SS_rep (a : Option Addr) (cap : Nat) (k : Int) (xs : List (List Int)) (w : World) (h0 : 0 ≤ k) (h1 : k ≤ 576460752303423488) (hm : slcnt intsM xs ≤ 576460752303423488) (hln : xs.length ≤ 576460752303423488) (h : SlRd intsR w a (slmark intsM k xs)) :
    Calls Tryz.prog 14 #[sL a xs.length cap, nI k] w fun e' s => e' = .returned (nI (k + slcnt intsM xs)) ∧ s = w := by
 go_enter Tryz.func14, Tryz.ntmps14;go_wp2;go_loop [1, 5] (fun q i => ∃ j : Nat, j ≤ xs.length ∧ i = nI j ∧ q = nI (k + slcnt intsM (xs.take j))) (fun _ i => xs.length - (intOf i).toNat)
 case atStart => exact ⟨0, Nat.zero_le _, rfl, by simp [slcnt]⟩
 case round =>
  obtain ⟨j, hj, rfl, rfl⟩ := hrel;by_cases o : j < xs.length
  ·have v : (j : Int) < (xs.length : Int) := by omega
   obtain ⟨x, l⟩ : ∃ x, xs[j]? = some x := ⟨_, List.getElem?_eq_getElem o⟩;obtain ⟨b, C, c, rfl, ⟨A, cj, rfl, m, z, g⟩, d⟩ := slrd_at h (slmark_at (M := intsM) (k := k) l);have r := d 0 _ rfl;rw [show j * (intsR).size + 0 = j from Nat.mul_one j] at r;have f : ((intsM).mE (k + slcnt intsM (xs.take j)) x).length = x.length := slmark_len _ _ _;rw [f] at r;have p : Hid (SlRd _ w A (slmark intM (k + slcnt intsM (xs.take j)) x)) := g;have y : Hid (slcnt intsM (xs.take (j + 1)) = slcnt intsM (xs.take j) + slcnt intM x) := slcnt_step (M := intsM) l;have B : slcnt intsM (xs.take j) + slcnt intM x ≤ slcnt intsM xs := slcnt_get (M := intsM) l;clear l g d h f m;generalize slcnt intsM (xs.take j) = T at y B p ⊢;have hn : ¬ (k + (T : Int) + ((slcnt intM x : Nat) : Int) < 0) := by omega
   go_wp2_with (go_at_call 52; refine (heldInt64S_rep _ _ _ x _ (by omega) (by omega) (by omega) p.out).mono ?_; rintro e s ⟨rfl, rfl⟩)
   go_round
   case rel => exact ⟨j + 1, by omega, by go_num, by rw [y.out]; go_num⟩
   case measure => simp [intOf]; omega
  ·have n : j = xs.length := by omega
   subst n;rw [List.take_length];go_wp2;go_ret
   exact ⟨rfl, rfl⟩
end Go.Proofs.YtdamokokcdcedaaGreatDoor
