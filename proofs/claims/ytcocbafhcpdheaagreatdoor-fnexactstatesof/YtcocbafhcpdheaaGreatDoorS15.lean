import Derived.Test.YtcocbafhcpdheaaGreatDoorS00Box
import Derived.Test.YtcocbafhcpdheaaGreatDoorS14
namespace Go.Proofs.YtcocbafhcpdheaaGreatDoor
set_option maxHeartbeats 4000000
open Go.ChangeShapes Go.WideShapes Go.ChangeAt Go.RowKit
set_option linter.unusedVariables false
abbrev FevD := Int × Int × Int × Int × Int × Int × Int × List Int × Int
abbrev fevR : Rep FevD := prodR intR (prodR intR (prodR intR (prodR intR (prodR intR (prodR intR (prodR intR (prodR intsR intR)))))))
abbrev fevM : Mk FevD := prodM intM (prodM intM (prodM intM (prodM intM (prodM intM (prodM intM (prodM intM (prodM intsM intM)))))))
abbrev fevsR : Rep (List FevD) := slR 123 fevR
theorem fev_own {w : World} {S : Foot} {cs : List Value} {u : FevD} (h : fevR.own w S cs u) :
    ∃ v, cs = [.int .i64 u.1, .int .i64 u.2.1, .int .i64 u.2.2.1, .int .i64 u.2.2.2.1, .int .i64 u.2.2.2.2.1, .int .i64 u.2.2.2.2.2.1, .int .i64 u.2.2.2.2.2.2.1, v, .int .i64 u.2.2.2.2.2.2.2.2] ∧ In64 u.1 ∧ In64 u.2.1 ∧ In64 u.2.2.1 ∧ In64 u.2.2.2.1 ∧ In64 u.2.2.2.2.1 ∧ In64 u.2.2.2.2.2.1 ∧ In64 u.2.2.2.2.2.2.1 ∧ In64 u.2.2.2.2.2.2.2.2 ∧ intsR.own w S [v] u.2.2.2.2.2.2.2.1 := by
 obtain ⟨c0, e0, S0, T0, rfl, ⟨rfl, r⟩, ⟨c1, e1, S1, T1, rfl, ⟨rfl, o⟩, ⟨c2, e2, S2, T2, rfl, ⟨rfl, z⟩, ⟨c3, e3, S3, T3, rfl, ⟨rfl, d⟩, ⟨c4, e4, S4, T4, rfl, ⟨rfl, f⟩, ⟨c5, e5, S5, T5, rfl, ⟨rfl, k⟩, ⟨c6, e6, S6, T6, rfl, ⟨rfl, c⟩, ⟨s, e7, S7, T7, rfl, a, ⟨rfl, g⟩, b, q7, d7⟩, p6, i, d6⟩, p5, q, d5⟩, p4, l, d4⟩, p3, m, d3⟩, p2, p, d2⟩, p1, n, d1⟩, p0, y, d0⟩ := h;have j := intsR.rd_len (intsR.own_rd a);obtain ⟨v, rfl⟩ : ∃ v, s = [v] := List.length_eq_one_iff.1 j;exact ⟨v, rfl, r, o, z, d, f, k, c, g, intsR.own_mono a ((((((((b).trans i).trans q).trans l).trans m).trans p).trans n).trans y)⟩
theorem own_fev {w : World} {S : Foot} {f0 f1 f2 f3 f4 f5 f6 f8 : Int} {d : List Int} {v : Value} (i0 : In64 f0) (i1 : In64 f1) (i2 : In64 f2) (i3 : In64 f3) (i4 : In64 f4) (i5 : In64 f5) (i6 : In64 f6) (i8 : In64 f8) (h : intsR.own w S [v] d) : fevR.own w S [.int .i64 f0, .int .i64 f1, .int .i64 f2, .int .i64 f3, .int .i64 f4, .int .i64 f5, .int .i64 f6, v, .int .i64 f8] (f0, f1, f2, f3, f4, f5, f6, d, f8) :=
 ⟨[_], [_, _, _, _, _, _, _, _], fun _ => False, S, rfl, ⟨rfl, i0⟩, ⟨[_], [_, _, _, _, _, _, _], fun _ => False, S, rfl, ⟨rfl, i1⟩, ⟨[_], [_, _, _, _, _, _], fun _ => False, S, rfl, ⟨rfl, i2⟩, ⟨[_], [_, _, _, _, _], fun _ => False, S, rfl, ⟨rfl, i3⟩, ⟨[_], [_, _, _, _], fun _ => False, S, rfl, ⟨rfl, i4⟩, ⟨[_], [_, _, _], fun _ => False, S, rfl, ⟨rfl, i5⟩, ⟨[_], [_, _], fun _ => False, S, rfl, ⟨rfl, i6⟩, ⟨[_], [_], S, fun _ => False, rfl, h, ⟨rfl, i8⟩, Sub.refl _, fun _ h => h.elim, fun _ _ h => h⟩, fun _ h => h.elim, Sub.refl _, fun _ h _ => h⟩, fun _ h => h.elim, Sub.refl _, fun _ h _ => h⟩, fun _ h => h.elim, Sub.refl _, fun _ h _ => h⟩, fun _ h => h.elim, Sub.refl _, fun _ h _ => h⟩, fun _ h => h.elim, Sub.refl _, fun _ h _ => h⟩, fun _ h => h.elim, Sub.refl _, fun _ h _ => h⟩, fun _ h => h.elim, Sub.refl _, fun _ h _ => h⟩
def flatE (u : EventD) : FevD := (u.1, u.2.1.1, u.2.1.2.1, u.2.1.2.2.1, u.2.1.2.2.2, u.2.2.1, u.2.2.2.1, u.2.2.2.2.1, u.2.2.2.2.2)
theorem ev_own {w : World} {S : Foot} {cs : List Value} {u : EventD} : eventR.own w S cs u ↔ fevR.own w S cs (flatE u) := by
 constructor
 ·intro h;obtain ⟨v1, v2, v3, v4, v7, S1, S4, rfl, i, k, b, c, m, d, s1, n, -⟩ := event_own h;obtain ⟨l, g, j, a, f⟩ := op_rd (opR.own_rd m);simp only [List.cons.injEq, and_true] at l;obtain ⟨rfl, rfl, rfl, rfl⟩ := l;exact own_fev i g j a f k b c (intsR.own_mono d n)
 ·intro h;obtain ⟨v, rfl, i, g, j, a, f, k, b, c, d⟩ := fev_own h;exact own_event i k b c (own_op (S := fun _ => False) (u := u.2.1) ⟨g, j, a, f⟩) d (fun _ h => h.elim) (Sub.refl _) (fun _ h _ => h)
theorem lown_map {α β : Type} {R : Rep α} {Q : Rep β} {f : α → β} (h : ∀ {w : World} {S : Foot} {cs : List Value} {x : α}, R.own w S cs x ↔ Q.own w S cs (f x)) {w : World} : ∀ {S : Foot} {cs : List Value} {xs : List α}, lown R w S cs xs ↔ lown Q w S cs (xs.map f)
 | _, _, [] => Iff.rfl
 | S, cs, x :: xs => ⟨fun ⟨c1, c2, S1, S2, e, h1, h2, r⟩ => ⟨c1, c2, S1, S2, e, h.1 h1, (lown_map h).1 h2, r⟩, fun ⟨c1, c2, S1, S2, e, h1, h2, r⟩ => ⟨c1, c2, S1, S2, e, h.2 h1, (lown_map h).2 h2, r⟩⟩
theorem slown_map {α β : Type} {e : TypeId} {R : Rep α} {Q : Rep β} {f : α → β} (h : ∀ {w : World} {S : Foot} {cs : List Value} {x : α}, R.own w S cs x ↔ Q.own w S cs (f x)) (hs : R.size = Q.size) {w : World} {S : Foot} {cs : List Value} {xs : List α} : (slR e R).own w S cs xs ↔ (slR e Q).own w S cs (xs.map f) := by
 constructor
 ·rintro ⟨v, a, c, b, r, g, s, l⟩;exact ⟨v, a, c, b, by rw [List.length_map, ← hs]; exact r, g, s, (lown_map h).1 l⟩
 ·rintro ⟨v, a, c, b, r, g, s, l⟩;exact ⟨v, a, c, b, by rw [List.length_map, ← hs] at r; exact r, g, s, (lown_map h).2 l⟩
theorem flat_cE (x : EventD) : eventM.cE x = fevM.cE (flatE x) := by
 show 1 + ((1 + (1 + (1 + 1))) + (1 + (1 + (slcnt intM x.2.2.2.2.1 + 1)))) = 1 + (1 + (1 + (1 + (1 + (1 + (1 + (slcnt intM x.2.2.2.2.1 + 1)))))))
 omega
theorem flat_mE (k : Int) (x : EventD) : flatE (eventM.mE k x) = fevM.mE k (flatE x) := by
 refine Prod.ext rfl (Prod.ext rfl (Prod.ext rfl (Prod.ext rfl (Prod.ext rfl (Prod.ext ?_ (Prod.ext ?_ (Prod.ext ?_ ?_)))))))
 ·show k + ((1 : Nat) : Int) + ((1 + (1 + (1 + 1)) : Nat) : Int) = k + ((1 : Nat) : Int) + ((1 : Nat) : Int) + ((1 : Nat) : Int) + ((1 : Nat) : Int) + ((1 : Nat) : Int)
  omega
 ·show k + ((1 : Nat) : Int) + ((1 + (1 + (1 + 1)) : Nat) : Int) + ((1 : Nat) : Int) = k + ((1 : Nat) : Int) + ((1 : Nat) : Int) + ((1 : Nat) : Int) + ((1 : Nat) : Int) + ((1 : Nat) : Int) + ((1 : Nat) : Int)
  omega
 ·show slmark intM (k + ((1 : Nat) : Int) + ((1 + (1 + (1 + 1)) : Nat) : Int) + ((1 : Nat) : Int) + ((1 : Nat) : Int)) x.2.2.2.2.1 = slmark intM (k + ((1 : Nat) : Int) + ((1 : Nat) : Int) + ((1 : Nat) : Int) + ((1 : Nat) : Int) + ((1 : Nat) : Int) + ((1 : Nat) : Int) + ((1 : Nat) : Int)) x.2.2.2.2.1
  congr 1
  omega
 ·show k + ((1 : Nat) : Int) + ((1 + (1 + (1 + 1)) : Nat) : Int) + ((1 : Nat) : Int) + ((1 : Nat) : Int) + ((slcnt intM x.2.2.2.2.1 : Nat) : Int) = k + ((1 : Nat) : Int) + ((1 : Nat) : Int) + ((1 : Nat) : Int) + ((1 : Nat) : Int) + ((1 : Nat) : Int) + ((1 : Nat) : Int) + ((1 : Nat) : Int) + ((slcnt intM x.2.2.2.2.1 : Nat) : Int)
  omega
theorem flat_cnt (xs : List EventD) : slcnt eventM xs = slcnt fevM (xs.map flatE) := by
 unfold slcnt;rw [List.map_map];congr 1
 exact List.map_congr_left fun x _ => flat_cE x
theorem flat_mark : ∀ (k : Int) (xs : List EventD), (slmark eventM k xs).map flatE = slmark fevM k (xs.map flatE)
 | _, [] => rfl
 | k, x :: xs => by
  show flatE (eventM.mE k x) :: (slmark eventM (k + (eventM.cE x : Int)) xs).map flatE = fevM.mE k (flatE x) :: slmark fevM (k + (fevM.cE (flatE x) : Int)) (xs.map flatE)
  rw [flat_mE, flat_mark, flat_cE]
theorem chg_cellfev {S : Foot} {w W : World} {g o : Nat} {v : Value} (h : Chg S w W) (hg : S g) : Chg S w (W.setCell ⟨g, o, none⟩ v) :=
 ⟨h.os, h.tape, h.output, by have := h.size; simpa using this, fun k hk hn => by rw [heap_setCell_other _ ⟨g, o, none⟩ k _ (fun e => hn (by rw [e]; exact hg))]; exact h.block k hk hn⟩
theorem in64_fev {k : Int} (h0 : 0 ≤ k) (h1 : k ≤ 1152921504606846976) : In64 k := by constructor <;> omega
theorem cnt_fev (x : FevD) : fevM.cE x = (1 + (1 + (1 + (1 + (1 + (1 + (1 + (slcnt intM x.2.2.2.2.2.2.2.1 + 1)))))))) := rfl
theorem cnt_fevs (xs : List FevD) : xs.length ≤ slcnt fevM xs := by
 induction xs with
 | nil => exact Nat.zero_le _
 | cons x xs ih =>
  simp only [slcnt, List.map_cons, List.sum_cons, List.length_cons] at ih ⊢;have := cnt_fev x;omega
theorem markEventS_nil (k : Int) (w : World) :
    Calls Tryz.prog 48 #[.slice none 0 0, .int .i64 k] w fun e' w' => e' = .returned (.int .i64 k) ∧ w' = w := by
 go_enter Tryz.func48, Tryz.ntmps48;go_wp2;refine wp_loop_rounds 1 ?_;rw [rounds_succ];go_wp2;go_ret
 exact ⟨rfl, rfl⟩
theorem markEventS_rep (S : Foot) (v : Value) (k : Int) (xs : List FevD) (w : World) (h0 : 0 ≤ k) (h1 : k ≤ 288230376151711744) (hm : slcnt fevM xs ≤ 288230376151711744) (h : fevsR.own w S [v] xs) :
    Calls Tryz.prog 48 #[v, .int .i64 k] w fun e' d => e' = .returned (.int .i64 (k + slcnt fevM xs)) ∧ fevsR.own d S [v] (slmark fevM k xs) ∧ Chg S w d := by
 have dB := cnt_fevs xs;rcases slown_form h with ⟨rfl, rfl⟩ | ⟨G, E, rfl, hG⟩
 ·exact (markEventS_nil k w).mono fun e d ⟨e1, e2⟩ => ⟨by simpa [slcnt] using e1, by rw [e2]; exact h, by rw [e2]; exact Chg.refl _ _⟩
 go_enter Tryz.func48, Tryz.ntmps48;go_wp2;go_loopw [1, 5] (fun q i wr => ∃ j : Nat, j ≤ xs.length ∧ i = .int .i64 j ∧ q = .int .i64 (k + slcnt fevM (xs.take j)) ∧ fevsR.own wr S [.slice (some ⟨G, 0, none⟩) xs.length E] (pmark fevM k xs j) ∧ Chg S w wr)
  (fun _ i _ => xs.length - (intOf i).toNat)
 case atStart => exact ⟨0, Nat.zero_le _, rfl, by simp [slcnt], by rw [pmark_zero]; exact h, Chg.refl _ _⟩
 case round =>
  obtain ⟨j, hj, rfl, rfl, K, hs⟩ := hrel;by_cases X : j < xs.length
  ·have lA : (j : Int) < (xs.length : Int) := by omega
   obtain ⟨x, y⟩ : ∃ x, xs[j]? = some x := ⟨_, List.getElem?_eq_getElem X⟩;have HT : Hid (slcnt fevM (xs.take (j + 1)) = slcnt fevM (xs.take j) + (1 + (1 + (1 + (1 + (1 + (1 + (1 + (slcnt intM x.2.2.2.2.2.2.2.1 + 1))))))))) := slcnt_step (M := fevM) y;have hT : slcnt fevM (xs.take j) + (1 + (1 + (1 + (1 + (1 + (1 + (1 + (slcnt intM x.2.2.2.2.2.2.2.1 + 1)))))))) ≤ slcnt fevM xs := slcnt_get (M := fevM) y;have z : Hid _ := pmark_step (M := fevM) (k := k) y;obtain ⟨g, CA, f, Sj, T, c, hv, l, a, b, cA, s, s1, s2, s3, o, s5, n⟩ := slown_focus K (pmark_at y);simp only [Value.slice.injEq, Option.some.injEq, Addr.mk.injEq, and_true] at hv;obtain ⟨rfl, aA⟩ := hv;obtain ⟨vd, rfl, -, -, -, -, -, -, -, -, A⟩ := fev_own s;obtain ⟨D, C, rfl⟩ := slown_val A;have q0 : wr.cell? ⟨G, j * 9, none⟩ = some (.int .i64 x.1) := by rw [cell_of_row wr G _ f _ (0, 0) a]; exact b 0 (by decide)
   have q1 : wr.cell? ⟨G, j * 9 + 1, none⟩ = some (.int .i64 x.2.1) := by rw [cell_of_row wr G _ f _ (0, 0) a]; exact b 1 (by decide)
   have q2 : wr.cell? ⟨G, j * 9 + 2, none⟩ = some (.int .i64 x.2.2.1) := by rw [cell_of_row wr G _ f _ (0, 0) a]; exact b 2 (by decide)
   have q3 : wr.cell? ⟨G, j * 9 + 3, none⟩ = some (.int .i64 x.2.2.2.1) := by rw [cell_of_row wr G _ f _ (0, 0) a]; exact b 3 (by decide)
   have q4 : wr.cell? ⟨G, j * 9 + 4, none⟩ = some (.int .i64 x.2.2.2.2.1) := by rw [cell_of_row wr G _ f _ (0, 0) a]; exact b 4 (by decide)
   have q5 : wr.cell? ⟨G, j * 9 + 5, none⟩ = some (.int .i64 x.2.2.2.2.2.1) := by rw [cell_of_row wr G _ f _ (0, 0) a]; exact b 5 (by decide)
   have q6 : wr.cell? ⟨G, j * 9 + 6, none⟩ = some (.int .i64 x.2.2.2.2.2.2.1) := by rw [cell_of_row wr G _ f _ (0, 0) a]; exact b 6 (by decide)
   have q7 : wr.cell? ⟨G, j * 9 + 7, none⟩ = some (.slice D x.2.2.2.2.2.2.2.1.length C) := by rw [cell_of_row wr G _ f _ (0, 0) a]; exact b 7 (by decide)
   have q8 : wr.cell? ⟨G, j * 9 + 8, none⟩ = some (.int .i64 x.2.2.2.2.2.2.2.2) := by rw [cell_of_row wr G _ f _ (0, 0) a]; exact b 8 (by decide)
   have r0 : wr.frozen? ⟨G, j * 9, none⟩ = false := frozen_of_row wr G _ _ _ a;have r1 : wr.frozen? ⟨G, j * 9 + 1, none⟩ = false := frozen_of_row wr G _ _ _ a;have r2 : wr.frozen? ⟨G, j * 9 + 2, none⟩ = false := frozen_of_row wr G _ _ _ a;have r3 : wr.frozen? ⟨G, j * 9 + 3, none⟩ = false := frozen_of_row wr G _ _ _ a;have r4 : wr.frozen? ⟨G, j * 9 + 4, none⟩ = false := frozen_of_row wr G _ _ _ a;have r5 : wr.frozen? ⟨G, j * 9 + 5, none⟩ = false := frozen_of_row wr G _ _ _ a;have r6 : wr.frozen? ⟨G, j * 9 + 6, none⟩ = false := frozen_of_row wr G _ _ _ a;have r8 : wr.frozen? ⟨G, j * 9 + 8, none⟩ = false := frozen_of_row wr G _ _ _ a;have O : j * 9 + 8 < f.size := by
    have := b 8 (by decide);exact (Array.getElem?_eq_some_iff.1 (this.trans rfl)).1
   clear aA cA;generalize Y : k + (slcnt fevM (xs.take j) : Int) = kk at z ⊢;have TA : 0 ≤ kk ∧ kk ≤ 576460752303423488 := by omega
   have H : G < wr.heap.size := (ltH a);have y0 := a;have y1 := heap_setCell_same _ G (j * 9) _ _ (.int .i64 (kk)) y0;have y2 := heap_setCell_same _ G (j * 9 + 1) _ _ (.int .i64 (kk + 1)) y1;have y3 := heap_setCell_same _ G (j * 9 + 2) _ _ (.int .i64 (kk + 1 + 1)) y2;have y4 := heap_setCell_same _ G (j * 9 + 3) _ _ (.int .i64 (kk + 1 + 1 + 1)) y3;have y5 := heap_setCell_same _ G (j * 9 + 4) _ _ (.int .i64 (kk + 1 + 1 + 1 + 1)) y4;have y6 := heap_setCell_same _ G (j * 9 + 5) _ _ (.int .i64 (kk + 1 + 1 + 1 + 1 + 1)) y5;have y7 := heap_setCell_same _ G (j * 9 + 6) _ _ (.int .i64 (kk + 1 + 1 + 1 + 1 + 1 + 1)) y6
   have V : Hid (∀ d : World, d.heap[G]? = some (.cells (((((((f.setIfInBounds (j * 9) (.int .i64 (kk))).setIfInBounds (j * 9 + 1) (.int .i64 (kk + 1))).setIfInBounds (j * 9 + 2) (.int .i64 (kk + 1 + 1))).setIfInBounds (j * 9 + 3) (.int .i64 (kk + 1 + 1 + 1))).setIfInBounds (j * 9 + 4) (.int .i64 (kk + 1 + 1 + 1 + 1))).setIfInBounds (j * 9 + 5) (.int .i64 (kk + 1 + 1 + 1 + 1 + 1))).setIfInBounds (j * 9 + 6) (.int .i64 (kk + 1 + 1 + 1 + 1 + 1 + 1))) 123 (0, 0)) → ∃ t, d.cell? ⟨G, j * 9 + 8, none⟩ = some t) := fun d hb => ⟨.int .i64 x.2.2.2.2.2.2.2.2, by
    rw [cell_of_row d G _ _ _ (0, 0) hb, Array.getElem?_setIfInBounds_ne (by omega), Array.getElem?_setIfInBounds_ne (by omega), Array.getElem?_setIfInBounds_ne (by omega), Array.getElem?_setIfInBounds_ne (by omega), Array.getElem?_setIfInBounds_ne (by omega), Array.getElem?_setIfInBounds_ne (by omega), Array.getElem?_setIfInBounds_ne (by omega)]
    exact b 8 (by decide)⟩
   have Z : Hid (∀ d, Chg Sj (((((((wr.setCell ⟨G, j * 9, none⟩ (.int .i64 (kk))).setCell ⟨G, j * 9 + 1, none⟩ (.int .i64 (kk + 1))).setCell ⟨G, j * 9 + 2, none⟩ (.int .i64 (kk + 1 + 1))).setCell ⟨G, j * 9 + 3, none⟩ (.int .i64 (kk + 1 + 1 + 1))).setCell ⟨G, j * 9 + 4, none⟩ (.int .i64 (kk + 1 + 1 + 1 + 1))).setCell ⟨G, j * 9 + 5, none⟩ (.int .i64 (kk + 1 + 1 + 1 + 1 + 1))).setCell ⟨G, j * 9 + 6, none⟩ (.int .i64 (kk + 1 + 1 + 1 + 1 + 1 + 1))) d → d.heap[G]? = some (.cells (((((((f.setIfInBounds (j * 9) (.int .i64 (kk))).setIfInBounds (j * 9 + 1) (.int .i64 (kk + 1))).setIfInBounds (j * 9 + 2) (.int .i64 (kk + 1 + 1))).setIfInBounds (j * 9 + 3) (.int .i64 (kk + 1 + 1 + 1))).setIfInBounds (j * 9 + 4) (.int .i64 (kk + 1 + 1 + 1 + 1))).setIfInBounds (j * 9 + 5) (.int .i64 (kk + 1 + 1 + 1 + 1 + 1))).setIfInBounds (j * 9 + 6) (.int .i64 (kk + 1 + 1 + 1 + 1 + 1 + 1))) 123 (0, 0))) := fun d F => (F.block G (by simpa using H) o).trans y7;have HC : Hid (∀ d, Chg Sj (((((((wr.setCell ⟨G, j * 9, none⟩ (.int .i64 (kk))).setCell ⟨G, j * 9 + 1, none⟩ (.int .i64 (kk + 1))).setCell ⟨G, j * 9 + 2, none⟩ (.int .i64 (kk + 1 + 1))).setCell ⟨G, j * 9 + 3, none⟩ (.int .i64 (kk + 1 + 1 + 1))).setCell ⟨G, j * 9 + 4, none⟩ (.int .i64 (kk + 1 + 1 + 1 + 1))).setCell ⟨G, j * 9 + 5, none⟩ (.int .i64 (kk + 1 + 1 + 1 + 1 + 1))).setCell ⟨G, j * 9 + 6, none⟩ (.int .i64 (kk + 1 + 1 + 1 + 1 + 1 + 1))) d → intsR.own d Sj [.slice D x.2.2.2.2.2.2.2.1.length C] (slmark intM (kk + 1 + 1 + 1 + 1 + 1 + 1 + 1) x.2.2.2.2.2.2.2.1) → fevsR.own (d.setCell ⟨G, j * 9 + 8, none⟩ (.int .i64 (kk + 1 + 1 + 1 + 1 + 1 + 1 + 1 + (slcnt intM x.2.2.2.2.2.2.2.1 : Int)))) S [.slice (some ⟨G, 0, none⟩) xs.length E] (pmark fevM k xs (j + 1)) ∧ Chg S wr (d.setCell ⟨G, j * 9 + 8, none⟩ (.int .i64 (kk + 1 + 1 + 1 + 1 + 1 + 1 + 1 + (slcnt intM x.2.2.2.2.2.2.2.1 : Int))))) := by
    intro d F L;have z0 := Z.out d F;have z1 := heap_setCell_same _ G (j * 9 + 8) _ _ (.int .i64 (kk + 1 + 1 + 1 + 1 + 1 + 1 + 1 + (slcnt intM x.2.2.2.2.2.2.2.1 : Int))) z0;have c1 : Chg S wr (((((((wr.setCell ⟨G, j * 9, none⟩ (.int .i64 (kk))).setCell ⟨G, j * 9 + 1, none⟩ (.int .i64 (kk + 1))).setCell ⟨G, j * 9 + 2, none⟩ (.int .i64 (kk + 1 + 1))).setCell ⟨G, j * 9 + 3, none⟩ (.int .i64 (kk + 1 + 1 + 1))).setCell ⟨G, j * 9 + 4, none⟩ (.int .i64 (kk + 1 + 1 + 1 + 1))).setCell ⟨G, j * 9 + 5, none⟩ (.int .i64 (kk + 1 + 1 + 1 + 1 + 1))).setCell ⟨G, j * 9 + 6, none⟩ (.int .i64 (kk + 1 + 1 + 1 + 1 + 1 + 1))) := chg_cellfev (chg_cellfev (chg_cellfev (chg_cellfev (chg_cellfev (chg_cellfev (chg_cellfev (Chg.refl S wr) l) l) l) l) l) l) l;have c2 := c1.trans (F.mono s1);have c3 : Chg S d (d.setCell ⟨G, j * 9 + 8, none⟩ (.int .i64 (kk + 1 + 1 + 1 + 1 + 1 + 1 + 1 + (slcnt intM x.2.2.2.2.2.2.2.1 : Int)))) := chg_cellfev (Chg.refl S d) l;refine ⟨?_, c2.trans c3⟩;rw [← z.out];have p : intsR.own (d.setCell ⟨G, j * 9 + 8, none⟩ (.int .i64 (kk + 1 + 1 + 1 + 1 + 1 + 1 + 1 + (slcnt intM x.2.2.2.2.2.2.2.1 : Int)))) Sj [.slice D x.2.2.2.2.2.2.2.1.length C] (slmark intM (kk + 1 + 1 + 1 + 1 + 1 + 1 + 1) x.2.2.2.2.2.2.2.1) := own_setC (L) o;refine n (d.setCell ⟨G, j * 9 + 8, none⟩ (.int .i64 (kk + 1 + 1 + 1 + 1 + 1 + 1 + 1 + (slcnt intM x.2.2.2.2.2.2.2.1 : Int)))) _ [.int .i64 (kk), .int .i64 (kk + 1), .int .i64 (kk + 1 + 1), .int .i64 (kk + 1 + 1 + 1), .int .i64 (kk + 1 + 1 + 1 + 1), .int .i64 (kk + 1 + 1 + 1 + 1 + 1), .int .i64 (kk + 1 + 1 + 1 + 1 + 1 + 1), .slice D x.2.2.2.2.2.2.2.1.length C, .int .i64 (kk + 1 + 1 + 1 + 1 + 1 + 1 + 1 + (slcnt intM x.2.2.2.2.2.2.2.1 : Int))] _ Sj S z1 (by simp) ?_ ?_ ?_ (own_fev (in64_fev (by omega) (by omega)) (in64_fev (by omega) (by omega)) (in64_fev (by omega) (by omega)) (in64_fev (by omega) (by omega)) (in64_fev (by omega) (by omega)) (in64_fev (by omega) (by omega)) (in64_fev (by omega) (by omega)) (in64_fev (by omega) (by omega)) p) s3 o l s1 s2
    ·intro i B;rw [show fevR.size = 9 from rfl] at B;rw [Array.getElem?_setIfInBounds_ne (by omega), Array.getElem?_setIfInBounds_ne (by omega), Array.getElem?_setIfInBounds_ne (by omega), Array.getElem?_setIfInBounds_ne (by omega), Array.getElem?_setIfInBounds_ne (by omega), Array.getElem?_setIfInBounds_ne (by omega), Array.getElem?_setIfInBounds_ne (by omega), Array.getElem?_setIfInBounds_ne (by omega)]
    ·intro i B;rw [show fevR.size = 9 from rfl] at B;rw [show j * fevR.size = j * 9 from rfl];have h3 : i = 0 ∨ i = 1 ∨ i = 2 ∨ i = 3 ∨ i = 4 ∨ i = 5 ∨ i = 6 ∨ i = 7 ∨ i = 8 := by omega
     rcases h3 with rfl | rfl | rfl | rfl | rfl | rfl | rfl | rfl | rfl
     ·rw [Array.getElem?_setIfInBounds_ne (by omega), Array.getElem?_setIfInBounds_ne (by omega), Array.getElem?_setIfInBounds_ne (by omega), Array.getElem?_setIfInBounds_ne (by omega), Array.getElem?_setIfInBounds_ne (by omega), Array.getElem?_setIfInBounds_ne (by omega), Array.getElem?_setIfInBounds_ne (by omega)];rw [Nat.add_zero];rw [Array.getElem?_setIfInBounds_self_of_lt (by first | omega | (simp; omega))];rfl
     ·rw [Array.getElem?_setIfInBounds_ne (by omega), Array.getElem?_setIfInBounds_ne (by omega), Array.getElem?_setIfInBounds_ne (by omega), Array.getElem?_setIfInBounds_ne (by omega), Array.getElem?_setIfInBounds_ne (by omega), Array.getElem?_setIfInBounds_ne (by omega)];skip
      rw [Array.getElem?_setIfInBounds_self_of_lt (by first | omega | (simp; omega))];rfl
     ·rw [Array.getElem?_setIfInBounds_ne (by omega), Array.getElem?_setIfInBounds_ne (by omega), Array.getElem?_setIfInBounds_ne (by omega), Array.getElem?_setIfInBounds_ne (by omega), Array.getElem?_setIfInBounds_ne (by omega)];skip
      rw [Array.getElem?_setIfInBounds_self_of_lt (by first | omega | (simp; omega))];rfl
     ·rw [Array.getElem?_setIfInBounds_ne (by omega), Array.getElem?_setIfInBounds_ne (by omega), Array.getElem?_setIfInBounds_ne (by omega), Array.getElem?_setIfInBounds_ne (by omega)];skip
      rw [Array.getElem?_setIfInBounds_self_of_lt (by first | omega | (simp; omega))];rfl
     ·rw [Array.getElem?_setIfInBounds_ne (by omega), Array.getElem?_setIfInBounds_ne (by omega), Array.getElem?_setIfInBounds_ne (by omega)];skip
      rw [Array.getElem?_setIfInBounds_self_of_lt (by first | omega | (simp; omega))];rfl
     ·rw [Array.getElem?_setIfInBounds_ne (by omega), Array.getElem?_setIfInBounds_ne (by omega)];skip
      rw [Array.getElem?_setIfInBounds_self_of_lt (by first | omega | (simp; omega))];rfl
     ·rw [Array.getElem?_setIfInBounds_ne (by omega)];skip
      rw [Array.getElem?_setIfInBounds_self_of_lt (by first | omega | (simp; omega))];rfl
     ·rw [Array.getElem?_setIfInBounds_ne (by omega), Array.getElem?_setIfInBounds_ne (by omega), Array.getElem?_setIfInBounds_ne (by omega), Array.getElem?_setIfInBounds_ne (by omega), Array.getElem?_setIfInBounds_ne (by omega), Array.getElem?_setIfInBounds_ne (by omega), Array.getElem?_setIfInBounds_ne (by omega), Array.getElem?_setIfInBounds_ne (by omega)];exact b 7 (by decide)
     ·skip
      skip
      rw [Array.getElem?_setIfInBounds_self_of_lt (by first | omega | (simp; omega))];rfl
    ·intro i B N;have m : i ≠ G := fun e => s5 (by rw [← e]; exact B);rw [heap_setCell_other _ ⟨G, j * 9 + 8, none⟩ i _ m, F.block i (by simpa using N) (fun y => s3 i y B), heap_setCell_other _ ⟨G, j * 9 + 6, none⟩ i _ m, heap_setCell_other _ ⟨G, j * 9 + 5, none⟩ i _ m, heap_setCell_other _ ⟨G, j * 9 + 4, none⟩ i _ m, heap_setCell_other _ ⟨G, j * 9 + 3, none⟩ i _ m, heap_setCell_other _ ⟨G, j * 9 + 2, none⟩ i _ m, heap_setCell_other _ ⟨G, j * 9 + 1, none⟩ i _ m, heap_setCell_other _ ⟨G, j * 9, none⟩ i _ m]
   have HO : Hid (intsR.own (((((((wr.setCell ⟨G, j * 9, none⟩ (.int .i64 (kk))).setCell ⟨G, j * 9 + 1, none⟩ (.int .i64 (kk + 1))).setCell ⟨G, j * 9 + 2, none⟩ (.int .i64 (kk + 1 + 1))).setCell ⟨G, j * 9 + 3, none⟩ (.int .i64 (kk + 1 + 1 + 1))).setCell ⟨G, j * 9 + 4, none⟩ (.int .i64 (kk + 1 + 1 + 1 + 1))).setCell ⟨G, j * 9 + 5, none⟩ (.int .i64 (kk + 1 + 1 + 1 + 1 + 1))).setCell ⟨G, j * 9 + 6, none⟩ (.int .i64 (kk + 1 + 1 + 1 + 1 + 1 + 1))) Sj [.slice D x.2.2.2.2.2.2.2.1.length C] x.2.2.2.2.2.2.2.1) := own_setC (own_setC (own_setC (own_setC (own_setC (own_setC (own_setC (A) o) o) o) o) o) o) o;clear y K s n b a s1 s2 s3 o s5 z h A O H y0 y1 y2 y3 y4 y5 y6 y7;generalize slcnt fevM (xs.take j) = TT at HT hT Y;go_wp2_with fail
   refine (markInt64S_rep Sj _ _ x.2.2.2.2.2.2.2.1 _ (by omega) (by omega) (by omega) HO.out).mono ?_;rintro e d ⟨rfl, r, gr⟩;have R := Z.out d gr;obtain ⟨p, I⟩ := HC.out d gr r;have J := hs.trans I;have HF : Hid _ := And.intro p J;clear r gr I HC HO p J Z q0 q1 q2 q3 q4 q5 q6 q7 q8 r0 r1 r2 r3 r4 r5 r6 r8;obtain ⟨t8, EA⟩ : ∃ t, d.cell? ⟨G, j * 9 + 8, none⟩ = some t := V.out d R;have r8 : d.frozen? ⟨G, j * 9 + 8, none⟩ = false := frozen_of_row d G _ _ _ R;clear R;go_wp2;go_roundw
   case rel => exact ⟨j + 1, by omega, by go_num, by rw [HT.out]; congr 1; omega, HF.out.1, HF.out.2⟩
   case measure => simp [intOf]; omega
  ·have U : j = xs.length := by omega
   subst U;rw [List.take_length];rw [pmark_all] at K;go_wp2;go_ret
   exact ⟨rfl, K, hs⟩
theorem mkEvents_u : MkC 48 eventsR eventsM cell1 := by
 intro S cs x k w h a hm hb;obtain ⟨v, rfl⟩ := own_cell h;have e : lot = 4398046511104 := rfl;have b : eventsM.cV x = slcnt fevM (x.map flatE) := flat_cnt x;have := markEventS_rep S v k (x.map flatE) w a (by omega) (by omega) ((slown_map ev_own rfl).1 h);rw [b];refine this.mono fun e' w' ⟨q, r, c⟩ => ⟨q, (slown_map ev_own rfl).2 ?_, c⟩;rw [show eventsM.mV k x = slmark eventM k x from rfl, flat_mark];exact r
theorem szInt64SS_rep (a : Option Addr) (xs : List (List Int)) (cap : Nat) (left : Int) (w : World) (h : SlRd intsR w a xs) (h0 : 0 ≤ left) (h1 : left ≤ 1048576) (hm : xs.length ≤ maxLen) :
    Calls Tryz.prog 58 #[.slice a xs.length cap, .int .i64 left] w fun e l => e = .returned (.int .i64 (szI ((slM intsM).bk xs) left)) ∧ l = w := by
 have F : xs.length ≤ 9223372036854775807 := hm;have f : (slM intsM).bk xs = xs.length + sumbk intsM xs := rfl;clear hm;by_cases hl : (xs.length : Int) ≤ left
 ·have s : ¬ (left - (xs.length : Int) < 0) := by omega
  have B : Hid _ := f;clear f;go_enter Tryz.func58, Tryz.ntmps58;go_wp2;go_loop [1, 5] (fun q i => ∃ k : Nat, k ≤ xs.length ∧ i = .int .i64 k ∧ (sumbk intsM (xs.take k) : Int) + xs.length ≤ left ∧ q = .int .i64 (left - (xs.length : Int) - sumbk intsM (xs.take k))) (fun _ i => xs.length - (intOf i).toNat)
  case atStart => exact ⟨0, Nat.zero_le _, rfl, by simp [sumbk]; omega, by simp [sumbk]⟩
  case round =>
   obtain ⟨k, hk, rfl, A, rfl⟩ := hrel;by_cases m : k < xs.length
   ·have E : (k : Int) < (xs.length : Int) := by omega
    obtain ⟨x, j⟩ : ∃ x, xs[k]? = some x := ⟨_, List.getElem?_eq_getElem m⟩;obtain ⟨b, G, c, rfl, ⟨aj, cj, rfl, y, p, g⟩, d⟩ := slrd_at h j;have H := d 0 _ rfl;rw [show k * (intsR).size + 0 = k from Nat.mul_one k] at H;have HR : Hid _ := g;have D : Hid _ := Nat.le_trans y p;have o : Hid _ := sumbk_step (M := intsM) j;have r := sumbk_get (M := intsM) j;clear h j d g;generalize sumbk intsM (xs.take k) = T at A o r ⊢;by_cases C : (((intsM).bk x : Nat) : Int) ≤ left - (xs.length : Int) - (T : Int)
    ·have I : ¬ (left - (xs.length : Int) - (T : Int) - (((intsM).bk x : Nat) : Int) < 0) := by omega
     have n : Hid (szI ((intsM).bk x) (left - (xs.length : Int) - (T : Int)) = _) := szI_yes C;go_wp2_with (go_at_call 106; refine (szInt64S_rep _ x _ _ _ (by omega) (by omega) D.out).mono ?_; rintro e l ⟨rfl, rfl⟩; rw [n.out])
     go_round
     case rel => exact ⟨k + 1, by omega, by go_num, by have := o.out; omega, by rw [o.out]; go_num⟩
     case measure => simp [intOf]; omega
    ·have n : Hid (szI ((intsM).bk x) (left - (xs.length : Int) - (T : Int)) = _) := szI_no C;have v : Hid (szI ((slM intsM).bk xs) left = -1) := by unfold Hid; rw [B.out]; exact szI_no (by omega)
     go_wp2_with (go_at_call 106; refine (szInt64S_rep _ x _ _ _ (by omega) (by omega) D.out).mono ?_; rintro e l ⟨rfl, rfl⟩; rw [n.out])
     go_ret
     exact ⟨ret_int v.out.symm, rfl⟩
   ·have z : k = xs.length := by omega
    subst z;rw [List.take_length] at A ⊢;have v : Hid (szI ((slM intsM).bk xs) left = left - (xs.length : Int) - (sumbk intsM xs : Int)) := by unfold Hid; rw [B.out, szI_yes (by omega)]; omega
    go_wp2;go_ret
    exact ⟨ret_int v.out.symm, rfl⟩
 ·have s : left - (xs.length : Int) < 0 := by omega
  rw [szI_no (by omega)];clear f h;go_enter Tryz.func58, Tryz.ntmps58;go_wp2;go_ret
  exact ⟨rfl, rfl⟩
theorem Tryz.infoInt64SS : (Tryz.prog.info? 37).map (fun i => (i.zero, i.size, i.bytes)) = some (some (.slice none 0 0), 1, 24) := by kernel_rfl
theorem toInt64SS_rep (a : Option Addr) (xs : List (List Int)) (cap : Nat) (w : World) (h : SlRd intsR w a xs) (hm : (slM intsM).bk xs ≤ 1048576) :
    Calls Tryz.prog 64 #[.slice a xs.length cap] w fun e w' => ∃ v, e = .returned v ∧ MadeR (slR 37 intsR) w w' [v] xs := by
 have p : (slM intsM).bk xs = xs.length + sumbk intsM xs := rfl;have L : xs.length ≤ 1048576 := by omega
 have F : Hid (sumbk intsM xs ≤ 1048576) := by unfold Hid; omega
 clear p hm;have s := Go.run_make_row' (P := Tryz.prog) 24 37 (.slice none 0 0) 24 Tryz.underlying24 Tryz.infoInt64SS rfl .i64 .i64 xs.length (by omega) (by omega);go_enter Tryz.func64, Tryz.ntmps64;go_wp2;go_loopw [4] (fun i wr => ∃ k : Nat, k ≤ xs.length ∧ i = .int .i64 k ∧ Fill 37 intsR w wr xs.length (xs.take k)) (fun i _ => xs.length - (intOf i).toNat)
 case atStart => exact ⟨0, Nat.zero_le _, rfl, by simpa using fillR_start (e := 37) (R := intsR) (w0 := w) (n := xs.length) (cs := madeCells #[.slice none 0 0] xs.length) (by unfold maxLen; omega) (by simp [size_madeCells]; exact (Nat.mul_one _).symm)⟩
 case round =>
  obtain ⟨k, hk, rfl, f⟩ := hrel;by_cases g : k < xs.length
  ·have A : (k : Int) < (xs.length : Int) := by omega
   obtain ⟨x, l⟩ : ∃ x, xs[k]? = some x := ⟨_, List.getElem?_eq_getElem g⟩;obtain ⟨b, D, c, rfl, ⟨aj, cj, rfl, K, I, j⟩, d⟩ := slrd_at (slrd_next h (fill_below f)) l;have E := d 0 _ rfl;rw [show k * (intsR).size + 0 = k from Nat.mul_one k] at E;have C : Hid _ := j;have J : Hid ((intsM).bk x ≤ 1048576) := by unfold Hid; have := sumbk_get (M := intsM) l; have := F.out; omega
   have G : Hid (∀ w1 v, MadeR intsR wr w1 [v] x → _) := fun w1 v hm => fillR_step (w1 := w1) (c := [v]) f (by simp; omega) g hm;have H : Hid (xs.take k ++ [x] = xs.take (k + 1)) := by unfold Hid; rw [List.take_add_one, l]; rfl
   clear h l j d s f;go_wp2_with (go_at_call 112; refine (toInt64S_rep _ x _ _ C.out J.out).mono ?_; rintro e w1 ⟨v, rfl, o⟩; obtain ⟨av, cv, rfl⟩ := slown_val o.1; obtain ⟨y, z, m⟩ := G.out _ _ o; obtain ⟨v0, q⟩ := y 0 (Nat.zero_lt_one); have B := z k; rw [show k * (intsR).size + 0 = k from Nat.mul_one k] at q; rw [show k * (intsR).size = k from Nat.mul_one k, H.out] at m; have O : Hid _ := m; clear m o y z)
   go_roundw
   case rel => exact ⟨k + 1, by omega, by go_num, O.out⟩
   case measure => simp [intOf]; omega
  ·have r : k = xs.length := by omega
   subst r;rw [List.take_length] at f;have N := fillR_end f rfl;clear f;go_wp2;go_ret
   exact ⟨_, rfl, N⟩
theorem eqInt64SS_rep (a1 a2 : Option Addr) (xs : List (List Int)) (c1 y : Nat) (w : World) (h1 : SlRd intsR w a1 xs) (h2 : SlRd intsR w a2 xs) (hm : (slM intsM).bk xs ≤ 1152921504606846976) :
    Calls Tryz.prog 78 #[.slice a1 xs.length c1, .slice a2 xs.length y] w fun e w' => e = .returned (.bool true) ∧ ∃ n, w' = w.drewN n := by
 have r : (slM intsM).bk xs = xs.length + sumbk intsM xs := rfl;have O : xs.length ≤ 1152921504606846976 := by omega
 have G : Hid (sumbk intsM xs ≤ 1152921504606846976) := by unfold Hid; omega
 clear r hm;go_enter Tryz.func78, Tryz.ntmps78;go_wp2;go_loopw [5] (fun i wr => ∃ k : Nat, k ≤ xs.length ∧ i = .int .i64 k ∧ ∃ n, wr = w.drewN n) (fun i _ => xs.length - (intOf i).toNat)
 case atStart => exact ⟨0, Nat.zero_le _, rfl, 0, rfl⟩
 case round =>
  obtain ⟨k, hk, rfl, n, m⟩ := hrel;by_cases p : k < xs.length
  ·have A : (k : Int) < (xs.length : Int) := by omega
   obtain ⟨x, l⟩ : ∃ x, xs[k]? = some x := ⟨_, List.getElem?_eq_getElem p⟩;have o : ∀ j, j < w.heap.size → wr.heap[j]? = w.heap[j]? := by rw [m]; exact fun _ _ => rfl
   obtain ⟨b, C, c, rfl, ⟨K, cj, rfl, N, J, g⟩, d⟩ := slrd_at (slrd_keep h1 o) l;obtain ⟨b2, z, y, rfl, ⟨s, I, rfl, E, B, f⟩, a⟩ := slrd_at (slrd_keep h2 o) l;have F := d 0 _ rfl;have H := a 0 _ rfl;rw [show k * (intsR).size + 0 = k from Nat.mul_one k] at F H;have R : Hid (∀ q, SlRd _ (wr.drewN q) K x) := fun q => slrd_keep g (fun _ _ => rfl);have v : Hid (∀ q, SlRd _ (wr.drewN q) s x) := fun q => slrd_keep f (fun _ _ => rfl);have L : Hid ((intsM).bk x ≤ 1152921504606846976) := by unfold Hid; have := sumbk_get (M := intsM) l; have := G.out; omega
   have D : Hid (wr = w.drewN n) := m;clear h1 h2 l g f d a m o;go_wp2_with fail
   go_quiet (first | (go_at_call 11; exact Calls.quiet_of (eqInt64S_rep _ _ x _ _ _ (R.out _) (v.out _) L.out)))
   go_wp2;go_roundw
   case rel => exact ⟨k + 1, by omega, by go_num, n + nq, by rw [D.out, World.drewN_drewN]⟩
   case measure => simp [intOf]; omega
  ·go_wp2;go_ret
   first | exact ⟨rfl, _, rfl⟩ | exact ⟨rfl, _, m⟩
theorem markInt64SS_nil (k : Int) (w : World) :
    Calls Tryz.prog 84 #[.slice none 0 0, .int .i64 k] w fun e' w' => e' = .returned (.int .i64 k) ∧ w' = w := by
 go_enter Tryz.func84, Tryz.ntmps84;go_wp2;refine wp_loop_rounds 1 ?_;rw [rounds_succ];go_wp2;go_ret
 exact ⟨rfl, rfl⟩
theorem markInt64SS_rep (S : Foot) (v : Value) (k : Int) (xs : List (List Int)) (w : World) (h0 : 0 ≤ k) (h1 : k ≤ 576460752303423488) (hm : slcnt intsM xs ≤ 576460752303423488) (hln : xs.length ≤ 576460752303423488) (h : (slR 37 intsR).own w S [v] xs) :
    Calls Tryz.prog 84 #[v, .int .i64 k] w fun e' d => e' = .returned (.int .i64 (k + slcnt intsM xs)) ∧ (slR 37 intsR).own d S [v] (slmark intsM k xs) ∧ Chg S w d := by
 rcases slown_form h with ⟨rfl, rfl⟩ | ⟨G, n, rfl, hG⟩
 ·exact (markInt64SS_nil k w).mono fun e d ⟨e1, e2⟩ => ⟨by simpa [slcnt] using e1, by rw [e2]; exact h, by rw [e2]; exact Chg.refl _ _⟩
 go_enter Tryz.func84, Tryz.ntmps84;go_wp2;go_loopw [1, 5] (fun q i wr => ∃ j : Nat, j ≤ xs.length ∧ i = .int .i64 j ∧ q = .int .i64 (k + slcnt intsM (xs.take j)) ∧ (slR 37 intsR).own wr S [.slice (some ⟨G, 0, none⟩) xs.length n] (pmark intsM k xs j) ∧ Chg S w wr)
  (fun _ i _ => xs.length - (intOf i).toNat)
 case atStart => exact ⟨0, Nat.zero_le _, rfl, by simp [slcnt], by rw [pmark_zero]; exact h, Chg.refl _ _⟩
 case round =>
  obtain ⟨j, hj, rfl, rfl, y, Z⟩ := hrel;by_cases B : j < xs.length
  ·have bA : (j : Int) < (xs.length : Int) := by omega
   obtain ⟨x, o⟩ : ∃ x, xs[j]? = some x := ⟨_, List.getElem?_eq_getElem B⟩;have V : Hid (slcnt intsM (xs.take (j + 1)) = slcnt intsM (xs.take j) + slcnt intM x) := slcnt_step (M := intsM) o;have hT : slcnt intsM (xs.take j) + slcnt intM x ≤ slcnt intsM xs := slcnt_get (M := intsM) o;have s : Hid _ := pmark_step (M := intsM) (k := k) o;obtain ⟨g, dA, p, Sj, T, c, X, R, a, b, r, l, K, s2, H, O, s5, f⟩ := slown_focus y (pmark_at o);obtain ⟨Y, rfl⟩ : ∃ Y, c = [Y] := List.length_eq_one_iff.1 r;obtain ⟨L, E, rfl⟩ := slown_val l;simp only [Value.slice.injEq, Option.some.injEq, Addr.mk.injEq, and_true] at X;obtain ⟨rfl, I⟩ := X;clear I r;have q1 : wr.cell? ⟨G, j, none⟩ = some (.slice L x.length E) := by
    rw [cell_of_row wr G j p _ (0, 0) a];have := b 0 Nat.zero_lt_one;rwa [show j * (intsR).size + 0 = j from Nat.mul_one j] at this
   have HO : Hid _ := l;have U : Hid (∀ d, Chg Sj wr d → (intsR).own d Sj [.slice L x.length E] (slmark intM (k + slcnt intsM (xs.take j)) x) → (slR 37 intsR).own d S [.slice (some ⟨G, 0, none⟩) xs.length n] (pmark intsM k xs (j + 1))) := by
    intro d hc C;rw [← s.out];have z : G < wr.heap.size := (ltH a);exact f d p [.slice L x.length E] _ Sj S (by rw [hc.block G z O]; exact a) rfl (fun _ _ => rfl) b (hc.keeps H.symm) C H O R K s2
   have F : Hid _ := K;clear o y l f b a s2 H O s5 K s h;generalize slcnt intsM (xs.take j) = T at V hT U ⊢;go_wp2_with (go_at_call 14; refine (markInt64S_rep Sj _ _ x _ (by omega) (by omega) (by omega) HO.out).mono ?_; rintro e d ⟨rfl, m, J⟩)
   have D := U.out d J m;have N := Z.trans (J.mono F.out);clear m J;go_roundw
   case rel => exact ⟨j + 1, by omega, by go_num, by rw [V.out]; go_num, D, N⟩
   case measure => simp [intOf]; omega
  ·have A : j = xs.length := by omega
   subst A;rw [List.take_length];rw [pmark_all] at y;go_wp2;go_ret
   exact ⟨rfl, y, Z⟩
end Go.Proofs.YtcocbafhcpdheaaGreatDoor
