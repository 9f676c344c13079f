import Derived.Test.YtcocbafhcpdheaaGreatDoorS00Box
import Derived.Test.YtcocbafhcpdheaaGreatDoorS14EventsL
namespace Go.Proofs.YtcocbafhcpdheaaGreatDoor
set_option maxHeartbeats 4000000
open Go.ChangeShapes Go.WideShapes Go.ChangeAt Go.RowKit
set_option linter.unusedVariables false
abbrev FevD := Int × Int × Int × Int × Int × Int × Int × List Int × Int
abbrev fevR : Rep FevD := prodR intR (prodR intR (prodR intR (prodR intR (prodR intR (prodR intR (prodR intR (prodR intsR intR)))))))
abbrev fevM : Mk FevD := prodM intM (prodM intM (prodM intM (prodM intM (prodM intM (prodM intM (prodM intM (prodM intsM intM)))))))
abbrev fevsR : Rep (List FevD) := slR 123 fevR
theorem fev_own {w : World} {S : Foot} {cs : List Value} {u : FevD} (h : fevR.own w S cs u) :
    ∃ v, cs = [.int .i64 u.1, .int .i64 u.2.1, .int .i64 u.2.2.1, .int .i64 u.2.2.2.1, .int .i64 u.2.2.2.2.1, .int .i64 u.2.2.2.2.2.1, .int .i64 u.2.2.2.2.2.2.1, v, .int .i64 u.2.2.2.2.2.2.2.2] ∧ In64 u.1 ∧ In64 u.2.1 ∧ In64 u.2.2.1 ∧ In64 u.2.2.2.1 ∧ In64 u.2.2.2.2.1 ∧ In64 u.2.2.2.2.2.1 ∧ In64 u.2.2.2.2.2.2.1 ∧ In64 u.2.2.2.2.2.2.2.2 ∧ intsR.own w S [v] u.2.2.2.2.2.2.2.1 := by
 obtain ⟨c0, e0, S0, T0, rfl, ⟨rfl, b⟩, ⟨c1, e1, S1, T1, rfl, ⟨rfl, p⟩, ⟨c2, e2, S2, T2, rfl, ⟨rfl, i⟩, ⟨c3, e3, S3, T3, rfl, ⟨rfl, l⟩, ⟨c4, e4, S4, T4, rfl, ⟨rfl, c⟩, ⟨c5, e5, S5, T5, rfl, ⟨rfl, s⟩, ⟨c6, e6, S6, T6, rfl, ⟨rfl, m⟩, ⟨g, e7, S7, T7, rfl, a, ⟨rfl, d⟩, q, q7, d7⟩, p6, r, d6⟩, p5, n, d5⟩, p4, f, d4⟩, p3, z, d3⟩, p2, k, d2⟩, p1, y, d1⟩, p0, o, d0⟩ := h;have j := intsR.rd_len (intsR.own_rd a);obtain ⟨v, rfl⟩ : ∃ v, g = [v] := List.length_eq_one_iff.1 j;exact ⟨v, rfl, b, p, i, l, c, s, m, d, intsR.own_mono a ((((((((q).trans r).trans n).trans f).trans z).trans k).trans y).trans o)⟩
theorem own_fev {w : World} {S : Foot} {f0 f1 f2 f3 f4 f5 f6 f8 : Int} {d : List Int} {v : Value} (i0 : In64 f0) (i1 : In64 f1) (i2 : In64 f2) (i3 : In64 f3) (i4 : In64 f4) (i5 : In64 f5) (i6 : In64 f6) (i8 : In64 f8) (h : intsR.own w S [v] d) : fevR.own w S [.int .i64 f0, .int .i64 f1, .int .i64 f2, .int .i64 f3, .int .i64 f4, .int .i64 f5, .int .i64 f6, v, .int .i64 f8] (f0, f1, f2, f3, f4, f5, f6, d, f8) :=
 ⟨[_], [_, _, _, _, _, _, _, _], fun _ => False, S, rfl, ⟨rfl, i0⟩, ⟨[_], [_, _, _, _, _, _, _], fun _ => False, S, rfl, ⟨rfl, i1⟩, ⟨[_], [_, _, _, _, _, _], fun _ => False, S, rfl, ⟨rfl, i2⟩, ⟨[_], [_, _, _, _, _], fun _ => False, S, rfl, ⟨rfl, i3⟩, ⟨[_], [_, _, _, _], fun _ => False, S, rfl, ⟨rfl, i4⟩, ⟨[_], [_, _, _], fun _ => False, S, rfl, ⟨rfl, i5⟩, ⟨[_], [_, _], fun _ => False, S, rfl, ⟨rfl, i6⟩, ⟨[_], [_], S, fun _ => False, rfl, h, ⟨rfl, i8⟩, Sub.refl _, fun _ h => h.elim, fun _ _ h => h⟩, fun _ h => h.elim, Sub.refl _, fun _ h _ => h⟩, fun _ h => h.elim, Sub.refl _, fun _ h _ => h⟩, fun _ h => h.elim, Sub.refl _, fun _ h _ => h⟩, fun _ h => h.elim, Sub.refl _, fun _ h _ => h⟩, fun _ h => h.elim, Sub.refl _, fun _ h _ => h⟩, fun _ h => h.elim, Sub.refl _, fun _ h _ => h⟩, fun _ h => h.elim, Sub.refl _, fun _ h _ => h⟩
def flatE (u : EventD) : FevD := (u.1, u.2.1.1, u.2.1.2.1, u.2.1.2.2.1, u.2.1.2.2.2, u.2.2.1, u.2.2.2.1, u.2.2.2.2.1, u.2.2.2.2.2)
theorem ev_own {w : World} {S : Foot} {cs : List Value} {u : EventD} : eventR.own w S cs u ↔ fevR.own w S cs (flatE u) := by
 constructor
 ·intro h;obtain ⟨v1, v2, v3, v4, v7, S1, S4, rfl, a, d, g, k, n, j, s1, m, -⟩ := event_own h;obtain ⟨l, b, c, f, i⟩ := op_rd (opR.own_rd n);simp only [List.cons.injEq, and_true] at l;obtain ⟨rfl, rfl, rfl, rfl⟩ := l;exact own_fev a b c f i d g k (intsR.own_mono j m)
 ·intro h;obtain ⟨v, rfl, a, b, c, f, i, d, g, k, j⟩ := fev_own h;exact own_event a d g k (own_op (S := fun _ => False) (u := u.2.1) ⟨b, c, f, i⟩) j (fun _ h => h.elim) (Sub.refl _) (fun _ h _ => h)
theorem lown_map {α β : Type} {R : Rep α} {Q : Rep β} {f : α → β} (h : ∀ {w : World} {S : Foot} {cs : List Value} {x : α}, R.own w S cs x ↔ Q.own w S cs (f x)) {w : World} : ∀ {S : Foot} {cs : List Value} {xs : List α}, lown R w S cs xs ↔ lown Q w S cs (xs.map f)
 | _, _, [] => Iff.rfl
 | S, cs, x :: xs => ⟨fun ⟨c1, c2, S1, S2, e, h1, h2, r⟩ => ⟨c1, c2, S1, S2, e, h.1 h1, (lown_map h).1 h2, r⟩, fun ⟨c1, c2, S1, S2, e, h1, h2, r⟩ => ⟨c1, c2, S1, S2, e, h.2 h1, (lown_map h).2 h2, r⟩⟩
theorem slown_map {α β : Type} {e : TypeId} {R : Rep α} {Q : Rep β} {f : α → β} (h : ∀ {w : World} {S : Foot} {cs : List Value} {x : α}, R.own w S cs x ↔ Q.own w S cs (f x)) (hs : R.size = Q.size) {w : World} {S : Foot} {cs : List Value} {xs : List α} : (slR e R).own w S cs xs ↔ (slR e Q).own w S cs (xs.map f) := by
 constructor
 ·rintro ⟨v, a, b, c, r, g, s, l⟩;exact ⟨v, a, b, c, by rw [List.length_map, ← hs]; exact r, g, s, (lown_map h).1 l⟩
 ·rintro ⟨v, a, b, c, r, g, s, l⟩;exact ⟨v, a, b, c, by rw [List.length_map, ← hs] at r; exact r, g, s, (lown_map h).2 l⟩
theorem flat_cE (x : EventD) : eventM.cE x = fevM.cE (flatE x) := by
 show 1 + ((1 + (1 + (1 + 1))) + (1 + (1 + (slcnt intM x.2.2.2.2.1 + 1)))) = 1 + (1 + (1 + (1 + (1 + (1 + (1 + (slcnt intM x.2.2.2.2.1 + 1)))))))
 omega
theorem flat_mE (k : Int) (x : EventD) : flatE (eventM.mE k x) = fevM.mE k (flatE x) := by
 refine Prod.ext rfl (Prod.ext rfl (Prod.ext rfl (Prod.ext rfl (Prod.ext rfl (Prod.ext ?_ (Prod.ext ?_ (Prod.ext ?_ ?_)))))))
 ·show k + ((1 : Nat) : Int) + ((1 + (1 + (1 + 1)) : Nat) : Int) = k + ((1 : Nat) : Int) + ((1 : Nat) : Int) + ((1 : Nat) : Int) + ((1 : Nat) : Int) + ((1 : Nat) : Int)
  omega
 ·show k + ((1 : Nat) : Int) + ((1 + (1 + (1 + 1)) : Nat) : Int) + ((1 : Nat) : Int) = k + ((1 : Nat) : Int) + ((1 : Nat) : Int) + ((1 : Nat) : Int) + ((1 : Nat) : Int) + ((1 : Nat) : Int) + ((1 : Nat) : Int)
  omega
 ·show slmark intM (k + ((1 : Nat) : Int) + ((1 + (1 + (1 + 1)) : Nat) : Int) + ((1 : Nat) : Int) + ((1 : Nat) : Int)) x.2.2.2.2.1 = slmark intM (k + ((1 : Nat) : Int) + ((1 : Nat) : Int) + ((1 : Nat) : Int) + ((1 : Nat) : Int) + ((1 : Nat) : Int) + ((1 : Nat) : Int) + ((1 : Nat) : Int)) x.2.2.2.2.1
  congr 1
  omega
 ·show k + ((1 : Nat) : Int) + ((1 + (1 + (1 + 1)) : Nat) : Int) + ((1 : Nat) : Int) + ((1 : Nat) : Int) + ((slcnt intM x.2.2.2.2.1 : Nat) : Int) = k + ((1 : Nat) : Int) + ((1 : Nat) : Int) + ((1 : Nat) : Int) + ((1 : Nat) : Int) + ((1 : Nat) : Int) + ((1 : Nat) : Int) + ((1 : Nat) : Int) + ((slcnt intM x.2.2.2.2.1 : Nat) : Int)
  omega
theorem flat_cnt (xs : List EventD) : slcnt eventM xs = slcnt fevM (xs.map flatE) := by
 unfold slcnt;rw [List.map_map];congr 1
 exact List.map_congr_left fun x _ => flat_cE x
theorem flat_mark : ∀ (k : Int) (xs : List EventD), (slmark eventM k xs).map flatE = slmark fevM k (xs.map flatE)
 | _, [] => rfl
 | k, x :: xs => by
  show flatE (eventM.mE k x) :: (slmark eventM (k + (eventM.cE x : Int)) xs).map flatE = fevM.mE k (flatE x) :: slmark fevM (k + (fevM.cE (flatE x) : Int)) (xs.map flatE)
  rw [flat_mE, flat_mark, flat_cE]
theorem chg_cellfev {S : Foot} {w W : World} {g o : Nat} {v : Value} (h : Chg S w W) (hg : S g) : Chg S w (W.setCell ⟨g, o, none⟩ v) :=
 ⟨h.os, h.tape, h.output, by have := h.size; simpa using this, fun k hk hn => by rw [heap_setCell_other _ ⟨g, o, none⟩ k _ (fun e => hn (by rw [e]; exact hg))]; exact h.block k hk hn⟩
theorem in64_fev {k : Int} (h0 : 0 ≤ k) (h1 : k ≤ 1152921504606846976) : In64 k := by constructor <;> omega
theorem cnt_fev (x : FevD) : fevM.cE x = (1 + (1 + (1 + (1 + (1 + (1 + (1 + (slcnt intM x.2.2.2.2.2.2.2.1 + 1)))))))) := rfl
theorem cnt_fevs (xs : List FevD) : xs.length ≤ slcnt fevM xs := by
 induction xs with
 | nil => exact Nat.zero_le _
 | cons x xs ih =>
  simp only [slcnt, List.map_cons, List.sum_cons, List.length_cons] at ih ⊢;have := cnt_fev x;omega
theorem markEventS_nil (k : Int) (w : World) :
    Calls Tryz.prog 48 #[.slice none 0 0, .int .i64 k] w fun e' w' => e' = .returned (.int .i64 k) ∧ w' = w := by
 go_enter Tryz.func48, Tryz.ntmps48;go_wp2;refine wp_loop_rounds 1 ?_;rw [rounds_succ];go_wp2;go_ret
 exact ⟨rfl, rfl⟩
theorem markEventS_rep (S : Foot) (v : Value) (k : Int) (xs : List FevD) (w : World) (h0 : 0 ≤ k) (h1 : k ≤ 288230376151711744) (hm : slcnt fevM xs ≤ 288230376151711744) (h : fevsR.own w S [v] xs) :
    Calls Tryz.prog 48 #[v, .int .i64 k] w fun e' w' => e' = .returned (.int .i64 (k + slcnt fevM xs)) ∧ fevsR.own w' S [v] (slmark fevM k xs) ∧ Chg S w w' := by
 have hln := cnt_fevs xs;rcases slown_form h with ⟨rfl, rfl⟩ | ⟨G, cap, rfl, hG⟩
 ·exact (markEventS_nil k w).mono fun e w' ⟨e1, e2⟩ => ⟨by simpa [slcnt] using e1, by rw [e2]; exact h, by rw [e2]; exact Chg.refl _ _⟩
 go_enter Tryz.func48, Tryz.ntmps48;go_wp2;go_loopw [1, 5] (fun q i wr => ∃ j : Nat, j ≤ xs.length ∧ i = .int .i64 j ∧ q = .int .i64 (k + slcnt fevM (xs.take j)) ∧ fevsR.own wr S [.slice (some ⟨G, 0, none⟩) xs.length cap] (pmark fevM k xs j) ∧ Chg S w wr)
  (fun _ i _ => xs.length - (intOf i).toNat)
 case atStart => exact ⟨0, Nat.zero_le _, rfl, by simp [slcnt], by rw [pmark_zero]; exact h, Chg.refl _ _⟩
 case round =>
  obtain ⟨j, hj, rfl, rfl, ho, hs⟩ := hrel;by_cases hlt : j < xs.length
  ·have hlt' : (j : Int) < (xs.length : Int) := by omega
   obtain ⟨x, hx⟩ : ∃ x, xs[j]? = some x := ⟨_, List.getElem?_eq_getElem hlt⟩;have HT : Hid (slcnt fevM (xs.take (j + 1)) = slcnt fevM (xs.take j) + (1 + (1 + (1 + (1 + (1 + (1 + (1 + (slcnt intM x.2.2.2.2.2.2.2.1 + 1))))))))) := slcnt_step (M := fevM) hx;have hT : slcnt fevM (xs.take j) + (1 + (1 + (1 + (1 + (1 + (1 + (1 + (slcnt intM x.2.2.2.2.2.2.2.1 + 1)))))))) ≤ slcnt fevM xs := slcnt_get (M := fevM) hx;have HPS : Hid _ := pmark_step (M := fevM) (k := k) hx;obtain ⟨g, cap', cur, Sj, T, c, hv, hSg, hblk, hcur, hcl, hown, s1, s2, s3, s4, s5, close⟩ := slown_focus ho (pmark_at hx);simp only [Value.slice.injEq, Option.some.injEq, Addr.mk.injEq, and_true] at hv;obtain ⟨rfl, hvx⟩ := hv;obtain ⟨vd, rfl, -, -, -, -, -, -, -, -, hod⟩ := fev_own hown;obtain ⟨av, cv, rfl⟩ := slown_val hod;have q0 : wr.cell? ⟨G, j * 9, none⟩ = some (.int .i64 x.1) := by rw [cell_of_row wr G _ cur _ (0, 0) hblk]; exact hcur 0 (by decide)
   have q1 : wr.cell? ⟨G, j * 9 + 1, none⟩ = some (.int .i64 x.2.1) := by rw [cell_of_row wr G _ cur _ (0, 0) hblk]; exact hcur 1 (by decide)
   have q2 : wr.cell? ⟨G, j * 9 + 2, none⟩ = some (.int .i64 x.2.2.1) := by rw [cell_of_row wr G _ cur _ (0, 0) hblk]; exact hcur 2 (by decide)
   have q3 : wr.cell? ⟨G, j * 9 + 3, none⟩ = some (.int .i64 x.2.2.2.1) := by rw [cell_of_row wr G _ cur _ (0, 0) hblk]; exact hcur 3 (by decide)
   have q4 : wr.cell? ⟨G, j * 9 + 4, none⟩ = some (.int .i64 x.2.2.2.2.1) := by rw [cell_of_row wr G _ cur _ (0, 0) hblk]; exact hcur 4 (by decide)
   have q5 : wr.cell? ⟨G, j * 9 + 5, none⟩ = some (.int .i64 x.2.2.2.2.2.1) := by rw [cell_of_row wr G _ cur _ (0, 0) hblk]; exact hcur 5 (by decide)
   have q6 : wr.cell? ⟨G, j * 9 + 6, none⟩ = some (.int .i64 x.2.2.2.2.2.2.1) := by rw [cell_of_row wr G _ cur _ (0, 0) hblk]; exact hcur 6 (by decide)
   have q7 : wr.cell? ⟨G, j * 9 + 7, none⟩ = some (.slice av x.2.2.2.2.2.2.2.1.length cv) := by rw [cell_of_row wr G _ cur _ (0, 0) hblk]; exact hcur 7 (by decide)
   have q8 : wr.cell? ⟨G, j * 9 + 8, none⟩ = some (.int .i64 x.2.2.2.2.2.2.2.2) := by rw [cell_of_row wr G _ cur _ (0, 0) hblk]; exact hcur 8 (by decide)
   have r0 : wr.frozen? ⟨G, j * 9, none⟩ = false := frozen_of_row wr G _ _ _ hblk;have r1 : wr.frozen? ⟨G, j * 9 + 1, none⟩ = false := frozen_of_row wr G _ _ _ hblk;have r2 : wr.frozen? ⟨G, j * 9 + 2, none⟩ = false := frozen_of_row wr G _ _ _ hblk;have r3 : wr.frozen? ⟨G, j * 9 + 3, none⟩ = false := frozen_of_row wr G _ _ _ hblk;have r4 : wr.frozen? ⟨G, j * 9 + 4, none⟩ = false := frozen_of_row wr G _ _ _ hblk;have r5 : wr.frozen? ⟨G, j * 9 + 5, none⟩ = false := frozen_of_row wr G _ _ _ hblk;have r6 : wr.frozen? ⟨G, j * 9 + 6, none⟩ = false := frozen_of_row wr G _ _ _ hblk;have r8 : wr.frozen? ⟨G, j * 9 + 8, none⟩ = false := frozen_of_row wr G _ _ _ hblk;have hcs : j * 9 + 8 < cur.size := by
    have := hcur 8 (by decide);exact (Array.getElem?_eq_some_iff.1 (this.trans rfl)).1
   clear hvx hcl;generalize hkk : k + (slcnt fevM (xs.take j) : Int) = kk at HPS ⊢;have hk0 : 0 ≤ kk ∧ kk ≤ 576460752303423488 := by omega
   have hlg : G < wr.heap.size := (ltH hblk);have y0 := hblk;have y1 := heap_setCell_same _ G (j * 9) _ _ (.int .i64 (kk)) y0;have y2 := heap_setCell_same _ G (j * 9 + 1) _ _ (.int .i64 (kk + 1)) y1;have y3 := heap_setCell_same _ G (j * 9 + 2) _ _ (.int .i64 (kk + 1 + 1)) y2;have y4 := heap_setCell_same _ G (j * 9 + 3) _ _ (.int .i64 (kk + 1 + 1 + 1)) y3;have y5 := heap_setCell_same _ G (j * 9 + 4) _ _ (.int .i64 (kk + 1 + 1 + 1 + 1)) y4;have y6 := heap_setCell_same _ G (j * 9 + 5) _ _ (.int .i64 (kk + 1 + 1 + 1 + 1 + 1)) y5;have y7 := heap_setCell_same _ G (j * 9 + 6) _ _ (.int .i64 (kk + 1 + 1 + 1 + 1 + 1 + 1)) y6
   have HX8 : Hid (∀ w' : World, w'.heap[G]? = some (.cells (((((((cur.setIfInBounds (j * 9) (.int .i64 (kk))).setIfInBounds (j * 9 + 1) (.int .i64 (kk + 1))).setIfInBounds (j * 9 + 2) (.int .i64 (kk + 1 + 1))).setIfInBounds (j * 9 + 3) (.int .i64 (kk + 1 + 1 + 1))).setIfInBounds (j * 9 + 4) (.int .i64 (kk + 1 + 1 + 1 + 1))).setIfInBounds (j * 9 + 5) (.int .i64 (kk + 1 + 1 + 1 + 1 + 1))).setIfInBounds (j * 9 + 6) (.int .i64 (kk + 1 + 1 + 1 + 1 + 1 + 1))) 123 (0, 0)) → ∃ t, w'.cell? ⟨G, j * 9 + 8, none⟩ = some t) := fun w' hb => ⟨.int .i64 x.2.2.2.2.2.2.2.2, by
    rw [cell_of_row w' G _ _ _ (0, 0) hb, Array.getElem?_setIfInBounds_ne (by omega), Array.getElem?_setIfInBounds_ne (by omega), Array.getElem?_setIfInBounds_ne (by omega), Array.getElem?_setIfInBounds_ne (by omega), Array.getElem?_setIfInBounds_ne (by omega), Array.getElem?_setIfInBounds_ne (by omega), Array.getElem?_setIfInBounds_ne (by omega)]
    exact hcur 8 (by decide)⟩
   have HB : Hid (∀ w', Chg Sj (((((((wr.setCell ⟨G, j * 9, none⟩ (.int .i64 (kk))).setCell ⟨G, j * 9 + 1, none⟩ (.int .i64 (kk + 1))).setCell ⟨G, j * 9 + 2, none⟩ (.int .i64 (kk + 1 + 1))).setCell ⟨G, j * 9 + 3, none⟩ (.int .i64 (kk + 1 + 1 + 1))).setCell ⟨G, j * 9 + 4, none⟩ (.int .i64 (kk + 1 + 1 + 1 + 1))).setCell ⟨G, j * 9 + 5, none⟩ (.int .i64 (kk + 1 + 1 + 1 + 1 + 1))).setCell ⟨G, j * 9 + 6, none⟩ (.int .i64 (kk + 1 + 1 + 1 + 1 + 1 + 1))) w' → w'.heap[G]? = some (.cells (((((((cur.setIfInBounds (j * 9) (.int .i64 (kk))).setIfInBounds (j * 9 + 1) (.int .i64 (kk + 1))).setIfInBounds (j * 9 + 2) (.int .i64 (kk + 1 + 1))).setIfInBounds (j * 9 + 3) (.int .i64 (kk + 1 + 1 + 1))).setIfInBounds (j * 9 + 4) (.int .i64 (kk + 1 + 1 + 1 + 1))).setIfInBounds (j * 9 + 5) (.int .i64 (kk + 1 + 1 + 1 + 1 + 1))).setIfInBounds (j * 9 + 6) (.int .i64 (kk + 1 + 1 + 1 + 1 + 1 + 1))) 123 (0, 0))) := fun w' hc => (hc.block G (by simpa using hlg) s4).trans y7;have HC : Hid (∀ w', Chg Sj (((((((wr.setCell ⟨G, j * 9, none⟩ (.int .i64 (kk))).setCell ⟨G, j * 9 + 1, none⟩ (.int .i64 (kk + 1))).setCell ⟨G, j * 9 + 2, none⟩ (.int .i64 (kk + 1 + 1))).setCell ⟨G, j * 9 + 3, none⟩ (.int .i64 (kk + 1 + 1 + 1))).setCell ⟨G, j * 9 + 4, none⟩ (.int .i64 (kk + 1 + 1 + 1 + 1))).setCell ⟨G, j * 9 + 5, none⟩ (.int .i64 (kk + 1 + 1 + 1 + 1 + 1))).setCell ⟨G, j * 9 + 6, none⟩ (.int .i64 (kk + 1 + 1 + 1 + 1 + 1 + 1))) w' → intsR.own w' Sj [.slice av x.2.2.2.2.2.2.2.1.length cv] (slmark intM (kk + 1 + 1 + 1 + 1 + 1 + 1 + 1) x.2.2.2.2.2.2.2.1) → fevsR.own (w'.setCell ⟨G, j * 9 + 8, none⟩ (.int .i64 (kk + 1 + 1 + 1 + 1 + 1 + 1 + 1 + (slcnt intM x.2.2.2.2.2.2.2.1 : Int)))) S [.slice (some ⟨G, 0, none⟩) xs.length cap] (pmark fevM k xs (j + 1)) ∧ Chg S wr (w'.setCell ⟨G, j * 9 + 8, none⟩ (.int .i64 (kk + 1 + 1 + 1 + 1 + 1 + 1 + 1 + (slcnt intM x.2.2.2.2.2.2.2.1 : Int))))) := by
    intro w' hc ho';have z0 := HB.out w' hc;have z1 := heap_setCell_same _ G (j * 9 + 8) _ _ (.int .i64 (kk + 1 + 1 + 1 + 1 + 1 + 1 + 1 + (slcnt intM x.2.2.2.2.2.2.2.1 : Int))) z0;have c1 : Chg S wr (((((((wr.setCell ⟨G, j * 9, none⟩ (.int .i64 (kk))).setCell ⟨G, j * 9 + 1, none⟩ (.int .i64 (kk + 1))).setCell ⟨G, j * 9 + 2, none⟩ (.int .i64 (kk + 1 + 1))).setCell ⟨G, j * 9 + 3, none⟩ (.int .i64 (kk + 1 + 1 + 1))).setCell ⟨G, j * 9 + 4, none⟩ (.int .i64 (kk + 1 + 1 + 1 + 1))).setCell ⟨G, j * 9 + 5, none⟩ (.int .i64 (kk + 1 + 1 + 1 + 1 + 1))).setCell ⟨G, j * 9 + 6, none⟩ (.int .i64 (kk + 1 + 1 + 1 + 1 + 1 + 1))) := chg_cellfev (chg_cellfev (chg_cellfev (chg_cellfev (chg_cellfev (chg_cellfev (chg_cellfev (Chg.refl S wr) hSg) hSg) hSg) hSg) hSg) hSg) hSg;have c2 := c1.trans (hc.mono s1);have c3 : Chg S w' (w'.setCell ⟨G, j * 9 + 8, none⟩ (.int .i64 (kk + 1 + 1 + 1 + 1 + 1 + 1 + 1 + (slcnt intM x.2.2.2.2.2.2.2.1 : Int)))) := chg_cellfev (Chg.refl S w') hSg;refine ⟨?_, c2.trans c3⟩;rw [← HPS.out];have ho2 : intsR.own (w'.setCell ⟨G, j * 9 + 8, none⟩ (.int .i64 (kk + 1 + 1 + 1 + 1 + 1 + 1 + 1 + (slcnt intM x.2.2.2.2.2.2.2.1 : Int)))) Sj [.slice av x.2.2.2.2.2.2.2.1.length cv] (slmark intM (kk + 1 + 1 + 1 + 1 + 1 + 1 + 1) x.2.2.2.2.2.2.2.1) := own_setC (ho') s4;refine close (w'.setCell ⟨G, j * 9 + 8, none⟩ (.int .i64 (kk + 1 + 1 + 1 + 1 + 1 + 1 + 1 + (slcnt intM x.2.2.2.2.2.2.2.1 : Int)))) _ [.int .i64 (kk), .int .i64 (kk + 1), .int .i64 (kk + 1 + 1), .int .i64 (kk + 1 + 1 + 1), .int .i64 (kk + 1 + 1 + 1 + 1), .int .i64 (kk + 1 + 1 + 1 + 1 + 1), .int .i64 (kk + 1 + 1 + 1 + 1 + 1 + 1), .slice av x.2.2.2.2.2.2.2.1.length cv, .int .i64 (kk + 1 + 1 + 1 + 1 + 1 + 1 + 1 + (slcnt intM x.2.2.2.2.2.2.2.1 : Int))] _ Sj S z1 (by simp) ?_ ?_ ?_ (own_fev (in64_fev (by omega) (by omega)) (in64_fev (by omega) (by omega)) (in64_fev (by omega) (by omega)) (in64_fev (by omega) (by omega)) (in64_fev (by omega) (by omega)) (in64_fev (by omega) (by omega)) (in64_fev (by omega) (by omega)) (in64_fev (by omega) (by omega)) ho2) s3 s4 hSg s1 s2
    ·intro i hi;rw [show fevR.size = 9 from rfl] at hi;rw [Array.getElem?_setIfInBounds_ne (by omega), Array.getElem?_setIfInBounds_ne (by omega), Array.getElem?_setIfInBounds_ne (by omega), Array.getElem?_setIfInBounds_ne (by omega), Array.getElem?_setIfInBounds_ne (by omega), Array.getElem?_setIfInBounds_ne (by omega), Array.getElem?_setIfInBounds_ne (by omega), Array.getElem?_setIfInBounds_ne (by omega)]
    ·intro i hi;rw [show fevR.size = 9 from rfl] at hi;rw [show j * fevR.size = j * 9 from rfl];have h3 : i = 0 ∨ i = 1 ∨ i = 2 ∨ i = 3 ∨ i = 4 ∨ i = 5 ∨ i = 6 ∨ i = 7 ∨ i = 8 := by omega
     rcases h3 with rfl | rfl | rfl | rfl | rfl | rfl | rfl | rfl | rfl
     ·rw [Array.getElem?_setIfInBounds_ne (by omega), Array.getElem?_setIfInBounds_ne (by omega), Array.getElem?_setIfInBounds_ne (by omega), Array.getElem?_setIfInBounds_ne (by omega), Array.getElem?_setIfInBounds_ne (by omega), Array.getElem?_setIfInBounds_ne (by omega), Array.getElem?_setIfInBounds_ne (by omega)];rw [Nat.add_zero];rw [Array.getElem?_setIfInBounds_self_of_lt (by first | omega | (simp; omega))];rfl
     ·rw [Array.getElem?_setIfInBounds_ne (by omega), Array.getElem?_setIfInBounds_ne (by omega), Array.getElem?_setIfInBounds_ne (by omega), Array.getElem?_setIfInBounds_ne (by omega), Array.getElem?_setIfInBounds_ne (by omega), Array.getElem?_setIfInBounds_ne (by omega)];skip
      rw [Array.getElem?_setIfInBounds_self_of_lt (by first | omega | (simp; omega))];rfl
     ·rw [Array.getElem?_setIfInBounds_ne (by omega), Array.getElem?_setIfInBounds_ne (by omega), Array.getElem?_setIfInBounds_ne (by omega), Array.getElem?_setIfInBounds_ne (by omega), Array.getElem?_setIfInBounds_ne (by omega)];skip
      rw [Array.getElem?_setIfInBounds_self_of_lt (by first | omega | (simp; omega))];rfl
     ·rw [Array.getElem?_setIfInBounds_ne (by omega), Array.getElem?_setIfInBounds_ne (by omega), Array.getElem?_setIfInBounds_ne (by omega), Array.getElem?_setIfInBounds_ne (by omega)];skip
      rw [Array.getElem?_setIfInBounds_self_of_lt (by first | omega | (simp; omega))];rfl
     ·rw [Array.getElem?_setIfInBounds_ne (by omega), Array.getElem?_setIfInBounds_ne (by omega), Array.getElem?_setIfInBounds_ne (by omega)];skip
      rw [Array.getElem?_setIfInBounds_self_of_lt (by first | omega | (simp; omega))];rfl
     ·rw [Array.getElem?_setIfInBounds_ne (by omega), Array.getElem?_setIfInBounds_ne (by omega)];skip
      rw [Array.getElem?_setIfInBounds_self_of_lt (by first | omega | (simp; omega))];rfl
     ·rw [Array.getElem?_setIfInBounds_ne (by omega)];skip
      rw [Array.getElem?_setIfInBounds_self_of_lt (by first | omega | (simp; omega))];rfl
     ·rw [Array.getElem?_setIfInBounds_ne (by omega), Array.getElem?_setIfInBounds_ne (by omega), Array.getElem?_setIfInBounds_ne (by omega), Array.getElem?_setIfInBounds_ne (by omega), Array.getElem?_setIfInBounds_ne (by omega), Array.getElem?_setIfInBounds_ne (by omega), Array.getElem?_setIfInBounds_ne (by omega), Array.getElem?_setIfInBounds_ne (by omega)];exact hcur 7 (by decide)
     ·skip
      skip
      rw [Array.getElem?_setIfInBounds_self_of_lt (by first | omega | (simp; omega))];rfl
    ·intro i hi hil;have hne : i ≠ G := fun e => s5 (by rw [← e]; exact hi);rw [heap_setCell_other _ ⟨G, j * 9 + 8, none⟩ i _ hne, hc.block i (by simpa using hil) (fun hx => s3 i hx hi), heap_setCell_other _ ⟨G, j * 9 + 6, none⟩ i _ hne, heap_setCell_other _ ⟨G, j * 9 + 5, none⟩ i _ hne, heap_setCell_other _ ⟨G, j * 9 + 4, none⟩ i _ hne, heap_setCell_other _ ⟨G, j * 9 + 3, none⟩ i _ hne, heap_setCell_other _ ⟨G, j * 9 + 2, none⟩ i _ hne, heap_setCell_other _ ⟨G, j * 9 + 1, none⟩ i _ hne, heap_setCell_other _ ⟨G, j * 9, none⟩ i _ hne]
   have HO : Hid (intsR.own (((((((wr.setCell ⟨G, j * 9, none⟩ (.int .i64 (kk))).setCell ⟨G, j * 9 + 1, none⟩ (.int .i64 (kk + 1))).setCell ⟨G, j * 9 + 2, none⟩ (.int .i64 (kk + 1 + 1))).setCell ⟨G, j * 9 + 3, none⟩ (.int .i64 (kk + 1 + 1 + 1))).setCell ⟨G, j * 9 + 4, none⟩ (.int .i64 (kk + 1 + 1 + 1 + 1))).setCell ⟨G, j * 9 + 5, none⟩ (.int .i64 (kk + 1 + 1 + 1 + 1 + 1))).setCell ⟨G, j * 9 + 6, none⟩ (.int .i64 (kk + 1 + 1 + 1 + 1 + 1 + 1))) Sj [.slice av x.2.2.2.2.2.2.2.1.length cv] x.2.2.2.2.2.2.2.1) := own_setC (own_setC (own_setC (own_setC (own_setC (own_setC (own_setC (hod) s4) s4) s4) s4) s4) s4) s4;clear hx ho hown close hcur hblk s1 s2 s3 s4 s5 HPS h hod hcs hlg y0 y1 y2 y3 y4 y5 y6 y7;generalize slcnt fevM (xs.take j) = TT at HT hT hkk;go_wp2_with fail
   refine (markInt64S_rep Sj _ _ x.2.2.2.2.2.2.2.1 _ (by omega) (by omega) (by omega) HO.out).mono ?_;rintro e w' ⟨rfl, own2, gr⟩;have b9 := HB.out w' gr;obtain ⟨ho2, gr2⟩ := HC.out w' gr own2;have hs2 := hs.trans gr2;have HF : Hid _ := And.intro ho2 hs2;clear own2 gr gr2 HC HO ho2 hs2 HB q0 q1 q2 q3 q4 q5 q6 q7 q8 r0 r1 r2 r3 r4 r5 r6 r8;obtain ⟨t8, ht8⟩ : ∃ t, w'.cell? ⟨G, j * 9 + 8, none⟩ = some t := HX8.out w' b9;have r8 : w'.frozen? ⟨G, j * 9 + 8, none⟩ = false := frozen_of_row w' G _ _ _ b9;clear b9;go_wp2;go_roundw
   case rel => exact ⟨j + 1, by omega, by go_num, by rw [HT.out]; congr 1; omega, HF.out.1, HF.out.2⟩
   case measure => simp [intOf]; omega
  ·have hjn : j = xs.length := by omega
   subst hjn;rw [List.take_length];rw [pmark_all] at ho;go_wp2;go_ret
   exact ⟨rfl, ho, hs⟩
theorem mkEvents_u : MkC 48 eventsR eventsM cell1 := by
 intro S cs x k w h b hm hb;obtain ⟨v, rfl⟩ := own_cell h;have e : lot = 4398046511104 := rfl;have a : eventsM.cV x = slcnt fevM (x.map flatE) := flat_cnt x;have := markEventS_rep S v k (x.map flatE) w b (by omega) (by omega) ((slown_map ev_own rfl).1 h);rw [a];refine this.mono fun e' w' ⟨q, r, c⟩ => ⟨q, (slown_map ev_own rfl).2 ?_, c⟩;rw [show eventsM.mV k x = slmark eventM k x from rfl, flat_mark];exact r
theorem szInt64SS_rep (a : Option Addr) (xs : List (List Int)) (cap : Nat) (left : Int) (w : World) (h : SlRd intsR w a xs) (h0 : 0 ≤ left) (h1 : left ≤ 1048576) (hm : xs.length ≤ maxLen) :
    Calls Tryz.prog 58 #[.slice a xs.length cap, .int .i64 left] w fun e w' => e = .returned (.int .i64 (szI ((slM intsM).bk xs) left)) ∧ w' = w := by
 have hm' : xs.length ≤ 9223372036854775807 := hm;have hbk : (slM intsM).bk xs = xs.length + sumbk intsM xs := rfl;clear hm;by_cases hl : (xs.length : Int) ≤ left
 ·have hl' : ¬ (left - (xs.length : Int) < 0) := by omega
  have HB : Hid _ := hbk;clear hbk;go_enter Tryz.func58, Tryz.ntmps58;go_wp2;go_loop [1, 5] (fun q i => ∃ k : Nat, k ≤ xs.length ∧ i = .int .i64 k ∧ (sumbk intsM (xs.take k) : Int) + xs.length ≤ left ∧ q = .int .i64 (left - (xs.length : Int) - sumbk intsM (xs.take k))) (fun _ i => xs.length - (intOf i).toNat)
  case atStart => exact ⟨0, Nat.zero_le _, rfl, by simp [sumbk]; omega, by simp [sumbk]⟩
  case round =>
   obtain ⟨k, hk, rfl, ht, rfl⟩ := hrel;by_cases hlt : k < xs.length
   ·have hlt' : (k : Int) < (xs.length : Int) := by omega
    obtain ⟨x, hx⟩ : ∃ x, xs[k]? = some x := ⟨_, List.getElem?_eq_getElem hlt⟩;obtain ⟨b, off, c, rfl, ⟨aj, cj, rfl, hc1, hc2, hrd⟩, hcell⟩ := slrd_at h hx;have g1 := hcell 0 _ rfl;rw [show k * (intsR).size + 0 = k from Nat.mul_one k] at g1;have HR : Hid _ := hrd;have HX : Hid _ := Nat.le_trans hc1 hc2;have HT : Hid _ := sumbk_step (M := intsM) hx;have hxs := sumbk_get (M := intsM) hx;clear h hx hcell hrd;generalize sumbk intsM (xs.take k) = T at ht HT hxs ⊢;by_cases hf : (((intsM).bk x : Nat) : Int) ≤ left - (xs.length : Int) - (T : Int)
    ·have hf' : ¬ (left - (xs.length : Int) - (T : Int) - (((intsM).bk x : Nat) : Int) < 0) := by omega
     have HS : Hid (szI ((intsM).bk x) (left - (xs.length : Int) - (T : Int)) = _) := szI_yes hf;go_wp2_with (go_at_call 106; refine (szInt64S_rep _ x _ _ _ (by omega) (by omega) HX.out).mono ?_; rintro e w' ⟨rfl, rfl⟩; rw [HS.out])
     go_round
     case rel => exact ⟨k + 1, by omega, by go_num, by have := HT.out; omega, by rw [HT.out]; go_num⟩
     case measure => simp [intOf]; omega
    ·have HS : Hid (szI ((intsM).bk x) (left - (xs.length : Int) - (T : Int)) = _) := szI_no hf;have HN : Hid (szI ((slM intsM).bk xs) left = -1) := by unfold Hid; rw [HB.out]; exact szI_no (by omega)
     go_wp2_with (go_at_call 106; refine (szInt64S_rep _ x _ _ _ (by omega) (by omega) HX.out).mono ?_; rintro e w' ⟨rfl, rfl⟩; rw [HS.out])
     go_ret
     exact ⟨ret_int HN.out.symm, rfl⟩
   ·have hkl : k = xs.length := by omega
    subst hkl;rw [List.take_length] at ht ⊢;have HN : Hid (szI ((slM intsM).bk xs) left = left - (xs.length : Int) - (sumbk intsM xs : Int)) := by unfold Hid; rw [HB.out, szI_yes (by omega)]; omega
    go_wp2;go_ret
    exact ⟨ret_int HN.out.symm, rfl⟩
 ·have hl' : left - (xs.length : Int) < 0 := by omega
  rw [szI_no (by omega)];clear hbk h;go_enter Tryz.func58, Tryz.ntmps58;go_wp2;go_ret
  exact ⟨rfl, rfl⟩
theorem Tryz.infoInt64SS : (Tryz.prog.info? 37).map (fun i => (i.zero, i.size, i.bytes)) = some (some (.slice none 0 0), 1, 24) := by kernel_rfl
theorem toInt64SS_rep (a : Option Addr) (xs : List (List Int)) (cap : Nat) (w : World) (h : SlRd intsR w a xs) (hm : (slM intsM).bk xs ≤ 1048576) :
    Calls Tryz.prog 64 #[.slice a xs.length cap] w fun e w' => ∃ v, e = .returned v ∧ MadeR (slR 37 intsR) w w' [v] xs := by
 have hbk : (slM intsM).bk xs = xs.length + sumbk intsM xs := rfl;have hln : xs.length ≤ 1048576 := by omega
 have HB : Hid (sumbk intsM xs ≤ 1048576) := by unfold Hid; omega
 clear hbk hm;have hmk := Go.run_make_row' (P := Tryz.prog) 24 37 (.slice none 0 0) 24 Tryz.underlying24 Tryz.infoInt64SS rfl .i64 .i64 xs.length (by omega) (by omega);go_enter Tryz.func64, Tryz.ntmps64;go_wp2;go_loopw [4] (fun i wr => ∃ k : Nat, k ≤ xs.length ∧ i = .int .i64 k ∧ Fill 37 intsR w wr xs.length (xs.take k)) (fun i _ => xs.length - (intOf i).toNat)
 case atStart => exact ⟨0, Nat.zero_le _, rfl, by simpa using fillR_start (e := 37) (R := intsR) (w0 := w) (n := xs.length) (cs := madeCells #[.slice none 0 0] xs.length) (by unfold maxLen; omega) (by simp [size_madeCells]; exact (Nat.mul_one _).symm)⟩
 case round =>
  obtain ⟨k, hk, rfl, hF⟩ := hrel;by_cases hlt : k < xs.length
  ·have hlt' : (k : Int) < (xs.length : Int) := by omega
   obtain ⟨x, hx⟩ : ∃ x, xs[k]? = some x := ⟨_, List.getElem?_eq_getElem hlt⟩;obtain ⟨b, off, c, rfl, ⟨aj, cj, rfl, hc1, hc2, hrd⟩, hcell⟩ := slrd_at (slrd_next h (fill_below hF)) hx;have g1 := hcell 0 _ rfl;rw [show k * (intsR).size + 0 = k from Nat.mul_one k] at g1;have HR : Hid _ := hrd;have HX : Hid ((intsM).bk x ≤ 1048576) := by unfold Hid; have := sumbk_get (M := intsM) hx; have := HB.out; omega
   have FS : Hid (∀ w1 v, MadeR intsR wr w1 [v] x → _) := fun w1 v hm => fillR_step (w1 := w1) (c := [v]) hF (by simp; omega) hlt hm;have HP : Hid (xs.take k ++ [x] = xs.take (k + 1)) := by unfold Hid; rw [List.take_add_one, hx]; rfl
   clear h hx hrd hcell hmk hF;go_wp2_with (go_at_call 112; refine (toInt64S_rep _ x _ _ HR.out HX.out).mono ?_; rintro e w1 ⟨v, rfl, mm⟩; obtain ⟨av, cv, rfl⟩ := slown_val mm.1; obtain ⟨q1, q2, F1⟩ := FS.out _ _ mm; obtain ⟨v0, hv0⟩ := q1 0 (Nat.zero_lt_one); have hfz := q2 k; rw [show k * (intsR).size + 0 = k from Nat.mul_one k] at hv0; rw [show k * (intsR).size = k from Nat.mul_one k, HP.out] at F1; have HF : Hid _ := F1; clear F1 mm q1 q2)
   go_roundw
   case rel => exact ⟨k + 1, by omega, by go_num, HF.out⟩
   case measure => simp [intOf]; omega
  ·have hkl : k = xs.length := by omega
   subst hkl;rw [List.take_length] at hF;have FE := fillR_end hF rfl;clear hF;go_wp2;go_ret
   exact ⟨_, rfl, FE⟩
theorem eqInt64SS_rep (a1 a2 : Option Addr) (xs : List (List Int)) (c1 c2 : Nat) (w : World) (h1 : SlRd intsR w a1 xs) (h2 : SlRd intsR w a2 xs) (hm : (slM intsM).bk xs ≤ 1152921504606846976) :
    Calls Tryz.prog 78 #[.slice a1 xs.length c1, .slice a2 xs.length c2] w fun e w' => e = .returned (.bool true) ∧ ∃ n, w' = w.drewN n := by
 have hbk : (slM intsM).bk xs = xs.length + sumbk intsM xs := rfl;have hln : xs.length ≤ 1152921504606846976 := by omega
 have HB : Hid (sumbk intsM xs ≤ 1152921504606846976) := by unfold Hid; omega
 clear hbk hm;go_enter Tryz.func78, Tryz.ntmps78;go_wp2;go_loopw [5] (fun i wr => ∃ k : Nat, k ≤ xs.length ∧ i = .int .i64 k ∧ ∃ n, wr = w.drewN n) (fun i _ => xs.length - (intOf i).toNat)
 case atStart => exact ⟨0, Nat.zero_le _, rfl, 0, rfl⟩
 case round =>
  obtain ⟨k, hk, rfl, n, hw⟩ := hrel;by_cases hlt : k < xs.length
  ·have hlt' : (k : Int) < (xs.length : Int) := by omega
   obtain ⟨x, hx⟩ : ∃ x, xs[k]? = some x := ⟨_, List.getElem?_eq_getElem hlt⟩;have kk : ∀ j, j < w.heap.size → wr.heap[j]? = w.heap[j]? := by rw [hw]; exact fun _ _ => rfl
   obtain ⟨b, off, c, rfl, ⟨aj, cj, rfl, hc1, hc2, hrd⟩, hcell⟩ := slrd_at (slrd_keep h1 kk) hx;obtain ⟨b2, off2, c2, rfl, ⟨aj2, cj2, rfl, hc3, hc4, hrd2⟩, hcell2⟩ := slrd_at (slrd_keep h2 kk) hx;have g1 := hcell 0 _ rfl;have g2 := hcell2 0 _ rfl;rw [show k * (intsR).size + 0 = k from Nat.mul_one k] at g1 g2;have HR : Hid (∀ q, SlRd _ (wr.drewN q) aj x) := fun q => slrd_keep hrd (fun _ _ => rfl);have HR2 : Hid (∀ q, SlRd _ (wr.drewN q) aj2 x) := fun q => slrd_keep hrd2 (fun _ _ => rfl);have HX : Hid ((intsM).bk x ≤ 1152921504606846976) := by unfold Hid; have := sumbk_get (M := intsM) hx; have := HB.out; omega
   have HW : Hid (wr = w.drewN n) := hw;clear h1 h2 hx hrd hrd2 hcell hcell2 hw kk;go_wp2_with fail
   go_quiet (first | (go_at_call 11; exact Calls.quiet_of (eqInt64S_rep _ _ x _ _ _ (HR.out _) (HR2.out _) HX.out)))
   go_wp2;go_roundw
   case rel => exact ⟨k + 1, by omega, by go_num, n + nq, by rw [HW.out, World.drewN_drewN]⟩
   case measure => simp [intOf]; omega
  ·go_wp2;go_ret
   first | exact ⟨rfl, _, rfl⟩ | exact ⟨rfl, _, hw⟩
theorem markInt64SS_nil (k : Int) (w : World) :
    Calls Tryz.prog 84 #[.slice none 0 0, .int .i64 k] w fun e' w' => e' = .returned (.int .i64 k) ∧ w' = w := by
 go_enter Tryz.func84, Tryz.ntmps84;go_wp2;refine wp_loop_rounds 1 ?_;rw [rounds_succ];go_wp2;go_ret
 exact ⟨rfl, rfl⟩
theorem markInt64SS_rep (S : Foot) (v : Value) (k : Int) (xs : List (List Int)) (w : World) (h0 : 0 ≤ k) (h1 : k ≤ 576460752303423488) (hm : slcnt intsM xs ≤ 576460752303423488) (hln : xs.length ≤ 576460752303423488) (h : (slR 37 intsR).own w S [v] xs) :
    Calls Tryz.prog 84 #[v, .int .i64 k] w fun e' w' => e' = .returned (.int .i64 (k + slcnt intsM xs)) ∧ (slR 37 intsR).own w' S [v] (slmark intsM k xs) ∧ Chg S w w' := by
 rcases slown_form h with ⟨rfl, rfl⟩ | ⟨G, cap, rfl, hG⟩
 ·exact (markInt64SS_nil k w).mono fun e w' ⟨e1, e2⟩ => ⟨by simpa [slcnt] using e1, by rw [e2]; exact h, by rw [e2]; exact Chg.refl _ _⟩
 go_enter Tryz.func84, Tryz.ntmps84;go_wp2;go_loopw [1, 5] (fun q i wr => ∃ j : Nat, j ≤ xs.length ∧ i = .int .i64 j ∧ q = .int .i64 (k + slcnt intsM (xs.take j)) ∧ (slR 37 intsR).own wr S [.slice (some ⟨G, 0, none⟩) xs.length cap] (pmark intsM k xs j) ∧ Chg S w wr)
  (fun _ i _ => xs.length - (intOf i).toNat)
 case atStart => exact ⟨0, Nat.zero_le _, rfl, by simp [slcnt], by rw [pmark_zero]; exact h, Chg.refl _ _⟩
 case round =>
  obtain ⟨j, hj, rfl, rfl, ho, hs⟩ := hrel;by_cases hlt : j < xs.length
  ·have hlt' : (j : Int) < (xs.length : Int) := by omega
   obtain ⟨x, hx⟩ : ∃ x, xs[j]? = some x := ⟨_, List.getElem?_eq_getElem hlt⟩;have HT : Hid (slcnt intsM (xs.take (j + 1)) = slcnt intsM (xs.take j) + slcnt intM x) := slcnt_step (M := intsM) hx;have hT : slcnt intsM (xs.take j) + slcnt intM x ≤ slcnt intsM xs := slcnt_get (M := intsM) hx;have HPS : Hid _ := pmark_step (M := intsM) (k := k) hx;obtain ⟨g, cap', cur, Sj, T, c, hv, hSg, hblk, hcur, hcl, hown, s1, s2, s3, s4, s5, close⟩ := slown_focus ho (pmark_at hx);obtain ⟨vj, rfl⟩ : ∃ vj, c = [vj] := List.length_eq_one_iff.1 hcl;obtain ⟨av, cv, rfl⟩ := slown_val hown;simp only [Value.slice.injEq, Option.some.injEq, Addr.mk.injEq, and_true] at hv;obtain ⟨rfl, hvx⟩ := hv;clear hvx hcl;have q1 : wr.cell? ⟨G, j, none⟩ = some (.slice av x.length cv) := by
    rw [cell_of_row wr G j cur _ (0, 0) hblk];have := hcur 0 Nat.zero_lt_one;rwa [show j * (intsR).size + 0 = j from Nat.mul_one j] at this
   have HO : Hid _ := hown;have HC : Hid (∀ w', Chg Sj wr w' → (intsR).own w' Sj [.slice av x.length cv] (slmark intM (k + slcnt intsM (xs.take j)) x) → (slR 37 intsR).own w' S [.slice (some ⟨G, 0, none⟩) xs.length cap] (pmark intsM k xs (j + 1))) := by
    intro w' hc ho';rw [← HPS.out];have hlg : G < wr.heap.size := (ltH hblk);exact close w' cur [.slice av x.length cv] _ Sj S (by rw [hc.block G hlg s4]; exact hblk) rfl (fun _ _ => rfl) hcur (hc.keeps s3.symm) ho' s3 s4 hSg s1 s2
   have HS1 : Hid _ := s1;clear hx ho hown close hcur hblk s2 s3 s4 s5 s1 HPS h;generalize slcnt intsM (xs.take j) = T at HT hT HC ⊢;go_wp2_with (go_at_call 14; refine (markInt64S_rep Sj _ _ x _ (by omega) (by omega) (by omega) HO.out).mono ?_; rintro e w' ⟨rfl, own2, gr⟩)
   have ho2 := HC.out w' gr own2;have hs2 := hs.trans (gr.mono HS1.out);clear own2 gr;go_roundw
   case rel => exact ⟨j + 1, by omega, by go_num, by rw [HT.out]; go_num, ho2, hs2⟩
   case measure => simp [intOf]; omega
  ·have hjn : j = xs.length := by omega
   subst hjn;rw [List.take_length];rw [pmark_all] at ho;go_wp2;go_ret
   exact ⟨rfl, ho, hs⟩
end Go.Proofs.YtcocbafhcpdheaaGreatDoor
