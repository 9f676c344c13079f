import Derived.Test.YtdamokokcdcedaaGreatDoorG00Box
import Derived.Test.YtdamokokcdcedaaGreatDoorG17
import Derived.Test.YtdamokokcdcedaaGreatDoorG16
namespace Go.Proofs.YtdamokokcdcedaaGreatDoor
set_option maxHeartbeats 8000000
set_option maxRecDepth 20000
open Go.ChangeShapes Go.WideShapes Go.ChangeAt Go.RowKit
set_option linter.unusedVariables false
theorem chg_cellent {S : Foot} {w W : World} {g o : Nat} {v : Value} (h : Chg S w W) (hg : S g) : Chg S w (W.setCell ⟨g, o, none⟩ v) :=
 ⟨h.os, h.tape, h.output, by have := h.size; simpa using this, fun k hk hn => by rw [heap_setCell_other _ ⟨g, o, none⟩ k _ (fun e => hn (by rw [e]; exact hg))]; exact h.block k hk hn⟩
theorem in64_ent {k : Int} (h0 : 0 ≤ k) (h1 : k ≤ 1152921504606846976) : In64 k := by constructor <;> omega
theorem cnt_ent (x : EntryD) : entM.cE x = (1 + (1 + (1 + (1 + (1 + (1 + (1 + slcnt intM x.2.2.2.2.2.2.2))))))) := rfl
theorem cnt_ents (xs : List EntryD) : xs.length ≤ slcnt entM xs := by
 induction xs with
 | nil => exact Nat.zero_le _
 | cons x xs ih =>
  simp only [slcnt, List.map_cons, List.sum_cons, List.length_cons] at ih ⊢;have := cnt_ent x;omega
theorem markEntryS_nil (k : Int) (w : World) :
    Calls Tryz.prog 104 #[sL none 0 0, nI k] w fun e' w' => e' = .returned (nI k) ∧ w' = w := by
 go_enter Tryz.func104, Tryz.ntmps104;go_wp2;refine wp_loop_rounds 1 ?_;rw [rounds_succ];go_wp2;go_ret
 exact ⟨rfl, rfl⟩
theorem markEntryS_rep (S : Foot) (v : Value) (k : Int) (xs : List EntryD) (w : World) (h0 : 0 ≤ k) (h1 : k ≤ 288230376151711744) (hm : slcnt entM xs ≤ 288230376151711744) (h : entsR.own w S [v] xs) :
    Calls Tryz.prog 104 #[v, nI k] w fun e' d => e' = .returned (nI (k + slcnt entM xs)) ∧ entsR.own d S [v] (slmark entM k xs) ∧ Chg S w d := by
 have VA := cnt_ents xs;rcases slown_form h with ⟨rfl, rfl⟩ | ⟨G, C, rfl, hG⟩
 ·exact (markEntryS_nil k w).mono fun e d ⟨e1, e2⟩ => ⟨by simpa [slcnt] using e1, by rw [e2]; exact h, by rw [e2]; exact Chg.refl _ _⟩
 go_enter Tryz.func104, Tryz.ntmps104;go_wp2;go_loopw [1, 5] (fun q i wr => ∃ j : Nat, j ≤ xs.length ∧ i = nI j ∧ q = nI (k + slcnt entM (xs.take j)) ∧ entsR.own wr S [sL (some ⟨G, 0, none⟩) xs.length C] (pmark entM k xs j) ∧ Chg S w wr)
  (fun _ i _ => xs.length - (intOf i).toNat)
 case atStart => exact ⟨0, Nat.zero_le _, rfl, by simp [slcnt], by rw [pmark_zero]; exact h, Chg.refl _ _⟩
 case round =>
  obtain ⟨j, hj, rfl, rfl, K, hs⟩ := hrel;by_cases R : j < xs.length
  ·have pA : (j : Int) < (xs.length : Int) := by omega
   obtain ⟨x, A⟩ : ∃ x, xs[j]? = some x := ⟨_, List.getElem?_eq_getElem R⟩;have HT : Hid (slcnt entM (xs.take (j + 1)) = slcnt entM (xs.take j) + (1 + (1 + (1 + (1 + (1 + (1 + (1 + slcnt intM x.2.2.2.2.2.2.2)))))))) := slcnt_step (M := entM) A;have hT : slcnt entM (xs.take j) + (1 + (1 + (1 + (1 + (1 + (1 + (1 + slcnt intM x.2.2.2.2.2.2.2))))))) ≤ slcnt entM xs := slcnt_get (M := entM) A;have z : Hid _ := pmark_step (M := entM) (k := k) A;obtain ⟨g, jA, f, Sj, T, c, hv, l, a, b, Y, r, s1, s2, s3, o, s5, n⟩ := slown_focus K (pmark_at A);simp only [Value.slice.injEq, Option.some.injEq, Addr.mk.injEq, and_true] at hv;obtain ⟨rfl, V⟩ := hv;obtain ⟨vd, rfl, -, -, -, -, -, -, y⟩ := ent_own r;obtain ⟨F, J, rfl⟩ := slown_val y;have q0 : wr.cell? ⟨G, j * 8, none⟩ = some (nI x.1) := by rw [cell_of_row wr G _ f _ (0, 0) a]; exact b 0 (by decide)
   have q1 : wr.cell? ⟨G, j * 8 + 1, none⟩ = some (nI x.2.1) := by rw [cell_of_row wr G _ f _ (0, 0) a]; exact b 1 (by decide)
   have q2 : wr.cell? ⟨G, j * 8 + 2, none⟩ = some (.bool x.2.2.1) := by rw [cell_of_row wr G _ f _ (0, 0) a]; exact b 2 (by decide)
   have q3 : wr.cell? ⟨G, j * 8 + 3, none⟩ = some (nI x.2.2.2.1) := by rw [cell_of_row wr G _ f _ (0, 0) a]; exact b 3 (by decide)
   have q4 : wr.cell? ⟨G, j * 8 + 4, none⟩ = some (nI x.2.2.2.2.1) := by rw [cell_of_row wr G _ f _ (0, 0) a]; exact b 4 (by decide)
   have q5 : wr.cell? ⟨G, j * 8 + 5, none⟩ = some (nI x.2.2.2.2.2.1) := by rw [cell_of_row wr G _ f _ (0, 0) a]; exact b 5 (by decide)
   have q6 : wr.cell? ⟨G, j * 8 + 6, none⟩ = some (nI x.2.2.2.2.2.2.1) := by rw [cell_of_row wr G _ f _ (0, 0) a]; exact b 6 (by decide)
   have q7 : wr.cell? ⟨G, j * 8 + 7, none⟩ = some (sL F x.2.2.2.2.2.2.2.length J) := by rw [cell_of_row wr G _ f _ (0, 0) a]; exact b 7 (by decide)
   have r0 : wr.frozen? ⟨G, j * 8, none⟩ = false := frozen_of_row wr G _ _ _ a;have r1 : wr.frozen? ⟨G, j * 8 + 1, none⟩ = false := frozen_of_row wr G _ _ _ a;have r2 : wr.frozen? ⟨G, j * 8 + 2, none⟩ = false := frozen_of_row wr G _ _ _ a;have r3 : wr.frozen? ⟨G, j * 8 + 3, none⟩ = false := frozen_of_row wr G _ _ _ a;have r4 : wr.frozen? ⟨G, j * 8 + 4, none⟩ = false := frozen_of_row wr G _ _ _ a;have r5 : wr.frozen? ⟨G, j * 8 + 5, none⟩ = false := frozen_of_row wr G _ _ _ a;have r6 : wr.frozen? ⟨G, j * 8 + 6, none⟩ = false := frozen_of_row wr G _ _ _ a;have U : j * 8 + 7 < f.size := by
    have := b 7 (by decide);exact (Array.getElem?_eq_some_iff.1 (this.trans rfl)).1
   clear V Y;generalize aA : k + (slcnt entM (xs.take j) : Int) = kk at z ⊢;have EA : 0 ≤ kk ∧ kk ≤ 576460752303423488 := by omega
   have D : G < wr.heap.size := (ltH a);have y0 := a;have y1 := heap_setCell_same _ G (j * 8) _ _ (nI (kk)) y0;have y2 := heap_setCell_same _ G (j * 8 + 1) _ _ (nI (kk + 1)) y1;have y3 := heap_setCell_same _ G (j * 8 + 2) _ _ (.bool ((kk + 1 + 1) % 3 == 0)) y2;have y4 := heap_setCell_same _ G (j * 8 + 3) _ _ (nI (kk + 1 + 1 + 1)) y3;have y5 := heap_setCell_same _ G (j * 8 + 4) _ _ (nI (kk + 1 + 1 + 1 + 1)) y4;have y6 := heap_setCell_same _ G (j * 8 + 5) _ _ (nI (kk + 1 + 1 + 1 + 1 + 1)) y5;have y7 := heap_setCell_same _ G (j * 8 + 6) _ _ (nI (kk + 1 + 1 + 1 + 1 + 1 + 1)) y6;have O : Hid (∀ d, Chg Sj (((((((wr.setCell ⟨G, j * 8, none⟩ (nI (kk))).setCell ⟨G, j * 8 + 1, none⟩ (nI (kk + 1))).setCell ⟨G, j * 8 + 2, none⟩ (.bool ((kk + 1 + 1) % 3 == 0))).setCell ⟨G, j * 8 + 3, none⟩ (nI (kk + 1 + 1 + 1))).setCell ⟨G, j * 8 + 4, none⟩ (nI (kk + 1 + 1 + 1 + 1))).setCell ⟨G, j * 8 + 5, none⟩ (nI (kk + 1 + 1 + 1 + 1 + 1))).setCell ⟨G, j * 8 + 6, none⟩ (nI (kk + 1 + 1 + 1 + 1 + 1 + 1))) d → d.heap[G]? = some (.cells (((((((f.setIfInBounds (j * 8) (nI (kk))).setIfInBounds (j * 8 + 1) (nI (kk + 1))).setIfInBounds (j * 8 + 2) (.bool ((kk + 1 + 1) % 3 == 0))).setIfInBounds (j * 8 + 3) (nI (kk + 1 + 1 + 1))).setIfInBounds (j * 8 + 4) (nI (kk + 1 + 1 + 1 + 1))).setIfInBounds (j * 8 + 5) (nI (kk + 1 + 1 + 1 + 1 + 1))).setIfInBounds (j * 8 + 6) (nI (kk + 1 + 1 + 1 + 1 + 1 + 1))) 101 (0, 0))) := fun d H => (H.block G (by simpa using D) o).trans y7;have HC : Hid (∀ d, Chg Sj (((((((wr.setCell ⟨G, j * 8, none⟩ (nI (kk))).setCell ⟨G, j * 8 + 1, none⟩ (nI (kk + 1))).setCell ⟨G, j * 8 + 2, none⟩ (.bool ((kk + 1 + 1) % 3 == 0))).setCell ⟨G, j * 8 + 3, none⟩ (nI (kk + 1 + 1 + 1))).setCell ⟨G, j * 8 + 4, none⟩ (nI (kk + 1 + 1 + 1 + 1))).setCell ⟨G, j * 8 + 5, none⟩ (nI (kk + 1 + 1 + 1 + 1 + 1))).setCell ⟨G, j * 8 + 6, none⟩ (nI (kk + 1 + 1 + 1 + 1 + 1 + 1))) d → intsR.own d Sj [sL F x.2.2.2.2.2.2.2.length J] (slmark intM (kk + 1 + 1 + 1 + 1 + 1 + 1 + 1) x.2.2.2.2.2.2.2) → entsR.own d S [sL (some ⟨G, 0, none⟩) xs.length C] (pmark entM k xs (j + 1)) ∧ Chg S wr d) := by
    intro d H X;have z0 := O.out d H;have c1 : Chg S wr (((((((wr.setCell ⟨G, j * 8, none⟩ (nI (kk))).setCell ⟨G, j * 8 + 1, none⟩ (nI (kk + 1))).setCell ⟨G, j * 8 + 2, none⟩ (.bool ((kk + 1 + 1) % 3 == 0))).setCell ⟨G, j * 8 + 3, none⟩ (nI (kk + 1 + 1 + 1))).setCell ⟨G, j * 8 + 4, none⟩ (nI (kk + 1 + 1 + 1 + 1))).setCell ⟨G, j * 8 + 5, none⟩ (nI (kk + 1 + 1 + 1 + 1 + 1))).setCell ⟨G, j * 8 + 6, none⟩ (nI (kk + 1 + 1 + 1 + 1 + 1 + 1))) := chg_cellent (chg_cellent (chg_cellent (chg_cellent (chg_cellent (chg_cellent (chg_cellent (Chg.refl S wr) l) l) l) l) l) l) l;have c2 := c1.trans (H.mono s1);have c3 : Chg S d d := Chg.refl S d;refine ⟨?_, c2.trans c3⟩;rw [← z.out];have p : intsR.own d Sj [sL F x.2.2.2.2.2.2.2.length J] (slmark intM (kk + 1 + 1 + 1 + 1 + 1 + 1 + 1) x.2.2.2.2.2.2.2) := X;refine n d _ [nI (kk), nI (kk + 1), .bool ((kk + 1 + 1) % 3 == 0), nI (kk + 1 + 1 + 1), nI (kk + 1 + 1 + 1 + 1), nI (kk + 1 + 1 + 1 + 1 + 1), nI (kk + 1 + 1 + 1 + 1 + 1 + 1), sL F x.2.2.2.2.2.2.2.length J] _ Sj S z0 (by simp) ?_ ?_ ?_ (own_ent (in64_ent (by omega) (by omega)) (in64_ent (by omega) (by omega)) (in64_ent (by omega) (by omega)) (in64_ent (by omega) (by omega)) (in64_ent (by omega) (by omega)) (in64_ent (by omega) (by omega)) p) s3 o l s1 s2
    ·intro i B;rw [show entR.size = 8 from rfl] at B;rw [Array.getElem?_setIfInBounds_ne (by omega), Array.getElem?_setIfInBounds_ne (by omega), Array.getElem?_setIfInBounds_ne (by omega), Array.getElem?_setIfInBounds_ne (by omega), Array.getElem?_setIfInBounds_ne (by omega), Array.getElem?_setIfInBounds_ne (by omega), Array.getElem?_setIfInBounds_ne (by omega)]
    ·intro i B;rw [show entR.size = 8 from rfl] at B;rw [show j * entR.size = j * 8 from rfl];have h3 : i = 0 ∨ i = 1 ∨ i = 2 ∨ i = 3 ∨ i = 4 ∨ i = 5 ∨ i = 6 ∨ i = 7 := by omega
     rcases h3 with rfl | rfl | rfl | rfl | rfl | rfl | rfl | rfl
     ·rw [Array.getElem?_setIfInBounds_ne (by omega), Array.getElem?_setIfInBounds_ne (by omega), Array.getElem?_setIfInBounds_ne (by omega), Array.getElem?_setIfInBounds_ne (by omega), Array.getElem?_setIfInBounds_ne (by omega), Array.getElem?_setIfInBounds_ne (by omega)];rw [Nat.add_zero];rw [Array.getElem?_setIfInBounds_self_of_lt (by first | omega | (simp; omega))];rfl
     ·rw [Array.getElem?_setIfInBounds_ne (by omega), Array.getElem?_setIfInBounds_ne (by omega), Array.getElem?_setIfInBounds_ne (by omega), Array.getElem?_setIfInBounds_ne (by omega), Array.getElem?_setIfInBounds_ne (by omega)];skip
      rw [Array.getElem?_setIfInBounds_self_of_lt (by first | omega | (simp; omega))];rfl
     ·rw [Array.getElem?_setIfInBounds_ne (by omega), Array.getElem?_setIfInBounds_ne (by omega), Array.getElem?_setIfInBounds_ne (by omega), Array.getElem?_setIfInBounds_ne (by omega)];skip
      rw [Array.getElem?_setIfInBounds_self_of_lt (by first | omega | (simp; omega))];rfl
     ·rw [Array.getElem?_setIfInBounds_ne (by omega), Array.getElem?_setIfInBounds_ne (by omega), Array.getElem?_setIfInBounds_ne (by omega)];skip
      rw [Array.getElem?_setIfInBounds_self_of_lt (by first | omega | (simp; omega))];rfl
     ·rw [Array.getElem?_setIfInBounds_ne (by omega), Array.getElem?_setIfInBounds_ne (by omega)];skip
      rw [Array.getElem?_setIfInBounds_self_of_lt (by first | omega | (simp; omega))];rfl
     ·rw [Array.getElem?_setIfInBounds_ne (by omega)];skip
      rw [Array.getElem?_setIfInBounds_self_of_lt (by first | omega | (simp; omega))];rfl
     ·skip
      skip
      rw [Array.getElem?_setIfInBounds_self_of_lt (by first | omega | (simp; omega))];rfl
     ·rw [Array.getElem?_setIfInBounds_ne (by omega), Array.getElem?_setIfInBounds_ne (by omega), Array.getElem?_setIfInBounds_ne (by omega), Array.getElem?_setIfInBounds_ne (by omega), Array.getElem?_setIfInBounds_ne (by omega), Array.getElem?_setIfInBounds_ne (by omega), Array.getElem?_setIfInBounds_ne (by omega)];exact b 7 (by decide)
    ·intro i B Z;have m : i ≠ G := fun e => s5 (by rw [← e]; exact B);rw [H.block i (by simpa using Z) (fun A => s3 i A B), heap_setCell_other _ ⟨G, j * 8 + 6, none⟩ i _ m, heap_setCell_other _ ⟨G, j * 8 + 5, none⟩ i _ m, heap_setCell_other _ ⟨G, j * 8 + 4, none⟩ i _ m, heap_setCell_other _ ⟨G, j * 8 + 3, none⟩ i _ m, heap_setCell_other _ ⟨G, j * 8 + 2, none⟩ i _ m, heap_setCell_other _ ⟨G, j * 8 + 1, none⟩ i _ m, heap_setCell_other _ ⟨G, j * 8, none⟩ i _ m]
   have HO : Hid (intsR.own (((((((wr.setCell ⟨G, j * 8, none⟩ (nI (kk))).setCell ⟨G, j * 8 + 1, none⟩ (nI (kk + 1))).setCell ⟨G, j * 8 + 2, none⟩ (.bool ((kk + 1 + 1) % 3 == 0))).setCell ⟨G, j * 8 + 3, none⟩ (nI (kk + 1 + 1 + 1))).setCell ⟨G, j * 8 + 4, none⟩ (nI (kk + 1 + 1 + 1 + 1))).setCell ⟨G, j * 8 + 5, none⟩ (nI (kk + 1 + 1 + 1 + 1 + 1))).setCell ⟨G, j * 8 + 6, none⟩ (nI (kk + 1 + 1 + 1 + 1 + 1 + 1))) Sj [sL F x.2.2.2.2.2.2.2.length J] x.2.2.2.2.2.2.2) := own_setC (own_setC (own_setC (own_setC (own_setC (own_setC (own_setC (y) o) o) o) o) o) o) o;clear A K r n b a s1 s2 s3 o s5 z h y U D y0 y1 y2 y3 y4 y5 y6 y7;generalize slcnt entM (xs.take j) = TT at HT hT aA;go_wp2_with fail
   refine (markInt64S_rep Sj _ _ x.2.2.2.2.2.2.2 _ (by omega) (by omega) (by omega) HO.out).mono ?_;rintro e d ⟨rfl, s, N⟩;have b9 := O.out d N;obtain ⟨p, E⟩ := HC.out d N s;have I := hs.trans E;have HF : Hid _ := aI p I;clear s N E HC HO p I O q0 q1 q2 q3 q4 q5 q6 q7 r0 r1 r2 r3 r4 r5 r6 b9;go_wp2;go_roundw
   case rel => exact ⟨j + 1, by omega, by go_num, by rw [HT.out]; congr 1; omega, HF.out.1, HF.out.2⟩
   case measure => simp [intOf]; omega
  ·have L : j = xs.length := by omega
   subst L;rw [List.take_length];rw [pmark_all] at K;go_wp2;go_ret
   exact ⟨rfl, K, hs⟩
theorem lot_e : lot = 4398046511104 := rfl
theorem szRows_u : SzC 60 rowsR rowsM cell1 := by
 rintro cs x left w ⟨a, b, rfl, g, i, d⟩ c f;exact (szInt64SS_rep a x b left w d c f (Nat.le_trans g i)).mono fun e w' ⟨q, r⟩ => ⟨q, be_eq r⟩
theorem toRows_u : ToC 77 rowsR rowsM cell1 := by
 rintro cs x w ⟨a, b, rfl, l1, l2, d⟩ f;refine (toInt64SS_rep a x b w d f).mono ?_;rintro e w' ⟨v, rfl, c⟩;exact ⟨[v], rfl, c⟩
theorem eqRows_u : EqC 10 rowsR rowsM cell1 := by
 rintro cs ds x w ⟨a, c, rfl, l1, l2, d⟩ ⟨b, i, rfl, k1, k2, f⟩ g;refine (eqInt64SS_rep a b x c i w d f (Nat.le_trans g (by decide))).mono ?_;rintro e w' ⟨q, n, rfl⟩;exact ⟨q, be_drewN (Below.refl _ _) n⟩
theorem mkRows_u : MkC 13 rowsR rowsM cell1 := by
 intro S cs x k w h a hm hb;obtain ⟨v, rfl⟩ := own_cell h;have e := lot_e;have e2 : rowsM.cV x = slcnt intsM x := rfl;have e3 : rowsM.bk x = x.length + sumbk intsM x := rfl;exact markInt64SS_rep S v k x w a (by omega) (by omega) (by omega) h
theorem hdRows_u : HdC 14 rowsR rowsM cell1 := by
 rintro cs x k w ⟨a, b, rfl, l1, l2, d⟩ c hm hb;have e := lot_e;have e2 : rowsM.cV x = slcnt intsM x := rfl;have e3 : rowsM.bk x = x.length + sumbk intsM x := rfl;have := heldInt64SS_rep a b k x w c (by omega) (by omega) (by omega) d;rw [show x.length = (rowsM.mV k x).length from (slmark_len _ _ _).symm] at this;exact this.mono fun e w' ⟨q, r⟩ => ⟨q, be_eq r⟩
theorem szEnts_u : SzC 61 entsR entsM cell1 := by
 rintro cs x left w ⟨a, b, rfl, g, i, d⟩ c f;exact szEntryS_rep a x b left w d c f (Nat.le_trans g i)
theorem toEnts_u : ToC 78 entsR entsM cell1 := by
 rintro cs x w ⟨a, b, rfl, l1, l2, d⟩ f;refine (toEntryS_rep a x b w d f).mono ?_;rintro e w' ⟨v, rfl, c⟩;exact ⟨[v], rfl, c⟩
theorem eqEnts_u : EqC 99 entsR entsM cell1 := by
 rintro cs ds x w ⟨a, c, rfl, l1, l2, g⟩ ⟨b, d, rfl, k1, k2, f⟩ i;exact eqEntryS_rep a b x c d w g f (Nat.le_trans i (by decide))
theorem mkEnts_u : MkC 104 entsR entsM cell1 := by
 intro S cs x k w h a hm hb;obtain ⟨v, rfl⟩ := own_cell h;have e := lot_e;have e2 : entsM.cV x = slcnt entM x := rfl;exact markEntryS_rep S v k x w a (by omega) (by omega) h
abbrev HouseD := List (List Int) × List EntryD
abbrev houseR : Rep HouseD := prodR rowsR entsR
abbrev houseM : Mk HouseD := prodM rowsM entsM
theorem len1house {l : List Value} (h : l.length = 1) : ∃ a0, l = [a0] := by
 match l, h with
 | [a0], _ => exact ⟨a0, rfl⟩
theorem house_rd {w : World} {cs : List Value} {x : HouseD} (h : houseR.rd w cs x) : ∃ a b, cs = [a, b] ∧ rowsR.rd w [a] x.1 ∧ entsR.rd w [b] x.2 := by
 obtain ⟨c0, e0, rfl, c, d⟩ := h;obtain ⟨a, rfl⟩ := len1house (rowsR.rd_len c);obtain ⟨b, rfl⟩ := len1house (entsR.rd_len d);exact ⟨a, b, rfl, c, d⟩
theorem cells_house {w : World} {g : Nat} {x0 x1 : Value} {t : TypeId} (h : w.heap[g]? = some (.cells #[x0, x1] t (0, 0))) : w.cell? ⟨g, 0, none⟩ = some x0 ∧ w.cell? ⟨g, 1, none⟩ = some x1 :=
 ⟨by rw [cell_of_row w g 0 _ t (0, 0) h]; rfl, by rw [cell_of_row w g 1 _ t (0, 0) h]; rfl⟩
theorem szHouse_u : SzC 19 houseR houseM aggV := by
 intro cs x left w h h0 h1;obtain ⟨i, j, rfl, m, n⟩ := house_rd h;clear h;rw [show houseM.bk x = rowsM.bk x.1 + entsM.bk x.2 from rfl];change Calls Tryz.prog 19 #[.agg #[i, j], nI left] w _
 have f : Hid (∀ L W, Bl w W → 0 ≤ L → L ≤ 1048576 → Calls Tryz.prog 60 #[i, nI L] W fun e w' => e = .returned (nI (szI (rowsM.bk x.1) L)) ∧ Bl W w') := fun L W hb a b => szRows_u [i] _ L W (rd_next m hb) a b;have k : Hid (∀ L W, Bl w W → 0 ≤ L → L ≤ 1048576 → Calls Tryz.prog 61 #[j, nI L] W fun e w' => e = .returned (nI (szI (entsM.bk x.2) L)) ∧ Bl W w') := fun L W hb a b => szEnts_u [j] _ L W (rd_next n hb) a b;clear m n;generalize rowsM.bk x.1 = n0 at f ⊢;generalize entsM.bk x.2 = n1 at k ⊢;go_enter Tryz.func19, Tryz.ntmps19;go_wp2_with fail
 generalize c : w.alloc _ = W0;have X := boxH c;have B := boxB c;clear c;refine (f.out (left) _ B (by omega) (by omega)).mono ?_;rintro e w1 ⟨rfl, d⟩;replace X := row_keep d X;replace B := below_step B d;clear d f;by_cases o : (n0 : Int) ≤ left
 ·rw [szI_yes o];have g0 : ¬ (left - (n0 : Int) < 0) := by omega
  obtain ⟨l, g⟩ := cells_house X;go_wp2_with fail
  clear l g;refine (k.out (left - (n0 : Int)) _ B (by omega) (by omega)).mono ?_;rintro e w2 ⟨rfl, d⟩;replace X := row_keep d X;replace B := below_step B d;clear d k;by_cases p : (n1 : Int) ≤ left - (n0 : Int)
  ·rw [szI_yes p];have g1 : ¬ (left - (n0 : Int) - (n1 : Int) < 0) := by omega
   obtain ⟨l, g⟩ := cells_house X;clear l g X;go_wp2;go_ret
   exact ⟨ret_int (by rw [szI_yes (by omega)]; omega), B⟩
  ·rw [szI_no p];clear X;go_wp2;go_ret
   exact ⟨ret_int (szI_no (by omega)).symm, B⟩
 ·rw [szI_no o];clear X;go_wp2;go_ret
  exact ⟨ret_int (szI_no (by omega)).symm, B⟩
theorem eqHouse_u : EqC 41 houseR houseM aggV := by
 intro cs ds x w h k r;obtain ⟨c, f, rfl, g, i⟩ := house_rd h;obtain ⟨b, d, rfl, s, p⟩ := house_rd k;clear h k;rw [show houseM.bk x = rowsM.bk x.1 + entsM.bk x.2 from rfl] at r;change Calls Tryz.prog 41 #[.agg #[c, f], .agg #[b, d]] w _
 have m : Hid (∀ W, Bl w W → Calls Tryz.prog 10 #[c, b] W fun e w' => e = .returned (.bool true) ∧ Bl W w') := fun W hb => eqRows_u [c] [b] _ W (rd_next g hb) (rd_next s hb) (by omega);have o : Hid (∀ W, Bl w W → Calls Tryz.prog 99 #[f, d] W fun e w' => e = .returned (.bool true) ∧ Bl W w') := fun W hb => eqEnts_u [f] [d] _ W (rd_next i hb) (rd_next p hb) (by omega);clear r g s i p;have X := heap_on (.cells #[b, d] 41) (heap_at w (.cells #[c, f] 41));have Y := heap_at (w.alloc (.cells #[c, f] 41)) (.cells #[b, d] 41);rw [alloc_len] at Y;have B := below_step (box_below w (.cells #[c, f] 41)) (box_below _ (.cells #[b, d] 41));go_enter Tryz.func41, Tryz.ntmps41;go_wp2_with fail
 generalize (w.alloc (.cells #[c, f] 41)).alloc (.cells #[b, d] 41) = W0 at X Y B ⊢;refine (m.out _ B).mono ?_;rintro e w1 ⟨rfl, a⟩;replace X := row_keep a X;replace Y := row_keep a Y;replace B := below_step B a;clear a m;obtain ⟨q, n⟩ := cells_house X;obtain ⟨l, j⟩ := cells_house Y;go_wp2_with fail
 clear q n l j;refine (o.out _ B).mono ?_;rintro e w2 ⟨rfl, a⟩;replace X := row_keep a X;replace Y := row_keep a Y;replace B := below_step B a;clear a o;obtain ⟨q, n⟩ := cells_house X;obtain ⟨l, j⟩ := cells_house Y;clear X Y;go_wp2;go_ret
 exact ⟨rfl, B⟩
theorem house_cV (x : HouseD) : houseM.cV x = rowsM.cV x.1 + entsM.cV x.2 := rfl
theorem house_mV (k : Int) (x : HouseD) : houseM.mV k x = (rowsM.mV k x.1, entsM.mV (k + ((rowsM.cV x.1 : Nat) : Int)) x.2) := rfl
theorem house_own {w : World} {S : Foot} {cs : List Value} {x : HouseD} (h : houseR.own w S cs x) : ∃ b c a S1, cs = [b, c] ∧ rowsR.own w a [b] x.1 ∧ entsR.own w S1 [c] x.2 ∧ Sub a S ∧ Sub S1 S ∧ Dis a S1 := by
 obtain ⟨c0, e0, a, i, rfl, d, f, g, j, k⟩ := h;obtain ⟨b, rfl⟩ := len1house (rowsR.rd_len (rowsR.own_rd d));obtain ⟨c, rfl⟩ := len1house (entsR.rd_len (entsR.own_rd f));exact ⟨b, c, a, i, rfl, d, f, g, (Sub.refl _).trans j, k.sub (Sub.refl _) (Sub.refl _)⟩
theorem own_house {w : World} {S S0 S1 : Foot} {v0 v1 : Value} {x : HouseD}  (h0 : rowsR.own w S0 [v0] x.1) (h1 : entsR.own w S1 [v1] x.2) (s0 : Sub S0 S) (s1 : Sub S1 S) (d01 : Dis S0 S1) : houseR.own w S [v0, v1] x := by
 exact ⟨[v0], [v1], S0, S1, rfl, h0, h1, s0, (fun q h => s1 q h), (fun q a h => d01 q a h)⟩
theorem mkHouse_u : MkC 46 houseR houseM aggV := by
 intro S cs x k w h h0 H O;obtain ⟨g, i, s, v, rfl, M, K, n, m, z⟩ := house_own h;clear h;rw [house_cV] at H ⊢;rw [show houseM.bk x = rowsM.bk x.1 + entsM.bk x.2 from rfl] at O;have el : lot = 4398046511104 := rfl;change Calls Tryz.prog 46 #[.agg #[g, i], nI k] w _
 have D : Hid (∀ L W, L = k → rowsR.own W (Old w s) [g] x.1 → 0 ≤ L → L + (rowsM.cV x.1 : Int) ≤ (lot : Int) → Calls Tryz.prog 13 #[g, nI L] W fun e w' => e = .returned (nI (L + (rowsM.cV x.1 : Int))) ∧ rowsR.own w' (Old w s) [g] (rowsM.mV k x.1) ∧ Chg (Old w s) W w') := fun L W hL ho a b => by subst hL; exact mkRows_u (Old w s) [g] _ _ W ho a b (by omega)
 have A : Hid (∀ L W, L = (k + ((rowsM.cV x.1 : Nat) : Int)) → entsR.own W (Old w v) [i] x.2 → 0 ≤ L → L + (entsM.cV x.2 : Int) ≤ (lot : Int) → Calls Tryz.prog 104 #[i, nI L] W fun e w' => e = .returned (nI (L + (entsM.cV x.2 : Int))) ∧ entsR.own w' (Old w v) [i] (entsM.mV (k + ((rowsM.cV x.1 : Nat) : Int)) x.2) ∧ Chg (Old w v) W w') := fun L W hL ho a b => by subst hL; exact mkEnts_u (Old w v) [i] _ _ W ho a b (by omega)
 have X := heap_at w (.cells #[g, i] 41);have p : w.heap.size < (w.alloc (.cells #[g, i] 41)).heap.size := by simp
 have j : Chg S (w.alloc (.cells #[g, i] 41)) (w.alloc (.cells #[g, i] 41)) := Chg.refl _ _;have J : ∀ W, Chg S (w.alloc (.cells #[g, i] 41)) W → Chg S w W := fun W => chg_from_box;have I := own_box (.cells #[g, i] 41) (own_old M);have f : ¬ Old w s w.heap.size := fun h => by have := h.2; omega
 have r := own_box (.cells #[g, i] 41) (own_old K);have d : ¬ Old w v w.heap.size := fun h => by have := h.2; omega
 have c : Dis (Old w s) (Old w v) := z.sub old_sub old_sub;have F : Hid _ := aI c (aI f (aI d (aI n (m))));have N : Hid _ := J;clear J M K c z f d n m;have q : Hid (∀ (P : HouseD → Prop), P (rowsM.mV k x.1, entsM.mV (k + ((rowsM.cV x.1 : Nat) : Int)) x.2) → P (houseM.mV k x)) := fun P hp => by rw [house_mV]; exact hp
 generalize rowsM.cV x.1 = n0 at D A q H ⊢;generalize entsM.cV x.2 = n1 at A q H ⊢;go_enter Tryz.func46, Tryz.ntmps46;go_wp2_with fail
 generalize w.alloc (.cells #[g, i] 41) = W0 at X p j N I r ⊢;refine (D.out (k) _ (by omega) I (by omega) (by omega)).mono ?_;rintro e w1 ⟨rfl, o, l⟩;obtain ⟨c, f, d, n, m⟩ := F.out;replace X := (l.block w.heap.size p f).trans X;replace p := Nat.lt_of_lt_of_le p l.size;replace j := j.trans (l.mono (old_sub.trans n));replace r := own_chg r l (Dis.symm c);clear l D c f d n m;obtain ⟨G, E⟩ := cells_house X;have C : Hid _ := aI j (aI r (o));clear j r o;go_wp2_with fail
 clear G E;obtain ⟨j, r, o⟩ := C.out;clear C;refine (A.out (k + (n0 : Int)) _ (by omega) r (by omega) (by omega)).mono ?_;rintro e w2 ⟨rfl, B, l⟩;obtain ⟨c, f, d, n, m⟩ := F.out;replace X := (l.block w.heap.size p d).trans X;replace p := Nat.lt_of_lt_of_le p l.size;replace j := j.trans (l.mono (old_sub.trans m));replace o := own_chg o l c;clear l A c f d n m;obtain ⟨G, E⟩ := cells_house X;clear G E X;have C : Hid _ := aI j (aI o (B));clear j o B;go_wp2;go_ret
 obtain ⟨j, o, B⟩ := C.out;obtain ⟨c, f, d, n, m⟩ := F.out;exact ⟨ret_int (by omega), q.out (fun y => houseR.own _ S _ y) (own_house (x := (rowsM.mV k x.1, entsM.mV (k + (n0 : Int)) x.2))  o B (old_sub.trans n) (old_sub.trans m) c), N.out _ j⟩
theorem froz_house {w : World} {g : Nat} {cs : Array Value} {t : TypeId} (h : w.heap[g]? = some (.cells cs t (0, 0))) : w.frozen? ⟨g, 0, none⟩ = false ∧ w.frozen? ⟨g, 1, none⟩ = false :=
 ⟨frozen_of_row w g 0 _ t h, frozen_of_row w g 1 _ t h⟩
theorem put_house {w : World} {g : Nat} {x0 x1 y0 y1 : Value} {t : TypeId} (h : w.heap[g]? = some (.cells #[x0, x1] t (0, 0))) : ((w.setCell ⟨g, 0, none⟩ (y0)).setCell ⟨g, 1, none⟩ (y1)).heap[g]? = some (.cells #[y0, y1] t (0, 0)) := by
 have a : (w.setCell ⟨g, 0, none⟩ (y0)).heap[g]? = some (.cells #[y0, x1] t (0, 0)) := heap_setCell_same _ g 0 _ t y0 h;have b : ((w.setCell ⟨g, 0, none⟩ (y0)).setCell ⟨g, 1, none⟩ (y1)).heap[g]? = some (.cells #[y0, y1] t (0, 0)) := heap_setCell_same _ g 1 _ t y1 a;exact b
theorem toHouse_u : ToC 27 houseR houseM aggV := by
 intro cs x w h R;obtain ⟨n, p, rfl, E, G⟩ := house_rd h;clear h;rw [show houseM.bk x = rowsM.bk x.1 + entsM.bk x.2 from rfl] at R;change Calls Tryz.prog 27 #[.agg #[n, p]] w _
 have M : Hid (∀ W, Bl w W → Calls Tryz.prog 77 #[n] W fun e C => ∃ c d, e = .returned (sL c x.1.length d) ∧ MadeR rowsR W C [sL c x.1.length d] x.1) := fun W hb => (toRows_u [n] _ W (rd_next E hb) (by omega)).mono (by rintro e C ⟨Y, rfl, a⟩; obtain ⟨c, d, rfl, -⟩ := rowsR.own_rd a.1; exact ⟨c, d, rfl, a⟩);have N : Hid (∀ W, Bl w W → Calls Tryz.prog 78 #[p] W fun e C => ∃ k l, e = .returned (sL k x.2.length l) ∧ MadeR entsR W C [sL k x.2.length l] x.2) := fun W hb => (toEnts_u [p] _ W (rd_next G hb) (by omega)).mono (by rintro e C ⟨Y, rfl, a⟩; obtain ⟨k, l, rfl, -⟩ := entsR.own_rd a.1; exact ⟨k, l, rfl, a⟩);clear R E G;have i := heap_on (.cells #[sL none 0 0, sL none 0 0] 41) (heap_on (.cells #[sL none 0 0, sL none 0 0] 41) (heap_at w (.cells #[n, p] 27)));have f := heap_on (.cells #[sL none 0 0, sL none 0 0] 41) (heap_at (w.alloc (.cells #[n, p] 27)) (.cells #[sL none 0 0, sL none 0 0] 41));have b := heap_at ((w.alloc (.cells #[n, p] 27)).alloc (.cells #[sL none 0 0, sL none 0 0] 41)) (.cells #[sL none 0 0, sL none 0 0] 41);rw [alloc_len] at f;rw [alloc_len, alloc_len] at b;have B : Bl w (((w.alloc (.cells #[n, p] 27)).alloc (.cells #[sL none 0 0, sL none 0 0] 41)).alloc (.cells #[sL none 0 0, sL none 0 0] 41)) := (((Below.refl _ w).alloc (Nat.le_refl _) _).alloc (by simp) _).alloc (by simp; omega) _;have e3 : w.heap.size + 1 + 1 + 1 ≤ (((w.alloc (.cells #[n, p] 27)).alloc (.cells #[sL none 0 0, sL none 0 0] 41)).alloc (.cells #[sL none 0 0, sL none 0 0] 41)).heap.size := by simp
 go_enter Tryz.func27, Tryz.ntmps27;go_wp2_with fail
 generalize ((w.alloc (.cells #[n, p] 27)).alloc (.cells #[sL none 0 0, sL none 0 0] 41)).alloc (.cells #[sL none 0 0, sL none 0 0] 41) = u0 at i f b B e3 ⊢;refine (M.out _ B).mono ?_;rintro e m ⟨c, d, rfl, a⟩;have X := a.2.size;replace B := below_step B a.2;replace i := row_keep a.2 i;replace f := row_keep a.2 f;replace b := row_keep a.2 b;have j := a.1;clear a M;obtain ⟨K, I⟩ := cells_house i;obtain ⟨y0, y1⟩ := cells_house b;obtain ⟨L, J⟩ := froz_house b;have D : Hid _ := aI i (aI f (aI b (aI B (j))));clear i f b B j;go_wp2_with fail
 clear K I y0 y1 L J;obtain ⟨i, f, b, B, j⟩ := D.out;clear D;have H : (m.setCell ⟨w.heap.size + 1 + 1, 0, none⟩ (sL c x.1.length d)).heap[w.heap.size + 1 + 1]? = some (.cells #[sL c x.1.length d, sL none 0 0] 41 (0, 0)) := heap_setCell_same _ (w.heap.size + 1 + 1) 0 _ _ (sL c x.1.length d) b;have y := (heap_setC (g := w.heap.size + 1 + 1) (o := 0) (v := sL c x.1.length d) i (by omega));have s := (heap_setC (g := w.heap.size + 1 + 1) (o := 0) (v := sL c x.1.length d) f (by omega));have A : Bl w (m.setCell ⟨w.heap.size + 1 + 1, 0, none⟩ (sL c x.1.length d)) := (below_setC B (by omega));have q : rowsR.own (m.setCell ⟨w.heap.size + 1 + 1, 0, none⟩ (sL c x.1.length d)) _ _ _ := (own_setC j (fun h => by have := h.1; omega));have r : m.heap.size ≤ (m.setCell ⟨w.heap.size + 1 + 1, 0, none⟩ (sL c x.1.length d)).heap.size := by simp
 have z : (m.setCell ⟨w.heap.size + 1 + 1, 0, none⟩ (sL c x.1.length d)).heap.size ≤ m.heap.size := by simp
 clear i f b B j ;generalize (m.setCell ⟨w.heap.size + 1 + 1, 0, none⟩ (sL c x.1.length d)) = u1 at y s H A r z q ⊢;have i := y;have f := s;have b := H;have B := A;have j := q;have bA := r;have Z := z;clear y s H A r z q;refine (N.out _ B).mono ?_;rintro e O ⟨k, l, rfl, a⟩;have dA := a.2.size;replace B := below_step B a.2;replace i := row_keep a.2 i;replace f := row_keep a.2 f;replace b := row_keep a.2 b;replace j := own_stay j a.2 (by omega);have F := a.1;clear a N;obtain ⟨K, I⟩ := cells_house i;obtain ⟨y0, y1⟩ := cells_house b;obtain ⟨L, J⟩ := froz_house b;obtain ⟨U, T⟩ := cells_house f;obtain ⟨g0, S⟩ := froz_house f;have D : Hid _ := aI i (aI f (aI b (aI B (aI j (F)))));clear i f b B j F;go_wp2;clear K I y0 y1 L J U T g0 S;obtain ⟨i, f, b, B, j, F⟩ := D.out;clear D;have H : (O.setCell ⟨w.heap.size + 1 + 1, 1, none⟩ (sL k x.2.length l)).heap[w.heap.size + 1 + 1]? = some (.cells #[sL c x.1.length d, sL k x.2.length l] 41 (0, 0)) := heap_setCell_same _ (w.heap.size + 1 + 1) 1 _ _ (sL k x.2.length l) b;have V := put_house (y0 := sL c x.1.length d) (y1 := sL k x.2.length l) (heap_setC (g := w.heap.size + 1 + 1) (o := 1) (v := sL k x.2.length l) f (by omega));obtain ⟨E, G⟩ := cells_house V;refine bodyPost_ret (v := .agg #[sL c x.1.length d, sL k x.2.length l]) (by simp [results, Tryz.results27, go_sem, E, G]) rfl ⟨[sL c x.1.length d, sL k x.2.length l], rfl, own_house (S0 := rng u0.heap.size m.heap.size) (S1 := rng u1.heap.size O.heap.size)  ?_ ?_ (rng_sub (by omega) (by simp <;> omega)) (rng_sub (by omega) (by simp <;> omega)) (rng_dis (.inl (by omega))), ?_⟩
 ·exact (own_setC (own_setC (own_setC j (fun h => by have := h.1; omega)) (fun h => by have := h.1; omega)) (fun h => by have := h.1; omega))
 ·exact (own_setC (own_setC (own_setC F (fun h => by have := h.1; omega)) (fun h => by have := h.1; omega)) (fun h => by have := h.1; omega))
 ·exact (below_setC (below_setC (below_setC B (by omega)) (by omega)) (by omega))
theorem house_shape {w : World} {cs : List Value} {x : HouseD} (h : houseR.rd w cs x) : ∃ (b : Option Addr) (a : Nat) (c : Option Addr) (d : Nat), cs = [sL b x.1.length a, sL c x.2.length d] := by
 obtain ⟨v0, v1, rfl, i, j⟩ := house_rd h;obtain ⟨b, a, f, -⟩ := i;simp only [List.cons.injEq, and_true] at f;obtain rfl := f;obtain ⟨c, d, g, -⟩ := j;simp only [List.cons.injEq, and_true] at g;obtain rfl := g;exact ⟨b, a, c, d, rfl⟩
theorem opens_house : Opens Tryz.prog 27 houseR :=
 opens_struct Tryz.underlying27 (by kernel_rfl) (opensF_cons rfl (by kernel_rfl) opens_rows (opensF_one rfl (by kernel_rfl) opens_ents))
end Go.Proofs.YtdamokokcdcedaaGreatDoor
