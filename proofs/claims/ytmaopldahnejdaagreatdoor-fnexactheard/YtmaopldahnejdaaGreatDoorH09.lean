import Derived.Test.YtmaopldahnejdaaGreatDoorH00Box
import Derived.Test.YtmaopldahnejdaaGreatDoorH08
import Derived.Test.YtmaopldahnejdaaGreatDoorH07
namespace Go.Proofs.YtmaopldahnejdaaGreatDoor
set_option maxHeartbeats 4000000
set_option maxRecDepth 20000
open Go.ChangeShapes Go.WideShapes Go.ChangeAt Go.RowKit
set_option linter.unusedVariables false
theorem chg_cellent {S : Foot} {w W : World} {g o : Nat} {v : Value} (h : Chg S w W) (hg : S g) : Chg S w (W.setCell ⟨g, o, none⟩ v) :=
 ⟨h.os, h.tape, h.output, by have := h.size; simpa using this, fun k hk hn => by rw [heap_setCell_other _ ⟨g, o, none⟩ k _ (fun e => hn (by rw [e]; exact hg))]; exact h.block k hk hn⟩
theorem in64_ent {k : Int} (h0 : 0 ≤ k) (h1 : k ≤ 1152921504606846976) : In64 k := by constructor <;> omega
theorem cnt_ent (x : EntryD) : entM.cE x = (1 + (1 + (1 + (1 + (1 + (1 + (1 + slcnt intM x.2.2.2.2.2.2.2))))))) := rfl
theorem cnt_ents (xs : List EntryD) : xs.length ≤ slcnt entM xs := by
 induction xs with
 | nil => exact Nat.zero_le _
 | cons x xs ih =>
  simp only [slcnt, List.map_cons, List.sum_cons, List.length_cons] at ih ⊢;have := cnt_ent x;omega
theorem markEntryS_nil (k : Int) (w : World) :
    Calls Tryz.prog 72 #[sL none 0 0, nI k] w fun e' w' => e' = .returned (nI k) ∧ w' = w := by
 go_enter Tryz.func72, Tryz.ntmps72;go_wp2;refine wp_loop_rounds 1 ?_;rw [rounds_succ];go_wp2;go_ret
 exact ⟨rfl, rfl⟩
theorem markEntryS_rep (S : Foot) (v : Value) (k : Int) (xs : List EntryD) (w : World) (h0 : 0 ≤ k) (h1 : k ≤ 288230376151711744) (hm : slcnt entM xs ≤ 288230376151711744) (h : entsR.own w S [v] xs) :
    Calls Tryz.prog 72 #[v, nI k] w fun e' d => e' = .returned (nI (k + slcnt entM xs)) ∧ entsR.own d S [v] (slmark entM k xs) ∧ Chg S w d := by
 have CA := cnt_ents xs;rcases slown_form h with ⟨rfl, rfl⟩ | ⟨G, I, rfl, hG⟩
 ·exact (markEntryS_nil k w).mono fun e d ⟨e1, e2⟩ => ⟨by simpa [slcnt] using e1, by rw [e2]; exact h, by rw [e2]; exact Chg.refl _ _⟩
 go_enter Tryz.func72, Tryz.ntmps72;go_wp2;go_loopw [1, 5] (fun q i wr => ∃ j : Nat, j ≤ xs.length ∧ i = nI j ∧ q = nI (k + slcnt entM (xs.take j)) ∧ entsR.own wr S [sL (some ⟨G, 0, none⟩) xs.length I] (pmark entM k xs j) ∧ Chg S w wr)
  (fun _ i _ => xs.length - (intOf i).toNat)
 case atStart => exact ⟨0, Nat.zero_le _, rfl, by simp [slcnt], by rw [pmark_zero]; exact h, Chg.refl _ _⟩
 case round =>
  obtain ⟨j, hj, rfl, rfl, K, hs⟩ := hrel;by_cases bA : j < xs.length
  ·have qA : (j : Int) < (xs.length : Int) := by omega
   obtain ⟨x, y⟩ : ∃ x, xs[j]? = some x := ⟨_, List.getElem?_eq_getElem bA⟩;have HT : Hid (slcnt entM (xs.take (j + 1)) = slcnt entM (xs.take j) + (1 + (1 + (1 + (1 + (1 + (1 + (1 + slcnt intM x.2.2.2.2.2.2.2)))))))) := slcnt_step (M := entM) y;have hT : slcnt entM (xs.take j) + (1 + (1 + (1 + (1 + (1 + (1 + (1 + slcnt intM x.2.2.2.2.2.2.2))))))) ≤ slcnt entM xs := slcnt_get (M := entM) y;have A : Hid _ := pmark_step (M := entM) (k := k) y;obtain ⟨g, gA, f, Sj, T, c, hv, l, a, b, Y, s, s1, s2, Z, o, s5, n⟩ := slown_focus K (pmark_at y);simp only [Value.slice.injEq, Option.some.injEq, Addr.mk.injEq, and_true] at hv;obtain ⟨rfl, U⟩ := hv;obtain ⟨vd, rfl, -, -, -, -, -, -, z⟩ := ent_own s;obtain ⟨C, D, rfl⟩ := slown_val z;have q0 : wr.cell? ⟨G, j * 8, none⟩ = some (nI x.1) := by rw [cell_of_row wr G _ f _ (0, 0) a]; exact b 0 (by decide)
   have q1 : wr.cell? ⟨G, j * 8 + 1, none⟩ = some (nI x.2.1) := by rw [cell_of_row wr G _ f _ (0, 0) a]; exact b 1 (by decide)
   have q2 : wr.cell? ⟨G, j * 8 + 2, none⟩ = some (.bool x.2.2.1) := by rw [cell_of_row wr G _ f _ (0, 0) a]; exact b 2 (by decide)
   have q3 : wr.cell? ⟨G, j * 8 + 3, none⟩ = some (nI x.2.2.2.1) := by rw [cell_of_row wr G _ f _ (0, 0) a]; exact b 3 (by decide)
   have q4 : wr.cell? ⟨G, j * 8 + 4, none⟩ = some (nI x.2.2.2.2.1) := by rw [cell_of_row wr G _ f _ (0, 0) a]; exact b 4 (by decide)
   have q5 : wr.cell? ⟨G, j * 8 + 5, none⟩ = some (nI x.2.2.2.2.2.1) := by rw [cell_of_row wr G _ f _ (0, 0) a]; exact b 5 (by decide)
   have q6 : wr.cell? ⟨G, j * 8 + 6, none⟩ = some (nI x.2.2.2.2.2.2.1) := by rw [cell_of_row wr G _ f _ (0, 0) a]; exact b 6 (by decide)
   have q7 : wr.cell? ⟨G, j * 8 + 7, none⟩ = some (sL C x.2.2.2.2.2.2.2.length D) := by rw [cell_of_row wr G _ f _ (0, 0) a]; exact b 7 (by decide)
   have r0 : wr.frozen? ⟨G, j * 8, none⟩ = false := frozen_of_row wr G _ _ _ a;have r1 : wr.frozen? ⟨G, j * 8 + 1, none⟩ = false := frozen_of_row wr G _ _ _ a;have r2 : wr.frozen? ⟨G, j * 8 + 2, none⟩ = false := frozen_of_row wr G _ _ _ a;have r3 : wr.frozen? ⟨G, j * 8 + 3, none⟩ = false := frozen_of_row wr G _ _ _ a;have r4 : wr.frozen? ⟨G, j * 8 + 4, none⟩ = false := frozen_of_row wr G _ _ _ a;have r5 : wr.frozen? ⟨G, j * 8 + 5, none⟩ = false := frozen_of_row wr G _ _ _ a;have r6 : wr.frozen? ⟨G, j * 8 + 6, none⟩ = false := frozen_of_row wr G _ _ _ a;have N : j * 8 + 7 < f.size := by
    have := b 7 (by decide);exact (Array.getElem?_eq_some_iff.1 (this.trans rfl)).1
   clear U Y;generalize O : k + (slcnt entM (xs.take j) : Int) = kk at A ⊢;have ZA : 0 ≤ kk ∧ kk ≤ 576460752303423488 := by omega
   have E : G < wr.heap.size := (ltH a);have y0 := a;have y1 := heap_setCell_same _ G (j * 8) _ _ (nI (kk)) y0;have y2 := heap_setCell_same _ G (j * 8 + 1) _ _ (nI (kk + 1)) y1;have y3 := heap_setCell_same _ G (j * 8 + 2) _ _ (.bool ((kk + 1 + 1) % 3 == 0)) y2;have y4 := heap_setCell_same _ G (j * 8 + 3) _ _ (nI (kk + 1 + 1 + 1)) y3;have y5 := heap_setCell_same _ G (j * 8 + 4) _ _ (nI (kk + 1 + 1 + 1 + 1)) y4;have y6 := heap_setCell_same _ G (j * 8 + 5) _ _ (nI (kk + 1 + 1 + 1 + 1 + 1)) y5;have y7 := heap_setCell_same _ G (j * 8 + 6) _ _ (nI (kk + 1 + 1 + 1 + 1 + 1 + 1)) y6;have R : Hid (∀ d, Chg Sj (((((((wr.setCell ⟨G, j * 8, none⟩ (nI (kk))).setCell ⟨G, j * 8 + 1, none⟩ (nI (kk + 1))).setCell ⟨G, j * 8 + 2, none⟩ (.bool ((kk + 1 + 1) % 3 == 0))).setCell ⟨G, j * 8 + 3, none⟩ (nI (kk + 1 + 1 + 1))).setCell ⟨G, j * 8 + 4, none⟩ (nI (kk + 1 + 1 + 1 + 1))).setCell ⟨G, j * 8 + 5, none⟩ (nI (kk + 1 + 1 + 1 + 1 + 1))).setCell ⟨G, j * 8 + 6, none⟩ (nI (kk + 1 + 1 + 1 + 1 + 1 + 1))) d → d.heap[G]? = some (.cells (((((((f.setIfInBounds (j * 8) (nI (kk))).setIfInBounds (j * 8 + 1) (nI (kk + 1))).setIfInBounds (j * 8 + 2) (.bool ((kk + 1 + 1) % 3 == 0))).setIfInBounds (j * 8 + 3) (nI (kk + 1 + 1 + 1))).setIfInBounds (j * 8 + 4) (nI (kk + 1 + 1 + 1 + 1))).setIfInBounds (j * 8 + 5) (nI (kk + 1 + 1 + 1 + 1 + 1))).setIfInBounds (j * 8 + 6) (nI (kk + 1 + 1 + 1 + 1 + 1 + 1))) 48 (0, 0))) := fun d H => (H.block G (by simpa using E) o).trans y7;have HC : Hid (∀ d, Chg Sj (((((((wr.setCell ⟨G, j * 8, none⟩ (nI (kk))).setCell ⟨G, j * 8 + 1, none⟩ (nI (kk + 1))).setCell ⟨G, j * 8 + 2, none⟩ (.bool ((kk + 1 + 1) % 3 == 0))).setCell ⟨G, j * 8 + 3, none⟩ (nI (kk + 1 + 1 + 1))).setCell ⟨G, j * 8 + 4, none⟩ (nI (kk + 1 + 1 + 1 + 1))).setCell ⟨G, j * 8 + 5, none⟩ (nI (kk + 1 + 1 + 1 + 1 + 1))).setCell ⟨G, j * 8 + 6, none⟩ (nI (kk + 1 + 1 + 1 + 1 + 1 + 1))) d → intsR.own d Sj [sL C x.2.2.2.2.2.2.2.length D] (slmark intM (kk + 1 + 1 + 1 + 1 + 1 + 1 + 1) x.2.2.2.2.2.2.2) → entsR.own d S [sL (some ⟨G, 0, none⟩) xs.length I] (pmark entM k xs (j + 1)) ∧ Chg S wr d) := by
    intro d H aA;have z0 := R.out d H;have c1 : Chg S wr (((((((wr.setCell ⟨G, j * 8, none⟩ (nI (kk))).setCell ⟨G, j * 8 + 1, none⟩ (nI (kk + 1))).setCell ⟨G, j * 8 + 2, none⟩ (.bool ((kk + 1 + 1) % 3 == 0))).setCell ⟨G, j * 8 + 3, none⟩ (nI (kk + 1 + 1 + 1))).setCell ⟨G, j * 8 + 4, none⟩ (nI (kk + 1 + 1 + 1 + 1))).setCell ⟨G, j * 8 + 5, none⟩ (nI (kk + 1 + 1 + 1 + 1 + 1))).setCell ⟨G, j * 8 + 6, none⟩ (nI (kk + 1 + 1 + 1 + 1 + 1 + 1))) := chg_cellent (chg_cellent (chg_cellent (chg_cellent (chg_cellent (chg_cellent (chg_cellent (Chg.refl S wr) l) l) l) l) l) l) l;have c2 := c1.trans (H.mono s1);have c3 : Chg S d d := Chg.refl S d;refine ⟨?_, c2.trans c3⟩;rw [← A.out];have p : intsR.own d Sj [sL C x.2.2.2.2.2.2.2.length D] (slmark intM (kk + 1 + 1 + 1 + 1 + 1 + 1 + 1) x.2.2.2.2.2.2.2) := aA;refine n d _ [nI (kk), nI (kk + 1), .bool ((kk + 1 + 1) % 3 == 0), nI (kk + 1 + 1 + 1), nI (kk + 1 + 1 + 1 + 1), nI (kk + 1 + 1 + 1 + 1 + 1), nI (kk + 1 + 1 + 1 + 1 + 1 + 1), sL C x.2.2.2.2.2.2.2.length D] _ Sj S z0 (by simp) ?_ ?_ ?_ (own_ent (in64_ent (by omega) (by omega)) (in64_ent (by omega) (by omega)) (in64_ent (by omega) (by omega)) (in64_ent (by omega) (by omega)) (in64_ent (by omega) (by omega)) (in64_ent (by omega) (by omega)) p) Z o l s1 s2
    ·intro i B;rw [show entR.size = 8 from rfl] at B;rw [Array.getElem?_setIfInBounds_ne (by omega), Array.getElem?_setIfInBounds_ne (by omega), Array.getElem?_setIfInBounds_ne (by omega), Array.getElem?_setIfInBounds_ne (by omega), Array.getElem?_setIfInBounds_ne (by omega), Array.getElem?_setIfInBounds_ne (by omega), Array.getElem?_setIfInBounds_ne (by omega)]
    ·intro i B;rw [show entR.size = 8 from rfl] at B;rw [show j * entR.size = j * 8 from rfl];have h3 : i = 0 ∨ i = 1 ∨ i = 2 ∨ i = 3 ∨ i = 4 ∨ i = 5 ∨ i = 6 ∨ i = 7 := by omega
     rcases h3 with rfl | rfl | rfl | rfl | rfl | rfl | rfl | rfl
     ·rw [Array.getElem?_setIfInBounds_ne (by omega), Array.getElem?_setIfInBounds_ne (by omega), Array.getElem?_setIfInBounds_ne (by omega), Array.getElem?_setIfInBounds_ne (by omega), Array.getElem?_setIfInBounds_ne (by omega), Array.getElem?_setIfInBounds_ne (by omega)];rw [Nat.add_zero];rw [Array.getElem?_setIfInBounds_self_of_lt (by first | omega | (simp; omega))];rfl
     ·rw [Array.getElem?_setIfInBounds_ne (by omega), Array.getElem?_setIfInBounds_ne (by omega), Array.getElem?_setIfInBounds_ne (by omega), Array.getElem?_setIfInBounds_ne (by omega), Array.getElem?_setIfInBounds_ne (by omega)];skip
      rw [Array.getElem?_setIfInBounds_self_of_lt (by first | omega | (simp; omega))];rfl
     ·rw [Array.getElem?_setIfInBounds_ne (by omega), Array.getElem?_setIfInBounds_ne (by omega), Array.getElem?_setIfInBounds_ne (by omega), Array.getElem?_setIfInBounds_ne (by omega)];skip
      rw [Array.getElem?_setIfInBounds_self_of_lt (by first | omega | (simp; omega))];rfl
     ·rw [Array.getElem?_setIfInBounds_ne (by omega), Array.getElem?_setIfInBounds_ne (by omega), Array.getElem?_setIfInBounds_ne (by omega)];skip
      rw [Array.getElem?_setIfInBounds_self_of_lt (by first | omega | (simp; omega))];rfl
     ·rw [Array.getElem?_setIfInBounds_ne (by omega), Array.getElem?_setIfInBounds_ne (by omega)];skip
      rw [Array.getElem?_setIfInBounds_self_of_lt (by first | omega | (simp; omega))];rfl
     ·rw [Array.getElem?_setIfInBounds_ne (by omega)];skip
      rw [Array.getElem?_setIfInBounds_self_of_lt (by first | omega | (simp; omega))];rfl
     ·skip
      skip
      rw [Array.getElem?_setIfInBounds_self_of_lt (by first | omega | (simp; omega))];rfl
     ·rw [Array.getElem?_setIfInBounds_ne (by omega), Array.getElem?_setIfInBounds_ne (by omega), Array.getElem?_setIfInBounds_ne (by omega), Array.getElem?_setIfInBounds_ne (by omega), Array.getElem?_setIfInBounds_ne (by omega), Array.getElem?_setIfInBounds_ne (by omega), Array.getElem?_setIfInBounds_ne (by omega)];exact b 7 (by decide)
    ·intro i B L;have m : i ≠ G := fun e => s5 (by rw [← e]; exact B);rw [H.block i (by simpa using L) (fun y => Z i y B), heap_setCell_other _ ⟨G, j * 8 + 6, none⟩ i _ m, heap_setCell_other _ ⟨G, j * 8 + 5, none⟩ i _ m, heap_setCell_other _ ⟨G, j * 8 + 4, none⟩ i _ m, heap_setCell_other _ ⟨G, j * 8 + 3, none⟩ i _ m, heap_setCell_other _ ⟨G, j * 8 + 2, none⟩ i _ m, heap_setCell_other _ ⟨G, j * 8 + 1, none⟩ i _ m, heap_setCell_other _ ⟨G, j * 8, none⟩ i _ m]
   have HO : Hid (intsR.own (((((((wr.setCell ⟨G, j * 8, none⟩ (nI (kk))).setCell ⟨G, j * 8 + 1, none⟩ (nI (kk + 1))).setCell ⟨G, j * 8 + 2, none⟩ (.bool ((kk + 1 + 1) % 3 == 0))).setCell ⟨G, j * 8 + 3, none⟩ (nI (kk + 1 + 1 + 1))).setCell ⟨G, j * 8 + 4, none⟩ (nI (kk + 1 + 1 + 1 + 1))).setCell ⟨G, j * 8 + 5, none⟩ (nI (kk + 1 + 1 + 1 + 1 + 1))).setCell ⟨G, j * 8 + 6, none⟩ (nI (kk + 1 + 1 + 1 + 1 + 1 + 1))) Sj [sL C x.2.2.2.2.2.2.2.length D] x.2.2.2.2.2.2.2) := own_setC (own_setC (own_setC (own_setC (own_setC (own_setC (own_setC (z) o) o) o) o) o) o) o;clear y K s n b a s1 s2 Z o s5 A h z N E y0 y1 y2 y3 y4 y5 y6 y7;generalize slcnt entM (xs.take j) = TT at HT hT O;go_wp2_with fail
   refine (markInt64S_rep Sj _ _ x.2.2.2.2.2.2.2 _ (by omega) (by omega) (by omega) HO.out).mono ?_;rintro e d ⟨rfl, r, V⟩;have b9 := R.out d V;obtain ⟨p, J⟩ := HC.out d V r;have F := hs.trans J;have HF : Hid _ := aI p F;clear r V J HC HO p F R q0 q1 q2 q3 q4 q5 q6 q7 r0 r1 r2 r3 r4 r5 r6 b9;go_wp2;go_roundw
   case rel => exact ⟨j + 1, by omega, by go_num, by rw [HT.out]; congr 1; omega, HF.out.1, HF.out.2⟩
   case measure => simp [intOf]; omega
  ·have X : j = xs.length := by omega
   subst X;rw [List.take_length];rw [pmark_all] at K;go_wp2;go_ret
   exact ⟨rfl, K, hs⟩
theorem heldEntryS_rep (a : Option Addr) (cap : Nat) (k : Int) (xs : List EntryD) (w : World) (h0 : 0 ≤ k) (h1 : k ≤ 288230376151711744) (hm : slcnt entM xs ≤ 288230376151711744) (h : SlRd entR w a (slmark entM k xs)) :
    Calls Tryz.prog 75 #[sL a xs.length cap, nI k] w fun e' E => e' = .returned (nI (k + slcnt entM xs)) ∧ E = w := by
 have K := cnt_ents xs;go_enter Tryz.func75, Tryz.ntmps75;go_wp2;go_loop [1, 5] (fun q i => ∃ j : Nat, j ≤ xs.length ∧ i = nI j ∧ q = nI (k + slcnt entM (xs.take j))) (fun _ i => xs.length - (intOf i).toNat)
 case atStart => exact ⟨0, Nat.zero_le _, rfl, by simp [slcnt]⟩
 case round =>
  obtain ⟨j, hj, rfl, rfl⟩ := hrel;by_cases o : j < xs.length
  ·have G : (j : Int) < (xs.length : Int) := by omega
   obtain ⟨x, m⟩ : ∃ x, xs[j]? = some x := ⟨_, List.getElem?_eq_getElem o⟩;obtain ⟨b, c, cs, rfl, l, d⟩ := slrd_at h (slmark_at (M := entM) (k := k) m);obtain ⟨I, U, rfl, -, -, -, -, -, -, -, -, f⟩ := ent_rd l;obtain ⟨A, D, C, v, B, r, y, O⟩ := cellsAt8 d rfl;have g : (entM.mE (k + slcnt entM (xs.take j)) x).2.2.2.2.2.2.2.length = x.2.2.2.2.2.2.2.length := slmark_len _ _ _;rw [g] at O;have z : Hid (SlRd intR w I (slmark intM (k + slcnt entM (xs.take j) + 1 + 1 + 1 + 1 + 1 + 1 + 1) x.2.2.2.2.2.2.2)) := f;have V : w.cell? ⟨b, c + j * 8, none⟩ = some (nI (k + slcnt entM (xs.take j))) := A;have N : w.cell? ⟨b, c + j * 8 + 1, none⟩ = some (nI (k + slcnt entM (xs.take j) + 1)) := D;have s : w.cell? ⟨b, c + j * 8 + 2, none⟩ = some (.bool ((k + slcnt entM (xs.take j) + 1 + 1) % 3 == 0)) := C;have L : w.cell? ⟨b, c + j * 8 + 3, none⟩ = some (nI (k + slcnt entM (xs.take j) + 1 + 1 + 1)) := v;have S : w.cell? ⟨b, c + j * 8 + 4, none⟩ = some (nI (k + slcnt entM (xs.take j) + 1 + 1 + 1 + 1)) := B;have T : w.cell? ⟨b, c + j * 8 + 5, none⟩ = some (nI (k + slcnt entM (xs.take j) + 1 + 1 + 1 + 1 + 1)) := r;have R : w.cell? ⟨b, c + j * 8 + 6, none⟩ = some (nI (k + slcnt entM (xs.take j) + 1 + 1 + 1 + 1 + 1 + 1)) := y;have H : Hid (slcnt entM (xs.take (j + 1)) = slcnt entM (xs.take j) + (1 + (1 + (1 + (1 + (1 + (1 + (1 + slcnt intM x.2.2.2.2.2.2.2)))))))) := slcnt_step (M := entM) m;have J : slcnt entM (xs.take j) + (1 + (1 + (1 + (1 + (1 + (1 + (1 + slcnt intM x.2.2.2.2.2.2.2))))))) ≤ slcnt entM xs := slcnt_get (M := entM) m;clear m l d h g f A D C v B r y;generalize p : k + (slcnt entM (xs.take j) : Int) = kk at z V N s L S T R ⊢;generalize slcnt entM (xs.take j) = TT at H J p;have X : 0 ≤ kk ∧ kk ≤ 576460752303423488 := by omega
   have hn : ¬ (kk + 1 + 1 + 1 + 1 + 1 + 1 + 1 + ((slcnt intM x.2.2.2.2.2.2.2 : Nat) : Int) < 0) := by omega
   generalize F : ((kk + 1 + 1) % 3 == 0) = bb2 at s;cases bb2
   all_goals
    go_wp2_with (go_at_call 76; refine (heldInt64S_rep _ _ _ x.2.2.2.2.2.2.2 _ (by omega) (by omega) (by omega) z.out).mono ?_; rintro e E ⟨rfl, rfl⟩)
    go_round
    case rel => exact ⟨j + 1, by omega, by go_num, by rw [H.out]; congr 1; omega⟩
    case measure => simp [intOf]; omega
  ·have n : j = xs.length := by omega
   subst n;rw [List.take_length];go_wp2;go_ret
   exact ⟨rfl, rfl⟩
theorem lot_e : lot = 4398046511104 := rfl
theorem szRows_u : SzC 62 rowsR rowsM cell1 := by
 rintro cs x left w ⟨a, b, rfl, g, d, i⟩ f c;exact (szInt64SS_rep a x b left w i f c (Nat.le_trans g d)).mono fun e w' ⟨q, r⟩ => ⟨q, be_eq r⟩
theorem toRows_u : ToC 65 rowsR rowsM cell1 := by
 rintro cs x w ⟨a, b, rfl, l1, l2, f⟩ d;refine (toInt64SS_rep a x b w f d).mono ?_;rintro e w' ⟨v, rfl, c⟩;exact ⟨[v], rfl, c⟩
theorem eqRows_u : EqC 68 rowsR rowsM cell1 := by
 rintro cs ds x w ⟨a, c, rfl, l1, l2, i⟩ ⟨b, d, rfl, k1, k2, f⟩ g;refine (eqInt64SS_rep a b x c d w i f (Nat.le_trans g (by decide))).mono ?_;rintro e w' ⟨q, n, rfl⟩;exact ⟨q, be_drewN (Below.refl _ _) n⟩
theorem mkRows_u : MkC 71 rowsR rowsM cell1 := by
 intro S cs x k w h a hm hb;obtain ⟨v, rfl⟩ := own_cell h;have e := lot_e;have e2 : rowsM.cV x = slcnt intsM x := rfl;have e3 : rowsM.bk x = x.length + sumbk intsM x := rfl;exact markInt64SS_rep S v k x w a (by omega) (by omega) (by omega) h
theorem hdRows_u : HdC 74 rowsR rowsM cell1 := by
 rintro cs x k w ⟨a, b, rfl, l1, l2, d⟩ c hm hb;have e := lot_e;have e2 : rowsM.cV x = slcnt intsM x := rfl;have e3 : rowsM.bk x = x.length + sumbk intsM x := rfl;have := heldInt64SS_rep a b k x w c (by omega) (by omega) (by omega) d;rw [show x.length = (rowsM.mV k x).length from (slmark_len _ _ _).symm] at this;exact this.mono fun e w' ⟨q, r⟩ => ⟨q, be_eq r⟩
theorem szEnts_u : SzC 63 entsR entsM cell1 := by
 rintro cs x left w ⟨a, b, rfl, g, d, i⟩ f c;exact szEntryS_rep a x b left w i f c (Nat.le_trans g d)
theorem toEnts_u : ToC 66 entsR entsM cell1 := by
 rintro cs x w ⟨a, b, rfl, l1, l2, f⟩ d;refine (toEntryS_rep a x b w f d).mono ?_;rintro e w' ⟨v, rfl, c⟩;exact ⟨[v], rfl, c⟩
theorem eqEnts_u : EqC 69 entsR entsM cell1 := by
 rintro cs ds x w ⟨a, c, rfl, l1, l2, i⟩ ⟨b, d, rfl, k1, k2, f⟩ g;exact eqEntryS_rep a b x c d w i f (Nat.le_trans g (by decide))
theorem mkEnts_u : MkC 72 entsR entsM cell1 := by
 intro S cs x k w h a hm hb;obtain ⟨v, rfl⟩ := own_cell h;have e := lot_e;have e2 : entsM.cV x = slcnt entM x := rfl;exact markEntryS_rep S v k x w a (by omega) (by omega) h
theorem hdEnts_u : HdC 75 entsR entsM cell1 := by
 rintro cs x k w ⟨a, b, rfl, l1, l2, d⟩ c hm hb;have e := lot_e;have e2 : entsM.cV x = slcnt entM x := rfl;have := heldEntryS_rep a b k x w c (by omega) (by omega) d;rw [show x.length = (entsM.mV k x).length from (slmark_len _ _ _).symm] at this;exact this.mono fun e w' ⟨q, r⟩ => ⟨q, be_eq r⟩
variable {α : Type}
def setCs (w : World) (g : Nat) : Nat → List Value → World
 | _, [] => w
 | o, v :: vs => setCs (w.setCell ⟨g, o, none⟩ v) g (o + 1) vs
def putA (cs : Array Value) : Nat → List Value → Array Value
 | _, [] => cs
 | o, v :: vs => putA (cs.setIfInBounds o v) (o + 1) vs
theorem row_setCs {g : Nat} {t : TypeId} : ∀ (vs : List Value) (o : Nat) {w : World} {cs : Array Value}, w.heap[g]? = some (.cells cs t (0, 0)) → (setCs w g o vs).heap[g]? = some (.cells (putA cs o vs) t (0, 0))
 | [], _, _, _, h => h
 | v :: vs, o, w, cs, h => row_setCs vs (o + 1) (heap_setCell_same w g o cs t v h)
theorem chg_setCs {g : Nat} : ∀ (vs : List Value) (o : Nat) (w : World), Chg (fun k => k = g) w (setCs w g o vs)
 | [], _, w => Chg.refl _ w
 | v :: vs, o, w => (show Chg (fun k => k = g) w (w.setCell ⟨g, o, none⟩ v) from ⟨rfl, rfl, rfl, by simp, fun k hk hn => heap_setCell_other w ⟨g, o, none⟩ k v hn⟩).trans (chg_setCs vs (o + 1) _)
theorem setCs_size {g : Nat} : ∀ (vs : List Value) (o : Nat) (w : World), (setCs w g o vs).heap.size = w.heap.size
 | [], _, _ => rfl
 | v :: vs, o, w => (setCs_size vs (o + 1) _).trans (by simp)
theorem below_setCs {a w : World} {B g o : Nat} {vs : List Value} (h : Below B a w) (hB : B ≤ w.heap.size) (hg : B ≤ g) : Below B a (setCs w g o vs) :=
 (chg_setCs vs o w).below h (fun k hk => by have : k = g := hk; omega) hB
theorem below_setCs0 {a w : World} {g o : Nat} {vs : List Value} (h : Bl a w) (hg : a.heap.size ≤ g) : Bl a (setCs w g o vs) := below_setCs h h.size hg
theorem row_otherCs {w : World} {k g o : Nat} {vs : List Value} {ob : Obj} (h : w.heap[k]? = some ob) (hn : k ≠ g) : (setCs w g o vs).heap[k]? = some ob :=
 ((chg_setCs vs o w).block k (ltH h) hn).trans h
theorem own_setCs {R : Rep α} {w : World} {S : Foot} {cs : List Value} {x : α} {g o : Nat} {vs : List Value} (h : R.own w S cs x) (hg : ¬ S g) : R.own (setCs w g o vs) S cs x :=
 own_chg h (chg_setCs vs o w) fun k hk e => by have a : k = g := e; subst a; exact hg hk
theorem owned_setCs {R : Rep α} {w : World} {lo hi : Nat} {cs : List Value} {x : α} {g o : Nat} {vs : List Value} (h : Owned R lo hi w cs x) (hg : g < lo ∨ hi ≤ g) : Owned R lo hi (setCs w g o vs) cs x :=
 ⟨own_setCs h.1 fun hk => by have := hk.1; have := hk.2; omega, by rw [setCs_size]; exact h.2⟩
theorem own_one {e : TypeId} {R : Rep α} {w : World} {S : Foot} {cs : List Value} {x : α} (hs : 0 < R.size) (h : R.own w S cs x) (hS : ∀ k, S k → k < w.heap.size) : (slR e R).own (w.alloc (.cells cs.toArray e)) (fun k => S k ∨ k = w.heap.size) [sL (some ⟨w.heap.size, 0, none⟩) 1 1] [x] := by
 have a := R.rd_len (R.own_rd h);refine ⟨_, cs, S, rfl, World.ownsRow_lit w cs.toArray 1 (Nat.zero_le _) (by decide) (by simp [a]), fun g hg => ?_, fun k hk => .inl hk, ⟨cs, [], S, fun _ => False, by simp, own_box _ h, rfl, Sub.refl _, fun _ h => h.elim, fun _ _ h => h⟩⟩;simp [Value.ownBlock] at hg
 subst hg;exact ⟨.inr rfl, fun hk => Nat.lt_irrefl _ (hS _ hk)⟩
theorem own_nil {e : TypeId} {R : Rep α} (w : World) : (slR e R).own (w.alloc (.cells #[] e)) (fun k => k = w.heap.size) [sL (some ⟨w.heap.size, 0, none⟩) 0 0] [] := by
 refine ⟨_, [], fun _ => False, rfl, World.ownsRow_lit w #[] 0 (Nat.zero_le _) (by decide) (by simp), fun g hg => ?_, fun _ h => h.elim, rfl⟩;simp [Value.ownBlock] at hg
 subst hg;exact ⟨rfl, fun h => h⟩
end Go.Proofs.YtmaopldahnejdaaGreatDoor
