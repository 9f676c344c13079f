import Derived.Test.YtmdhblhdfcocjaaGreatDoorP00Box
import Derived.Test.YtmdhblhdfcocjaaGreatDoorP49
namespace Go.Proofs.YtmdhblhdfcocjaaGreatDoor
set_option maxHeartbeats 4000000
open Go.ChangeShapes Go.WideShapes Go.ChangeAt Go.RowKit
set_option linter.unusedVariables false
theorem bd_op : Bd opM 4 := zDi zDh (zDi zDh (zDi zDh zDh))
theorem bd_msg : Bd zCD 7 := zDi zDh (zDi zDh (zDi zDh (zDi zDh (zDi zDh (zDi (bd_sl zDh) zDh)))))
theorem bv_msgs : Bv zHt 7 := bv_sl bd_msg
theorem bv_core : Bv zEe 10 := zEk (zEk (bv_sl (bd_sl bd_way)) zHW) (zEk (bv_sl bd_op) (zEk zKW (zEk zKW (zEk (zEk zKW (zEk zKW zHW)) zHW))))
theorem zMv {y : zAD} (h : zAY y = true) : zEe.bk y ≤ 8388608 := by
 have a := zB4 h;have e : zEe.bk y = zBa.bk y.1 + (zDl.bk y.2.1 + (0 + (0 + ((0 + (0 + zBn.bk y.2.2.2.2.1.2.2)) + zBn.bk y.2.2.2.2.2)))) := rfl;rw [e, zLi, zGj, zGj];have h1 : zBa.bk y.1 ≤ 1000 := ok_bk a.ok;have h2 : y.2.1.length ≤ 30 := a.len;have h3 := zDX h;have h4 := zF0 h;omega
theorem data_len {d : List Int} (h : zLW d = true) : d.length ≤ 2 := by
 unfold zLW at h;rw [Bool.or_eq_true] at h;rcases h with h | h
 ·rw [List.isEmpty_iff.1 h]; decide
 ·exact lE (zD4 h)
theorem zMw {l : List zB5} (h : zJv l) : zHt.bk l ≤ 8388608 := by
 obtain ⟨a, b⟩ := h;match l, a, b with
 | [], _, _ => decide
 | [m], _, b =>
  have c := b m (List.mem_singleton.2 rfl);have e : zHt.bk [m] = 1 + (zCD.bk m + 0) := rfl;rw [e, zGK, zGj];have hd : m.2.2.2.2.2.1.length ≤ 2 := by
   simp only [msgB, Bool.and_eq_true] at c;exact data_len c.2.2.2.1
  omega
 | _ :: _ :: _, a, _ => simp at a
theorem zEH {k : Int} (h0 : 0 ≤ k) (h1 : k ≤ 1152921504606846976) : zBk k := by constructor <;> omega
theorem cnt_msg (x : zB5) : zCD.cE x = (1 + (1 + (1 + (1 + (1 + (zA1 zBx x.2.2.2.2.2.1 + 1)))))) := rfl
theorem zLy (xs : List zB5) : xs.length ≤ zA1 zCD xs := by
 induction xs with
 | nil => exact Nat.zero_le _
 | cons x xs ih =>
  simp only [zA1, List.map_cons, List.sum_cons, List.length_cons] at ih ⊢;have := cnt_msg x;omega
theorem zJF (k : Int) (w : World) :
    Calls Tryz.prog 15 #[sL none 0 0, nI k] w fun e' w' => e' = .returned (nI k) ∧ w' = w := by
 go_enter Tryz.func15, Tryz.ntmps15;go_wp2;refine wp_loop_rounds 1 ?_;rw [rounds_succ];go_wp2;go_ret
 exact ⟨rfl, rfl⟩
theorem zJG (S : zAW) (v : Value) (k : Int) (xs : List zB5) (w : World) (h0 : 0 ≤ k) (h1 : k ≤ 288230376151711744) (hm : zA1 zCD xs ≤ 288230376151711744) (h : zBp.own w S [v] xs) :
    Calls Tryz.prog 15 #[v, nI k] w fun e' d => e' = .returned (nI (k + zA1 zCD xs)) ∧ zBp.own d S [v] (zBw zCD k xs) ∧ Chg S w d := by
 have LA := zLy xs;rcases zD9 h with ⟨rfl, rfl⟩ | ⟨G, F, rfl, hG⟩
 ·exact (zJF k w).mono fun e d ⟨e1, e2⟩ => ⟨by simpa [zA1] using e1, by rw [e2]; exact h, by rw [e2]; exact Chg.refl _ _⟩
 go_enter Tryz.func15, Tryz.ntmps15;go_wp2;go_loopw [1, 5] (fun q i wr => ∃ j : Nat, j ≤ xs.length ∧ i = nI j ∧ q = nI (k + zA1 zCD (xs.take j)) ∧ zBp.own wr S [sL (some ⟨G, 0, none⟩) xs.length F] (zEh zCD k xs j) ∧ Chg S w wr)
  (fun _ i _ => xs.length - (intOf i).toNat)
 case atStart => exact ⟨0, Nat.zero_le _, rfl, by simp [zA1], by rw [zE0]; exact h, Chg.refl _ _⟩
 case round =>
  obtain ⟨j, hj, rfl, rfl, K, hs⟩ := hrel;by_cases O : j < xs.length
  ·have zA : (j : Int) < (xs.length : Int) := by omega
   obtain ⟨x, z⟩ : ∃ x, xs[j]? = some x := ⟨_, List.getElem?_eq_getElem O⟩;have HT : Hid (zA1 zCD (xs.take (j + 1)) = zA1 zCD (xs.take j) + (1 + (1 + (1 + (1 + (1 + (zA1 zBx x.2.2.2.2.2.1 + 1))))))) := zCv (M := zCD) z;have hT : zA1 zCD (xs.take j) + (1 + (1 + (1 + (1 + (1 + (zA1 zBx x.2.2.2.2.2.1 + 1)))))) ≤ zA1 zCD xs := zCT (M := zCD) z;have y : Hid _ := zE1 (M := zCD) (k := k) z;obtain ⟨g, gA, l, Sj, T, c, hv, A, a, b, Y, r, N, s2, V, o, s5, m⟩ := zBH K (zFg z);simp only [Value.slice.injEq, Option.some.injEq, Addr.mk.injEq, and_true] at hv;obtain ⟨rfl, bA⟩ := hv;obtain ⟨vd, rfl, -, -, -, -, -, -, B⟩ := zKu r;obtain ⟨I, E, rfl⟩ := zBD B;have q0 : wr.cell? ⟨G, j * 7, none⟩ = some (nI x.1) := by rw [cell_of_row wr G _ l _ (0, 0) a]; exact b 0 (by decide)
   have q1 : wr.cell? ⟨G, j * 7 + 1, none⟩ = some (nI x.2.1) := by rw [cell_of_row wr G _ l _ (0, 0) a]; exact b 1 (by decide)
   have q2 : wr.cell? ⟨G, j * 7 + 2, none⟩ = some (nI x.2.2.1) := by rw [cell_of_row wr G _ l _ (0, 0) a]; exact b 2 (by decide)
   have q3 : wr.cell? ⟨G, j * 7 + 3, none⟩ = some (nI x.2.2.2.1) := by rw [cell_of_row wr G _ l _ (0, 0) a]; exact b 3 (by decide)
   have q4 : wr.cell? ⟨G, j * 7 + 4, none⟩ = some (nI x.2.2.2.2.1) := by rw [cell_of_row wr G _ l _ (0, 0) a]; exact b 4 (by decide)
   have q5 : wr.cell? ⟨G, j * 7 + 5, none⟩ = some (sL I x.2.2.2.2.2.1.length E) := by rw [cell_of_row wr G _ l _ (0, 0) a]; exact b 5 (by decide)
   have q6 : wr.cell? ⟨G, j * 7 + 6, none⟩ = some (nI x.2.2.2.2.2.2) := by rw [cell_of_row wr G _ l _ (0, 0) a]; exact b 6 (by decide)
   have r0 : wr.frozen? ⟨G, j * 7, none⟩ = false := frozen_of_row wr G _ _ _ a;have r1 : wr.frozen? ⟨G, j * 7 + 1, none⟩ = false := frozen_of_row wr G _ _ _ a;have r2 : wr.frozen? ⟨G, j * 7 + 2, none⟩ = false := frozen_of_row wr G _ _ _ a;have r3 : wr.frozen? ⟨G, j * 7 + 3, none⟩ = false := frozen_of_row wr G _ _ _ a;have r4 : wr.frozen? ⟨G, j * 7 + 4, none⟩ = false := frozen_of_row wr G _ _ _ a;have r6 : wr.frozen? ⟨G, j * 7 + 6, none⟩ = false := frozen_of_row wr G _ _ _ a;have cA : j * 7 + 6 < l.size := by
    have := b 6 (by decide);exact (Array.getElem?_eq_some_iff.1 (this.trans rfl)).1
   clear bA Y;generalize X : k + (zA1 zCD (xs.take j) : Int) = kk at y ⊢;have CA : 0 ≤ kk ∧ kk ≤ 576460752303423488 := by omega
   have H : G < wr.heap.size := (ltH a);have y0 := a;have y1 := heap_setCell_same _ G (j * 7) _ _ (nI (kk)) y0;have y2 := heap_setCell_same _ G (j * 7 + 1) _ _ (nI (kk + 1)) y1;have y3 := heap_setCell_same _ G (j * 7 + 2) _ _ (nI (kk + 1 + 1)) y2;have y4 := heap_setCell_same _ G (j * 7 + 3) _ _ (nI (kk + 1 + 1 + 1)) y3;have y5 := heap_setCell_same _ G (j * 7 + 4) _ _ (nI (kk + 1 + 1 + 1 + 1)) y4
   have aA : Hid (∀ d : World, d.heap[G]? = some (.cells (((((l.setIfInBounds (j * 7) (nI (kk))).setIfInBounds (j * 7 + 1) (nI (kk + 1))).setIfInBounds (j * 7 + 2) (nI (kk + 1 + 1))).setIfInBounds (j * 7 + 3) (nI (kk + 1 + 1 + 1))).setIfInBounds (j * 7 + 4) (nI (kk + 1 + 1 + 1 + 1))) 46 (0, 0)) → ∃ t, d.cell? ⟨G, j * 7 + 6, none⟩ = some t) := fun d hb => ⟨nI x.2.2.2.2.2.2, by
    rw [cell_of_row d G _ _ _ (0, 0) hb, Array.getElem?_setIfInBounds_ne (by omega), Array.getElem?_setIfInBounds_ne (by omega), Array.getElem?_setIfInBounds_ne (by omega), Array.getElem?_setIfInBounds_ne (by omega), Array.getElem?_setIfInBounds_ne (by omega)]
    exact b 6 (by decide)⟩
   have R : Hid (∀ d, Chg Sj (((((wr.setCell ⟨G, j * 7, none⟩ (nI (kk))).setCell ⟨G, j * 7 + 1, none⟩ (nI (kk + 1))).setCell ⟨G, j * 7 + 2, none⟩ (nI (kk + 1 + 1))).setCell ⟨G, j * 7 + 3, none⟩ (nI (kk + 1 + 1 + 1))).setCell ⟨G, j * 7 + 4, none⟩ (nI (kk + 1 + 1 + 1 + 1))) d → d.heap[G]? = some (.cells (((((l.setIfInBounds (j * 7) (nI (kk))).setIfInBounds (j * 7 + 1) (nI (kk + 1))).setIfInBounds (j * 7 + 2) (nI (kk + 1 + 1))).setIfInBounds (j * 7 + 3) (nI (kk + 1 + 1 + 1))).setIfInBounds (j * 7 + 4) (nI (kk + 1 + 1 + 1 + 1))) 46 (0, 0))) := fun d J => (J.block G (by simpa using H) o).trans y5;have HC : Hid (∀ d, Chg Sj (((((wr.setCell ⟨G, j * 7, none⟩ (nI (kk))).setCell ⟨G, j * 7 + 1, none⟩ (nI (kk + 1))).setCell ⟨G, j * 7 + 2, none⟩ (nI (kk + 1 + 1))).setCell ⟨G, j * 7 + 3, none⟩ (nI (kk + 1 + 1 + 1))).setCell ⟨G, j * 7 + 4, none⟩ (nI (kk + 1 + 1 + 1 + 1))) d → zA5.own d Sj [sL I x.2.2.2.2.2.1.length E] (zBw zBx (kk + 1 + 1 + 1 + 1 + 1) x.2.2.2.2.2.1) → zBp.own (d.setCell ⟨G, j * 7 + 6, none⟩ (nI (kk + 1 + 1 + 1 + 1 + 1 + (zA1 zBx x.2.2.2.2.2.1 : Int)))) S [sL (some ⟨G, 0, none⟩) xs.length F] (zEh zCD k xs (j + 1)) ∧ Chg S wr (d.setCell ⟨G, j * 7 + 6, none⟩ (nI (kk + 1 + 1 + 1 + 1 + 1 + (zA1 zBx x.2.2.2.2.2.1 : Int))))) := by
    intro d J Z;have z0 := R.out d J;have z1 := heap_setCell_same _ G (j * 7 + 6) _ _ (nI (kk + 1 + 1 + 1 + 1 + 1 + (zA1 zBx x.2.2.2.2.2.1 : Int))) z0
    have c1 : Chg S wr (((((wr.setCell ⟨G, j * 7, none⟩ (nI (kk))).setCell ⟨G, j * 7 + 1, none⟩ (nI (kk + 1))).setCell ⟨G, j * 7 + 2, none⟩ (nI (kk + 1 + 1))).setCell ⟨G, j * 7 + 3, none⟩ (nI (kk + 1 + 1 + 1))).setCell ⟨G, j * 7 + 4, none⟩ (nI (kk + 1 + 1 + 1 + 1))) := ⟨rfl, rfl, rfl, by simp, fun i p hn => by
     have f : i ≠ G := fun e => hn (by rw [e]; exact A)
     rw [heap_setCell_other _ ⟨G, j * 7 + 4, none⟩ i _ f, heap_setCell_other _ ⟨G, j * 7 + 3, none⟩ i _ f, heap_setCell_other _ ⟨G, j * 7 + 2, none⟩ i _ f, heap_setCell_other _ ⟨G, j * 7 + 1, none⟩ i _ f, heap_setCell_other _ ⟨G, j * 7, none⟩ i _ f]⟩
    have c2 := c1.trans (J.mono N)
    have c3 : Chg S d (d.setCell ⟨G, j * 7 + 6, none⟩ (nI (kk + 1 + 1 + 1 + 1 + 1 + (zA1 zBx x.2.2.2.2.2.1 : Int)))) := ⟨rfl, rfl, rfl, by simp, fun i p hn => by
     have f : i ≠ G := fun e => hn (by rw [e]; exact A)
     rw [heap_setCell_other _ ⟨G, j * 7 + 6, none⟩ i _ f]⟩
    refine ⟨?_, c2.trans c3⟩;rw [← y.out];have n : zA5.own (d.setCell ⟨G, j * 7 + 6, none⟩ (nI (kk + 1 + 1 + 1 + 1 + 1 + (zA1 zBx x.2.2.2.2.2.1 : Int)))) Sj [sL I x.2.2.2.2.2.1.length E] (zBw zBx (kk + 1 + 1 + 1 + 1 + 1) x.2.2.2.2.2.1) := zAl (Z) o;refine m (d.setCell ⟨G, j * 7 + 6, none⟩ (nI (kk + 1 + 1 + 1 + 1 + 1 + (zA1 zBx x.2.2.2.2.2.1 : Int)))) _ [nI (kk), nI (kk + 1), nI (kk + 1 + 1), nI (kk + 1 + 1 + 1), nI (kk + 1 + 1 + 1 + 1), sL I x.2.2.2.2.2.1.length E, nI (kk + 1 + 1 + 1 + 1 + 1 + (zA1 zBx x.2.2.2.2.2.1 : Int))] _ Sj S z1 (by simp) ?_ ?_ ?_ (zBR (zEH (by omega) (by omega)) (zEH (by omega) (by omega)) (zEH (by omega) (by omega)) (zEH (by omega) (by omega)) (zEH (by omega) (by omega)) (zEH (by omega) (by omega)) n) V o A N s2
    ·intro i p;rw [show zBy.size = 7 from rfl] at p;rw [Array.getElem?_setIfInBounds_ne (by omega), Array.getElem?_setIfInBounds_ne (by omega), Array.getElem?_setIfInBounds_ne (by omega), Array.getElem?_setIfInBounds_ne (by omega), Array.getElem?_setIfInBounds_ne (by omega), Array.getElem?_setIfInBounds_ne (by omega)]
    ·intro i p;rw [show zBy.size = 7 from rfl] at p;rw [show j * zBy.size = j * 7 from rfl];have h3 : i = 0 ∨ i = 1 ∨ i = 2 ∨ i = 3 ∨ i = 4 ∨ i = 5 ∨ i = 6 := by omega
     rcases h3 with rfl | rfl | rfl | rfl | rfl | rfl | rfl
     ·rw [Array.getElem?_setIfInBounds_ne (by omega), Array.getElem?_setIfInBounds_ne (by omega), Array.getElem?_setIfInBounds_ne (by omega), Array.getElem?_setIfInBounds_ne (by omega), Array.getElem?_setIfInBounds_ne (by omega)];rw [Nat.add_zero];rw [Array.getElem?_setIfInBounds_self_of_lt (by first | omega | (simp; omega))];rfl
     ·rw [Array.getElem?_setIfInBounds_ne (by omega), Array.getElem?_setIfInBounds_ne (by omega), Array.getElem?_setIfInBounds_ne (by omega), Array.getElem?_setIfInBounds_ne (by omega)];skip
      rw [Array.getElem?_setIfInBounds_self_of_lt (by first | omega | (simp; omega))];rfl
     ·rw [Array.getElem?_setIfInBounds_ne (by omega), Array.getElem?_setIfInBounds_ne (by omega), Array.getElem?_setIfInBounds_ne (by omega)];skip
      rw [Array.getElem?_setIfInBounds_self_of_lt (by first | omega | (simp; omega))];rfl
     ·rw [Array.getElem?_setIfInBounds_ne (by omega), Array.getElem?_setIfInBounds_ne (by omega)];skip
      rw [Array.getElem?_setIfInBounds_self_of_lt (by first | omega | (simp; omega))];rfl
     ·rw [Array.getElem?_setIfInBounds_ne (by omega)];skip
      rw [Array.getElem?_setIfInBounds_self_of_lt (by first | omega | (simp; omega))];rfl
     ·rw [Array.getElem?_setIfInBounds_ne (by omega), Array.getElem?_setIfInBounds_ne (by omega), Array.getElem?_setIfInBounds_ne (by omega), Array.getElem?_setIfInBounds_ne (by omega), Array.getElem?_setIfInBounds_ne (by omega), Array.getElem?_setIfInBounds_ne (by omega)];exact b 5 (by decide)
     ·skip
      skip
      rw [Array.getElem?_setIfInBounds_self_of_lt (by first | omega | (simp; omega))];rfl
    ·intro i p dA;have f : i ≠ G := fun e => s5 (by rw [← e]; exact p);rw [heap_setCell_other _ ⟨G, j * 7 + 6, none⟩ i _ f, J.block i (by simpa using dA) (fun z => V i z p), heap_setCell_other _ ⟨G, j * 7 + 4, none⟩ i _ f, heap_setCell_other _ ⟨G, j * 7 + 3, none⟩ i _ f, heap_setCell_other _ ⟨G, j * 7 + 2, none⟩ i _ f, heap_setCell_other _ ⟨G, j * 7 + 1, none⟩ i _ f, heap_setCell_other _ ⟨G, j * 7, none⟩ i _ f]
   have HO : Hid (zA5.own (((((wr.setCell ⟨G, j * 7, none⟩ (nI (kk))).setCell ⟨G, j * 7 + 1, none⟩ (nI (kk + 1))).setCell ⟨G, j * 7 + 2, none⟩ (nI (kk + 1 + 1))).setCell ⟨G, j * 7 + 3, none⟩ (nI (kk + 1 + 1 + 1))).setCell ⟨G, j * 7 + 4, none⟩ (nI (kk + 1 + 1 + 1 + 1))) Sj [sL I x.2.2.2.2.2.1.length E] x.2.2.2.2.2.1) := zAl (zAl (zAl (zAl (zAl (B) o) o) o) o) o;clear z K r m b a N s2 V o s5 y h B cA H y0 y1 y2 y3 y4 y5;generalize zA1 zCD (xs.take j) = TT at HT hT X;go_wp2_with fail
   refine (zCi Sj _ _ x.2.2.2.2.2.1 _ (by omega) (by omega) (by omega) HO.out).mono ?_;rintro e d ⟨rfl, s, gr⟩;have U := R.out d gr;obtain ⟨n, C⟩ := HC.out d gr s;have D := hs.trans C;have HF : Hid _ := aI n D;clear s gr C HC HO n D R q0 q1 q2 q3 q4 q5 q6 r0 r1 r2 r3 r4 r6;obtain ⟨t6, KA⟩ : ∃ t, d.cell? ⟨G, j * 7 + 6, none⟩ = some t := aA.out d U;have r6 : d.frozen? ⟨G, j * 7 + 6, none⟩ = false := frozen_of_row d G _ _ _ U;clear U;go_wp2;go_roundw
   case rel => exact ⟨j + 1, by omega, by go_num, by rw [HT.out]; congr 1; omega, HF.out.1, HF.out.2⟩
   case measure => simp [intOf]; omega
  ·have L : j = xs.length := by omega
   subst L;rw [List.take_length];rw [zFf] at K;go_wp2;go_ret
   exact ⟨rfl, K, hs⟩
theorem zJH (a : Option Addr) (cap : Nat) (k : Int) (xs : List zB5) (w : World) (h0 : 0 ≤ k) (h1 : k ≤ 288230376151711744) (hm : zA1 zCD xs ≤ 288230376151711744) (h : zBg zBy w a (zBw zCD k xs)) :
    Calls Tryz.prog 17 #[sL a xs.length cap, nI k] w fun e' D => e' = .returned (nI (k + zA1 zCD xs)) ∧ D = w := by
 have S := zLy xs;go_enter Tryz.func17, Tryz.ntmps17;go_wp2;go_loop [1, 5] (fun q i => ∃ j : Nat, j ≤ xs.length ∧ i = nI j ∧ q = nI (k + zA1 zCD (xs.take j))) (fun _ i => xs.length - (intOf i).toNat)
 case atStart => exact ⟨0, Nat.zero_le _, rfl, by simp [zA1]⟩
 case round =>
  obtain ⟨j, hj, rfl, rfl⟩ := hrel;by_cases p : j < xs.length
  ·have v : (j : Int) < (xs.length : Int) := by omega
   obtain ⟨x, m⟩ : ∃ x, xs[j]? = some x := ⟨_, List.getElem?_eq_getElem p⟩;obtain ⟨b, c, cs, rfl, g, d⟩ := zBG h (zD7 (M := zCD) (k := k) m);obtain ⟨F, N, rfl, -, -, -, -, -, -, -, -, l⟩ := zBB g;obtain ⟨r, B, C, s, A, H, y⟩ := cellsAt7 d rfl;have f : (zCD.mE (k + zA1 zCD (xs.take j)) x).2.2.2.2.2.1.length = x.2.2.2.2.2.1.length := zBF _ _ _;rw [f] at H;have z : Hid (zBg zBC w F (zBw zBx (k + zA1 zCD (xs.take j) + 1 + 1 + 1 + 1 + 1) x.2.2.2.2.2.1)) := l;have I : w.cell? ⟨b, c + j * 7, none⟩ = some (nI (k + zA1 zCD (xs.take j))) := r;have R : w.cell? ⟨b, c + j * 7 + 1, none⟩ = some (nI (k + zA1 zCD (xs.take j) + 1)) := B;have J : w.cell? ⟨b, c + j * 7 + 2, none⟩ = some (nI (k + zA1 zCD (xs.take j) + 1 + 1)) := C;have L : w.cell? ⟨b, c + j * 7 + 3, none⟩ = some (nI (k + zA1 zCD (xs.take j) + 1 + 1 + 1)) := s;have K : w.cell? ⟨b, c + j * 7 + 4, none⟩ = some (nI (k + zA1 zCD (xs.take j) + 1 + 1 + 1 + 1)) := A;have T : w.cell? ⟨b, c + j * 7 + 6, none⟩ = some (nI (k + zA1 zCD (xs.take j) + 1 + 1 + 1 + 1 + 1 + (zA1 zBx x.2.2.2.2.2.1 : Int))) := y;have E : Hid (zA1 zCD (xs.take (j + 1)) = zA1 zCD (xs.take j) + (1 + (1 + (1 + (1 + (1 + (zA1 zBx x.2.2.2.2.2.1 + 1))))))) := zCv (M := zCD) m;have O : zA1 zCD (xs.take j) + (1 + (1 + (1 + (1 + (1 + (zA1 zBx x.2.2.2.2.2.1 + 1)))))) ≤ zA1 zCD xs := zCT (M := zCD) m;clear m g d h f l r B C s A y;generalize n : k + (zA1 zCD (xs.take j) : Int) = kk at z I R J L K T ⊢;generalize zA1 zCD (xs.take j) = TT at E O n;have G : 0 ≤ kk ∧ kk ≤ 576460752303423488 := by omega
   have hn : ¬ (kk + 1 + 1 + 1 + 1 + 1 + ((zA1 zBx x.2.2.2.2.2.1 : Nat) : Int) < 0) := by omega
   go_wp2_with (go_at_call 48; refine (zC6 _ _ _ x.2.2.2.2.2.1 _ (by omega) (by omega) (by omega) z.out).mono ?_; rintro e D ⟨rfl, rfl⟩)
   go_round
   case rel => exact ⟨j + 1, by omega, by go_num, by rw [E.out]; congr 1; omega⟩
   case measure => simp [intOf]; omega
  ·have o : j = xs.length := by omega
   subst o;rw [List.take_length];go_wp2;go_ret
   exact ⟨rfl, rfl⟩
theorem zKM (S : zAW) (f0 f1 f2 f3 f4 f6 : Int) (v : Value) (k : Int) (d : List Int) (w : World) (h0 : 0 ≤ k) (h1 : k ≤ 288230376151711744) (hm : zA1 zBx d ≤ 288230376151711744) (h : zA5.own w S [v] d) :
    Calls Tryz.prog 14 #[.agg #[nI f0, nI f1, nI f2, nI f3, nI f4, v, nI f6], nI k] w fun e' a => e' = .returned (nI (k + zA1 zBx d)) ∧ zA5.own a S [v] (zBw zBx k d) ∧ Chg S w a := by
 obtain ⟨c, b, rfl⟩ := zBD h;have g := zBQ (.cells #[nI f0, nI f1, nI f2, nI f3, nI f4, sL c d.length b, nI f6] 46) (zBM h);have j := zAf w (.cells #[nI f0, nI f1, nI f2, nI f3, nI f4, sL c d.length b, nI f6] 46);have m := zCi (Old w S) (sL c d.length b) k d _ h0 (by omega) (by omega) g;have n : Hid _ := j;clear h g j;go_enter Tryz.func14, Tryz.ntmps14;go_wp2_with fail
 refine m.mono ?_;rintro e a ⟨rfl, i, l⟩;have f : Hid _ := aI i l;clear i l m;go_wp2;go_ret
 exact ⟨rfl, zA5.own_mono f.out.1 zB6, ((zA9 n.out).trans f.out.2).mono zB6⟩
theorem msg_shape {w : World} {cs : List Value} {x : zB5} (h : zBy.rd w cs x) : ∃ (ga : Option Addr) (gc : Nat), cs = [nI x.1, nI x.2.1, nI x.2.2.1, nI x.2.2.2.1, nI x.2.2.2.2.1, sL ga x.2.2.2.2.2.1.length gc, nI x.2.2.2.2.2.2] := by
 obtain ⟨a, b, e, -⟩ := zBB h;exact ⟨a, b, e⟩
theorem msg_cV (x : zB5) : zCD.cV x = zA1 zBx x.2.2.2.2.2.1 := by show 0 + (0 + (0 + (0 + (0 + (zA1 zBx x.2.2.2.2.2.1 + 0))))) = _; omega
theorem msg_mV (k : Int) (x : zB5) : zCD.mV k x = (x.1, x.2.1, x.2.2.1, x.2.2.2.1, x.2.2.2.2.1, zBw zBx k x.2.2.2.2.2.1, x.2.2.2.2.2.2) := by
 show (x.1, x.2.1, x.2.2.1, x.2.2.2.1, x.2.2.2.2.1, zBw zBx (k + 0 + 0 + 0 + 0 + 0) x.2.2.2.2.2.1, x.2.2.2.2.2.2) = _
 rw [Int.add_zero, Int.add_zero, Int.add_zero, Int.add_zero, Int.add_zero]
theorem szMsg_u : SzC 5 zBy zCD zBh := by
 intro cs x left w h f g;obtain ⟨a, b, rfl, i0, i1, i2, i3, i4, i6, d, c, l3⟩ := zBB h;exact zMX x.1 x.2.1 x.2.2.1 x.2.2.2.1 x.2.2.2.2.1 x.2.2.2.2.2.2 x.2.2.2.2.2.1 a b left w f g (Nat.le_trans d c)
theorem toMsg_u : ToC 8 zBy zCD zBh := by
 intro cs x w h g;obtain ⟨a, b, rfl, d, k, c, j, i, m, l1, l2, f⟩ := zBB h;refine (zMY x.1 x.2.1 x.2.2.1 x.2.2.2.1 x.2.2.2.2.1 x.2.2.2.2.2.2 x.2.2.2.2.2.1 a b w d k c j i m f (by rw [← zGK]; exact g)).mono ?_;rintro e w' ⟨av, cv, rfl, l⟩;exact ⟨_, rfl, l⟩
theorem eqMsg_u : EqC 12 zBy zCD zBh := by
 intro cs ds x w h k hm;obtain ⟨a, c, rfl, i0, i1, i2, i3, i4, i6, l1, l2, d⟩ := zBB h;obtain ⟨b, f, rfl, -, -, -, -, -, -, k1, k2, g⟩ := zBB k;exact zJq x.1 x.2.1 x.2.2.1 x.2.2.2.1 x.2.2.2.2.1 x.2.2.2.2.2.2 x.2.2.2.2.2.1 a b c f w d g (by rw [← zGK]; have : lot = 4398046511104 := rfl; omega)
theorem mkMsg_u : MkC 14 zBy zCD zBh := by
 intro S cs x k w h f c hb;obtain ⟨v, rfl, b, i, a, g, d, j, o⟩ := zKu h;have e : lot = 4398046511104 := rfl;rw [msg_cV] at c ⊢;rw [msg_mV];refine (zKM S x.1 x.2.1 x.2.2.1 x.2.2.2.1 x.2.2.2.2.1 x.2.2.2.2.2.2 v k x.2.2.2.2.2.1 w f (by omega) (by omega) o).mono ?_;rintro e w' ⟨q, r, s⟩;exact ⟨q, zBR b i a g d j r, s⟩
theorem bv_msg (x : zB5) : zCD.cV x ≤ 7 * zCD.bk x := by
 rw [msg_cV, zGK];have h : zA1 zBx x.2.2.2.2.2.1 ≤ 1 * zBn.bk x.2.2.2.2.2.1 := zHW x.2.2.2.2.2.1;omega
theorem got_small (x : zAD) (id : Int) (m : zB5) : zEe.bk x ≤ 1048576 → zCD.bk m ≤ 1048576 → zEe.bk (zMu x id m).1 ≤ 8388608 ∧ zHt.bk (zMu x id m).2.1 ≤ 8388608 := by
 intro _ _;unfold zMu;split
 ·rename_i h
  rw [Bool.and_eq_true] at h;have a : 0 ≤ id ∧ id ≤ 3 := by simpa [zAP] using h.2
  obtain ⟨b, c, -⟩ := zLp (zB4 h.1) a m;exact ⟨zMv (zI9.2 b), zMw c⟩
 ·exact ⟨by decide, by decide⟩
theorem msg_data {m : zB5} (h : zCD.bk m ≤ 1048576) : m.2.2.2.2.2.1.length ≤ 1048576 := by
 rw [zGK, zGj] at h;exact h
theorem below_set9 {V w : World} {D g : Nat} {c0 c1 c2 c3 c4 c5 c6 c7 c8 : Value} (h : Below D V w) (hg : D ≤ g) : Below D V (((((((((w.setCell ⟨g, 0, none⟩ c0).setCell ⟨g, 1, none⟩ c1).setCell ⟨g, 2, none⟩ c2).setCell ⟨g, 3, none⟩ c3).setCell ⟨g, 4, none⟩ c4).setCell ⟨g, 5, none⟩ c5).setCell ⟨g, 6, none⟩ c6).setCell ⟨g, 7, none⟩ c7).setCell ⟨g, 8, none⟩ c8) :=
 zAq (zAq (zAq (zAq (zAq (zAq (zAq (zAq (zAq h hg) hg) hg) hg) hg) hg) hg) hg) hg
def RegS (V : World) (y : zAD) (l : List zB5) (k : Int) (p q r : Value) (wx : World) : Prop := ∃ (zb lo hi : Nat) (ga gb ha ia ja sa : Option Addr) (gc gd hc ic jc sc : Nat), p = .pointer (some ⟨zb, 0, none⟩) ∧ q = .slice sa l.length sc ∧ r = .int .i64 k ∧ V.heap.size ≤ zb ∧ V.heap.size ≤ lo ∧ (zb < lo ∨ hi ≤ zb) ∧ wx.heap[zb]? = some (.cells #[.slice ga y.1.1.length gc, .slice gb y.1.2.length gd, .slice ha y.2.1.length hc, .int .i64 y.2.2.1, .int .i64 y.2.2.2.1, .int .i64 y.2.2.2.2.1.1, .int .i64 y.2.2.2.2.1.2.1, .slice ia y.2.2.2.2.1.2.2.length ic, .slice ja y.2.2.2.2.2.length jc] 41 (0, 0)) ∧ zCp zAn lo hi wx [.slice ga y.1.1.length gc, .slice gb y.1.2.length gd, .slice ha y.2.1.length hc, .int .i64 y.2.2.1, .int .i64 y.2.2.2.1, .int .i64 y.2.2.2.2.1.1, .int .i64 y.2.2.2.2.1.2.1, .slice ia y.2.2.2.2.1.2.2.length ic, .slice ja y.2.2.2.2.2.length jc] y ∧ zCp zBp lo hi wx [.slice sa l.length sc] l ∧ Below V.heap.size V wx
theorem RegS_a {V cur wf : World} {y : zAD} {l : List zB5} {k : Int} {ga gb ha ia ja sa : Option Addr} {gc gd hc ic jc sc : Nat} (o0 : zAn.own wf (rng cur.heap.size wf.heap.size) [sL ga y.1.1.length gc, sL gb y.1.2.length gd, sL ha y.2.1.length hc, nI y.2.2.1, nI y.2.2.2.1, nI y.2.2.2.2.1.1, nI y.2.2.2.2.1.2.1, sL ia y.2.2.2.2.1.2.2.length ic, sL ja y.2.2.2.2.2.length jc] y) (o1 : zBp.own wf (rng cur.heap.size wf.heap.size) [sL sa l.length sc] l) (hcur : V.heap.size ≤ cur.heap.size) (hb : Bl V wf) :
    RegS V y l k (.pointer (some ⟨wf.heap.size, 0, none⟩)) (sL sa l.length sc) (nI k) (wf.alloc (.cells #[sL ga y.1.1.length gc, sL gb y.1.2.length gd, sL ha y.2.1.length hc, nI y.2.2.1, nI y.2.2.2.1, nI y.2.2.2.2.1.1, nI y.2.2.2.2.1.2.1, sL ia y.2.2.2.2.1.2.2.length ic, sL ja y.2.2.2.2.2.length jc] 41)) := by
 have a := zAf wf (.cells #[sL ga y.1.1.length gc, sL gb y.1.2.length gd, sL ha y.2.1.length hc, nI y.2.2.1, nI y.2.2.2.1, nI y.2.2.2.2.1.1, nI y.2.2.2.2.1.2.1, sL ia y.2.2.2.2.1.2.2.length ic, sL ja y.2.2.2.2.2.length jc] 41);exact ⟨wf.heap.size, cur.heap.size, wf.heap.size, ga, gb, ha, ia, ja, sa, gc, gd, hc, ic, jc, sc, rfl, rfl, rfl, hb.size, hcur, .inr (Nat.le_refl _), zAx _ _, ⟨zAn.own_keep o0 (zAh a), by rw [zAp]; omega⟩, ⟨zBp.own_keep o1 (zAh a), by rw [zAp]; omega⟩, zAb hb a⟩
theorem RegS_b {V cur wf : World} {zb : Nat} {y : zAD} {l : List zB5} {k : Int} {ga gb ha ia ja sa : Option Addr} {gc gd hc ic jc sc : Nat} {z0 z1 z2 z3 z4 z5 z6 z7 z8 : Value} (z : wf.heap[zb]? = some (.cells #[z0, z1, z2, z3, z4, z5, z6, z7, z8] 41 (0, 0))) (o0 : zAn.own wf (rng cur.heap.size wf.heap.size) [sL ga y.1.1.length gc, sL gb y.1.2.length gd, sL ha y.2.1.length hc, nI y.2.2.1, nI y.2.2.2.1, nI y.2.2.2.2.1.1, nI y.2.2.2.2.1.2.1, sL ia y.2.2.2.2.1.2.2.length ic, sL ja y.2.2.2.2.2.length jc] y) (o1 : zBp.own wf (rng cur.heap.size wf.heap.size) [sL sa l.length sc] l) (h1 : V.heap.size ≤ zb) (h2 : zb < cur.heap.size) (hcur : V.heap.size ≤ cur.heap.size) (hb : Bl V wf) :
    RegS V y l k (.pointer (some ⟨zb, 0, none⟩)) (sL sa l.length sc) (nI k) (((((((((wf.setCell ⟨zb, 0, none⟩ (sL ga y.1.1.length gc)).setCell ⟨zb, 1, none⟩ (sL gb y.1.2.length gd)).setCell ⟨zb, 2, none⟩ (sL ha y.2.1.length hc)).setCell ⟨zb, 3, none⟩ (nI y.2.2.1)).setCell ⟨zb, 4, none⟩ (nI y.2.2.2.1)).setCell ⟨zb, 5, none⟩ (nI y.2.2.2.2.1.1)).setCell ⟨zb, 6, none⟩ (nI y.2.2.2.2.1.2.1)).setCell ⟨zb, 7, none⟩ (sL ia y.2.2.2.2.1.2.2.length ic)).setCell ⟨zb, 8, none⟩ (sL ja y.2.2.2.2.2.length jc)) := by
 have a : (zAo wf zb 0 [sL ga y.1.1.length gc, sL gb y.1.2.length gd, sL ha y.2.1.length hc, nI y.2.2.1, nI y.2.2.2.1, nI y.2.2.2.2.1.1, nI y.2.2.2.2.1.2.1, sL ia y.2.2.2.2.1.2.2.length ic, sL ja y.2.2.2.2.2.length jc]).heap.size = wf.heap.size := zAj _ _ _;have b : RegS V y l k (.pointer (some ⟨zb, 0, none⟩)) (sL sa l.length sc) (nI k) (zAo wf zb 0 [sL ga y.1.1.length gc, sL gb y.1.2.length gd, sL ha y.2.1.length hc, nI y.2.2.1, nI y.2.2.2.1, nI y.2.2.2.2.1.1, nI y.2.2.2.2.1.2.1, sL ia y.2.2.2.2.1.2.2.length ic, sL ja y.2.2.2.2.2.length jc]) := ⟨zb, cur.heap.size, wf.heap.size, ga, gb, ha, ia, ja, sa, gc, gd, hc, ic, jc, sc, rfl, rfl, rfl, h1, hcur, .inl h2, zAU (y0 := sL ga y.1.1.length gc) (y1 := sL gb y.1.2.length gd) (y2 := sL ha y.2.1.length hc) (y3 := nI y.2.2.1) (y4 := nI y.2.2.2.1) (y5 := nI y.2.2.2.2.1.1) (y6 := nI y.2.2.2.2.1.2.1) (y7 := sL ia y.2.2.2.2.1.2.2.length ic) (y8 := sL ja y.2.2.2.2.2.length jc) z, ⟨zAs (g := zb) (o := 0) (vs := [sL ga y.1.1.length gc, sL gb y.1.2.length gd, sL ha y.2.1.length hc, nI y.2.2.1, nI y.2.2.2.1, nI y.2.2.2.2.1.1, nI y.2.2.2.2.1.2.1, sL ia y.2.2.2.2.1.2.2.length ic, sL ja y.2.2.2.2.2.length jc]) o0 (fun q => by have := q.1; omega), by rw [a]; omega⟩, ⟨zAs (g := zb) (o := 0) (vs := [sL ga y.1.1.length gc, sL gb y.1.2.length gd, sL ha y.2.1.length hc, nI y.2.2.1, nI y.2.2.2.1, nI y.2.2.2.2.1.1, nI y.2.2.2.2.1.2.1, sL ia y.2.2.2.2.1.2.2.length ic, sL ja y.2.2.2.2.2.length jc]) o1 (fun q => by have := q.1; omega), by rw [a]; omega⟩, zAv (g := zb) (o := 0) (vs := [sL ga y.1.1.length gc, sL gb y.1.2.length gd, sL ha y.2.1.length hc, nI y.2.2.1, nI y.2.2.2.1, nI y.2.2.2.2.1.1, nI y.2.2.2.2.1.2.1, sL ia y.2.2.2.2.1.2.2.length ic, sL ja y.2.2.2.2.2.length jc]) hb h1⟩;simp only [zA0, zA3, Nat.reduceAdd] at b;exact b
def RegI (V : World) (y : zAD) (l : List zB5) (k : Int) (p q r : Value) (wx : World) : Prop := ∃ (zb lo hi : Nat) (ga gb ha ia ja sa : Option Addr) (gc gd hc ic jc sc : Nat), p = .pointer (some ⟨zb, 0, none⟩) ∧ q = .slice sa l.length sc ∧ r = .int .i64 k ∧ V.heap.size ≤ zb ∧ V.heap.size ≤ lo ∧ (zb < lo ∨ hi ≤ zb) ∧ wx.heap[zb]? = some (.cells #[.slice ga y.1.1.length gc, .slice gb y.1.2.length gd, .slice ha y.2.1.length hc, .int .i64 y.2.2.1, .int .i64 y.2.2.2.1, .int .i64 y.2.2.2.2.1.1, .int .i64 y.2.2.2.2.1.2.1, .slice ia y.2.2.2.2.1.2.2.length ic, .slice ja y.2.2.2.2.2.length jc] 41 (0, 0)) ∧ zCp (zBP zAn zBp) lo hi wx ([.slice ga y.1.1.length gc, .slice gb y.1.2.length gd, .slice ha y.2.1.length hc, .int .i64 y.2.2.1, .int .i64 y.2.2.2.1, .int .i64 y.2.2.2.2.1.1, .int .i64 y.2.2.2.2.1.2.1, .slice ia y.2.2.2.2.1.2.2.length ic, .slice ja y.2.2.2.2.2.length jc] ++ [.slice sa l.length sc]) (y, l) ∧ Below V.heap.size V wx
theorem RegI_a {V cur wf : World} {y : zAD} {l : List zB5} {k : Int} {ga gb ha ia ja sa : Option Addr} {gc gd hc ic jc sc : Nat} (o0 : (zBP zAn zBp).own wf (rng cur.heap.size wf.heap.size) ([sL ga y.1.1.length gc, sL gb y.1.2.length gd, sL ha y.2.1.length hc, nI y.2.2.1, nI y.2.2.2.1, nI y.2.2.2.2.1.1, nI y.2.2.2.2.1.2.1, sL ia y.2.2.2.2.1.2.2.length ic, sL ja y.2.2.2.2.2.length jc] ++ [sL sa l.length sc]) (y, l)) (hcur : V.heap.size ≤ cur.heap.size) (hb : Bl V wf) :
    RegI V y l k (.pointer (some ⟨wf.heap.size, 0, none⟩)) (sL sa l.length sc) (nI k) (wf.alloc (.cells #[sL ga y.1.1.length gc, sL gb y.1.2.length gd, sL ha y.2.1.length hc, nI y.2.2.1, nI y.2.2.2.1, nI y.2.2.2.2.1.1, nI y.2.2.2.2.1.2.1, sL ia y.2.2.2.2.1.2.2.length ic, sL ja y.2.2.2.2.2.length jc] 41)) := by
 have a := zAf wf (.cells #[sL ga y.1.1.length gc, sL gb y.1.2.length gd, sL ha y.2.1.length hc, nI y.2.2.1, nI y.2.2.2.1, nI y.2.2.2.2.1.1, nI y.2.2.2.2.1.2.1, sL ia y.2.2.2.2.1.2.2.length ic, sL ja y.2.2.2.2.2.length jc] 41);exact ⟨wf.heap.size, cur.heap.size, wf.heap.size, ga, gb, ha, ia, ja, sa, gc, gd, hc, ic, jc, sc, rfl, rfl, rfl, hb.size, hcur, .inr (Nat.le_refl _), zAx _ _, ⟨(zBP zAn zBp).own_keep o0 (zAh a), by rw [zAp]; omega⟩, zAb hb a⟩
theorem RegI_b {V cur wf : World} {zb : Nat} {y : zAD} {l : List zB5} {k : Int} {ga gb ha ia ja sa : Option Addr} {gc gd hc ic jc sc : Nat} {z0 z1 z2 z3 z4 z5 z6 z7 z8 : Value} (z : wf.heap[zb]? = some (.cells #[z0, z1, z2, z3, z4, z5, z6, z7, z8] 41 (0, 0))) (o0 : (zBP zAn zBp).own wf (rng cur.heap.size wf.heap.size) ([sL ga y.1.1.length gc, sL gb y.1.2.length gd, sL ha y.2.1.length hc, nI y.2.2.1, nI y.2.2.2.1, nI y.2.2.2.2.1.1, nI y.2.2.2.2.1.2.1, sL ia y.2.2.2.2.1.2.2.length ic, sL ja y.2.2.2.2.2.length jc] ++ [sL sa l.length sc]) (y, l)) (h1 : V.heap.size ≤ zb) (h2 : zb < cur.heap.size) (hcur : V.heap.size ≤ cur.heap.size) (hb : Bl V wf) :
    RegI V y l k (.pointer (some ⟨zb, 0, none⟩)) (sL sa l.length sc) (nI k) (((((((((wf.setCell ⟨zb, 0, none⟩ (sL ga y.1.1.length gc)).setCell ⟨zb, 1, none⟩ (sL gb y.1.2.length gd)).setCell ⟨zb, 2, none⟩ (sL ha y.2.1.length hc)).setCell ⟨zb, 3, none⟩ (nI y.2.2.1)).setCell ⟨zb, 4, none⟩ (nI y.2.2.2.1)).setCell ⟨zb, 5, none⟩ (nI y.2.2.2.2.1.1)).setCell ⟨zb, 6, none⟩ (nI y.2.2.2.2.1.2.1)).setCell ⟨zb, 7, none⟩ (sL ia y.2.2.2.2.1.2.2.length ic)).setCell ⟨zb, 8, none⟩ (sL ja y.2.2.2.2.2.length jc)) := by
 have b : (zAo wf zb 0 [sL ga y.1.1.length gc, sL gb y.1.2.length gd, sL ha y.2.1.length hc, nI y.2.2.1, nI y.2.2.2.1, nI y.2.2.2.2.1.1, nI y.2.2.2.2.1.2.1, sL ia y.2.2.2.2.1.2.2.length ic, sL ja y.2.2.2.2.2.length jc]).heap.size = wf.heap.size := zAj _ _ _;have a : RegI V y l k (.pointer (some ⟨zb, 0, none⟩)) (sL sa l.length sc) (nI k) (zAo wf zb 0 [sL ga y.1.1.length gc, sL gb y.1.2.length gd, sL ha y.2.1.length hc, nI y.2.2.1, nI y.2.2.2.1, nI y.2.2.2.2.1.1, nI y.2.2.2.2.1.2.1, sL ia y.2.2.2.2.1.2.2.length ic, sL ja y.2.2.2.2.2.length jc]) := ⟨zb, cur.heap.size, wf.heap.size, ga, gb, ha, ia, ja, sa, gc, gd, hc, ic, jc, sc, rfl, rfl, rfl, h1, hcur, .inl h2, zAU (y0 := sL ga y.1.1.length gc) (y1 := sL gb y.1.2.length gd) (y2 := sL ha y.2.1.length hc) (y3 := nI y.2.2.1) (y4 := nI y.2.2.2.1) (y5 := nI y.2.2.2.2.1.1) (y6 := nI y.2.2.2.2.1.2.1) (y7 := sL ia y.2.2.2.2.1.2.2.length ic) (y8 := sL ja y.2.2.2.2.2.length jc) z, ⟨zAs (g := zb) (o := 0) (vs := [sL ga y.1.1.length gc, sL gb y.1.2.length gd, sL ha y.2.1.length hc, nI y.2.2.1, nI y.2.2.2.1, nI y.2.2.2.2.1.1, nI y.2.2.2.2.1.2.1, sL ia y.2.2.2.2.1.2.2.length ic, sL ja y.2.2.2.2.2.length jc]) o0 (fun q => by have := q.1; omega), by rw [b]; omega⟩, zAv (g := zb) (o := 0) (vs := [sL ga y.1.1.length gc, sL gb y.1.2.length gd, sL ha y.2.1.length hc, nI y.2.2.1, nI y.2.2.2.1, nI y.2.2.2.2.1.1, nI y.2.2.2.2.1.2.1, sL ia y.2.2.2.2.1.2.2.length ic, sL ja y.2.2.2.2.2.length jc]) hb h1⟩;simp only [zA0, zA3, Nat.reduceAdd] at a;exact a
theorem eqMsgs_u : EqC 11 zBp zHt zEc := by
 rintro cs ds x w ⟨a, c, rfl, l1, l2, g⟩ ⟨b, d, rfl, k1, k2, f⟩ i;exact zLV a b x c d w g f (Nat.le_trans i (by decide))
theorem mkMsgs_u : MkC 15 zBp zHt zEc := by
 intro S cs x k w h a hm hb;obtain ⟨v, rfl⟩ := zHU h;have e : lot = 4398046511104 := rfl;have e2 : zHt.cV x = zA1 zCD x := rfl;exact zJG S v k x w a (by omega) (by omega) h
theorem hdMsgs_u : HdC 17 zBp zHt zEc := by
 rintro cs x k w ⟨a, b, rfl, l1, l2, c⟩ d hm hb;have e : lot = 4398046511104 := rfl;have e2 : zHt.cV x = zA1 zCD x := rfl;have := zJH a b k x w d (by omega) (by omega) c;rw [show x.length = (zHt.mV k x).length from (zBF _ _ _).symm] at this;exact this.mono fun e w' ⟨q, r⟩ => ⟨q, zFj r⟩
end Go.Proofs.YtmdhblhdfcocjaaGreatDoor
