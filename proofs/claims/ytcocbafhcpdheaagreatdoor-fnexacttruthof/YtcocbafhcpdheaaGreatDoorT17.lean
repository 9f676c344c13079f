import Derived.Test.YtcocbafhcpdheaaGreatDoorT00Box
import Derived.Test.YtcocbafhcpdheaaGreatDoorT16
import Derived.Test.YtcocbafhcpdheaaGreatDoorT15
namespace Go.Proofs.YtcocbafhcpdheaaGreatDoor
set_option maxHeartbeats 8000000
set_option maxRecDepth 20000
open Go.ChangeShapes Go.WideShapes Go.ChangeAt Go.RowKit
set_option linter.unusedVariables false
theorem zC6 {S : zBo} {w W : World} {g o : Nat} {v : Value} (h : Chg S w W) (hg : S g) : Chg S w (W.setCell ⟨g, o, none⟩ v) :=
 ⟨h.os, h.tape, h.output, by have := h.size; simpa using this, fun k hk hn => by rw [heap_setCell_other _ ⟨g, o, none⟩ k _ (fun e => hn (by rw [e]; exact hg))]; exact h.block k hk hn⟩
theorem zE9 {k : Int} (h0 : 0 ≤ k) (h1 : k ≤ 1152921504606846976) : zAN k := by constructor <;> omega
theorem cnt_ent (x : zAW) : zDv.cE x = (1 + (1 + (1 + (1 + (1 + (1 + (1 + zAt zBa x.2.2.2.2.2.2.2))))))) := rfl
theorem cnt_ents (xs : List zAW) : xs.length ≤ zAt zDv xs := by
 induction xs with
 | nil => exact Nat.zero_le _
 | cons x xs ih =>
  simp only [zAt, List.map_cons, List.sum_cons, List.length_cons] at ih ⊢;have := cnt_ent x;omega
theorem zHo (k : Int) (w : World) :
    Calls Tryz.prog 85 #[.slice none 0 0, .int .i64 k] w fun e' w' => e' = .returned (.int .i64 k) ∧ w' = w := by
 go_enter Tryz.func85, Tryz.ntmps85;go_wp2;refine wp_loop_rounds 1 ?_;rw [rounds_succ];go_wp2;go_ret
 exact ⟨rfl, rfl⟩
theorem zHp (S : zBo) (v : Value) (k : Int) (xs : List zAW) (w : World) (h0 : 0 ≤ k) (h1 : k ≤ 288230376151711744) (hm : zAt zDv xs ≤ 288230376151711744) (h : zDC.own w S [v] xs) :
    Calls Tryz.prog 85 #[v, .int .i64 k] w fun e' d => e' = .returned (.int .i64 (k + zAt zDv xs)) ∧ zDC.own d S [v] (zAT zDv k xs) ∧ Chg S w d := by
 have NA := cnt_ents xs;rcases zCg h with ⟨rfl, rfl⟩ | ⟨G, C, rfl, hG⟩
 ·exact (zHo k w).mono fun e d ⟨e1, e2⟩ => ⟨by simpa [zAt] using e1, by rw [e2]; exact h, by rw [e2]; exact Chg.refl _ _⟩
 go_enter Tryz.func85, Tryz.ntmps85;go_wp2;go_loopw [1, 5] (fun q i wr => ∃ j : Nat, j ≤ xs.length ∧ i = .int .i64 j ∧ q = .int .i64 (k + zAt zDv (xs.take j)) ∧ zDC.own wr S [.slice (some ⟨G, 0, none⟩) xs.length C] (zCP zDv k xs j) ∧ Chg S w wr)
  (fun _ i _ => xs.length - (intOf i).toNat)
 case atStart => exact ⟨0, Nat.zero_le _, rfl, by simp [zAt], by rw [zCv]; exact h, Chg.refl _ _⟩
 case round =>
  obtain ⟨j, hj, rfl, rfl, K, hs⟩ := hrel;by_cases bA : j < xs.length
  ·have jA : (j : Int) < (xs.length : Int) := by omega
   obtain ⟨x, y⟩ : ∃ x, xs[j]? = some x := ⟨_, List.getElem?_eq_getElem bA⟩;have HT : Hid (zAt zDv (xs.take (j + 1)) = zAt zDv (xs.take j) + (1 + (1 + (1 + (1 + (1 + (1 + (1 + zAt zBa x.2.2.2.2.2.2.2)))))))) := zCf (M := zDv) y;have hT : zAt zDv (xs.take j) + (1 + (1 + (1 + (1 + (1 + (1 + (1 + zAt zBa x.2.2.2.2.2.2.2))))))) ≤ zAt zDv xs := zCE (M := zDv) y;have A : Hid _ := zCw (M := zDv) (k := k) y;obtain ⟨g, lA, f, Sj, T, c, hv, l, a, b, V, s, X, s2, s3, o, s5, n⟩ := zCl K (zCW y);simp only [Value.slice.injEq, Option.some.injEq, Addr.mk.injEq, and_true] at hv;obtain ⟨rfl, N⟩ := hv;obtain ⟨vd, rfl, -, -, -, -, -, -, z⟩ := ent_own s;obtain ⟨D, H, rfl⟩ := zBx z;have q0 : wr.cell? ⟨G, j * 8, none⟩ = some (.int .i64 x.1) := by rw [cell_of_row wr G _ f _ (0, 0) a]; exact b 0 (by decide)
   have q1 : wr.cell? ⟨G, j * 8 + 1, none⟩ = some (.int .i64 x.2.1) := by rw [cell_of_row wr G _ f _ (0, 0) a]; exact b 1 (by decide)
   have q2 : wr.cell? ⟨G, j * 8 + 2, none⟩ = some (.bool x.2.2.1) := by rw [cell_of_row wr G _ f _ (0, 0) a]; exact b 2 (by decide)
   have q3 : wr.cell? ⟨G, j * 8 + 3, none⟩ = some (.int .i64 x.2.2.2.1) := by rw [cell_of_row wr G _ f _ (0, 0) a]; exact b 3 (by decide)
   have q4 : wr.cell? ⟨G, j * 8 + 4, none⟩ = some (.int .i64 x.2.2.2.2.1) := by rw [cell_of_row wr G _ f _ (0, 0) a]; exact b 4 (by decide)
   have q5 : wr.cell? ⟨G, j * 8 + 5, none⟩ = some (.int .i64 x.2.2.2.2.2.1) := by rw [cell_of_row wr G _ f _ (0, 0) a]; exact b 5 (by decide)
   have q6 : wr.cell? ⟨G, j * 8 + 6, none⟩ = some (.int .i64 x.2.2.2.2.2.2.1) := by rw [cell_of_row wr G _ f _ (0, 0) a]; exact b 6 (by decide)
   have q7 : wr.cell? ⟨G, j * 8 + 7, none⟩ = some (.slice D x.2.2.2.2.2.2.2.length H) := by rw [cell_of_row wr G _ f _ (0, 0) a]; exact b 7 (by decide)
   have r0 : wr.frozen? ⟨G, j * 8, none⟩ = false := frozen_of_row wr G _ _ _ a;have r1 : wr.frozen? ⟨G, j * 8 + 1, none⟩ = false := frozen_of_row wr G _ _ _ a;have r2 : wr.frozen? ⟨G, j * 8 + 2, none⟩ = false := frozen_of_row wr G _ _ _ a;have r3 : wr.frozen? ⟨G, j * 8 + 3, none⟩ = false := frozen_of_row wr G _ _ _ a;have r4 : wr.frozen? ⟨G, j * 8 + 4, none⟩ = false := frozen_of_row wr G _ _ _ a;have r5 : wr.frozen? ⟨G, j * 8 + 5, none⟩ = false := frozen_of_row wr G _ _ _ a;have r6 : wr.frozen? ⟨G, j * 8 + 6, none⟩ = false := frozen_of_row wr G _ _ _ a;have L : j * 8 + 7 < f.size := by
    have := b 7 (by decide);exact (Array.getElem?_eq_some_iff.1 (this.trans rfl)).1
   clear N V;generalize Y : k + (zAt zDv (xs.take j) : Int) = kk at A ⊢;have OA : 0 ≤ kk ∧ kk ≤ 576460752303423488 := by omega
   have J : G < wr.heap.size := (ltH a);have y0 := a;have y1 := heap_setCell_same _ G (j * 8) _ _ (.int .i64 (kk)) y0;have y2 := heap_setCell_same _ G (j * 8 + 1) _ _ (.int .i64 (kk + 1)) y1;have y3 := heap_setCell_same _ G (j * 8 + 2) _ _ (.bool ((kk + 1 + 1) % 3 == 0)) y2;have y4 := heap_setCell_same _ G (j * 8 + 3) _ _ (.int .i64 (kk + 1 + 1 + 1)) y3;have y5 := heap_setCell_same _ G (j * 8 + 4) _ _ (.int .i64 (kk + 1 + 1 + 1 + 1)) y4;have y6 := heap_setCell_same _ G (j * 8 + 5) _ _ (.int .i64 (kk + 1 + 1 + 1 + 1 + 1)) y5;have y7 := heap_setCell_same _ G (j * 8 + 6) _ _ (.int .i64 (kk + 1 + 1 + 1 + 1 + 1 + 1)) y6;have R : Hid (∀ d, Chg Sj (((((((wr.setCell ⟨G, j * 8, none⟩ (.int .i64 (kk))).setCell ⟨G, j * 8 + 1, none⟩ (.int .i64 (kk + 1))).setCell ⟨G, j * 8 + 2, none⟩ (.bool ((kk + 1 + 1) % 3 == 0))).setCell ⟨G, j * 8 + 3, none⟩ (.int .i64 (kk + 1 + 1 + 1))).setCell ⟨G, j * 8 + 4, none⟩ (.int .i64 (kk + 1 + 1 + 1 + 1))).setCell ⟨G, j * 8 + 5, none⟩ (.int .i64 (kk + 1 + 1 + 1 + 1 + 1))).setCell ⟨G, j * 8 + 6, none⟩ (.int .i64 (kk + 1 + 1 + 1 + 1 + 1 + 1))) d → d.heap[G]? = some (.cells (((((((f.setIfInBounds (j * 8) (.int .i64 (kk))).setIfInBounds (j * 8 + 1) (.int .i64 (kk + 1))).setIfInBounds (j * 8 + 2) (.bool ((kk + 1 + 1) % 3 == 0))).setIfInBounds (j * 8 + 3) (.int .i64 (kk + 1 + 1 + 1))).setIfInBounds (j * 8 + 4) (.int .i64 (kk + 1 + 1 + 1 + 1))).setIfInBounds (j * 8 + 5) (.int .i64 (kk + 1 + 1 + 1 + 1 + 1))).setIfInBounds (j * 8 + 6) (.int .i64 (kk + 1 + 1 + 1 + 1 + 1 + 1))) 147 (0, 0))) := fun d F => (F.block G (by simpa using J) o).trans y7;have HC : Hid (∀ d, Chg Sj (((((((wr.setCell ⟨G, j * 8, none⟩ (.int .i64 (kk))).setCell ⟨G, j * 8 + 1, none⟩ (.int .i64 (kk + 1))).setCell ⟨G, j * 8 + 2, none⟩ (.bool ((kk + 1 + 1) % 3 == 0))).setCell ⟨G, j * 8 + 3, none⟩ (.int .i64 (kk + 1 + 1 + 1))).setCell ⟨G, j * 8 + 4, none⟩ (.int .i64 (kk + 1 + 1 + 1 + 1))).setCell ⟨G, j * 8 + 5, none⟩ (.int .i64 (kk + 1 + 1 + 1 + 1 + 1))).setCell ⟨G, j * 8 + 6, none⟩ (.int .i64 (kk + 1 + 1 + 1 + 1 + 1 + 1))) d → zA0.own d Sj [.slice D x.2.2.2.2.2.2.2.length H] (zAT zBa (kk + 1 + 1 + 1 + 1 + 1 + 1 + 1) x.2.2.2.2.2.2.2) → zDC.own d S [.slice (some ⟨G, 0, none⟩) xs.length C] (zCP zDv k xs (j + 1)) ∧ Chg S wr d) := by
    intro d F cA;have z0 := R.out d F;have c1 : Chg S wr (((((((wr.setCell ⟨G, j * 8, none⟩ (.int .i64 (kk))).setCell ⟨G, j * 8 + 1, none⟩ (.int .i64 (kk + 1))).setCell ⟨G, j * 8 + 2, none⟩ (.bool ((kk + 1 + 1) % 3 == 0))).setCell ⟨G, j * 8 + 3, none⟩ (.int .i64 (kk + 1 + 1 + 1))).setCell ⟨G, j * 8 + 4, none⟩ (.int .i64 (kk + 1 + 1 + 1 + 1))).setCell ⟨G, j * 8 + 5, none⟩ (.int .i64 (kk + 1 + 1 + 1 + 1 + 1))).setCell ⟨G, j * 8 + 6, none⟩ (.int .i64 (kk + 1 + 1 + 1 + 1 + 1 + 1))) := zC6 (zC6 (zC6 (zC6 (zC6 (zC6 (zC6 (Chg.refl S wr) l) l) l) l) l) l) l;have c2 := c1.trans (F.mono X);have c3 : Chg S d d := Chg.refl S d;refine ⟨?_, c2.trans c3⟩;rw [← A.out];have p : zA0.own d Sj [.slice D x.2.2.2.2.2.2.2.length H] (zAT zBa (kk + 1 + 1 + 1 + 1 + 1 + 1 + 1) x.2.2.2.2.2.2.2) := cA;refine n d _ [.int .i64 (kk), .int .i64 (kk + 1), .bool ((kk + 1 + 1) % 3 == 0), .int .i64 (kk + 1 + 1 + 1), .int .i64 (kk + 1 + 1 + 1 + 1), .int .i64 (kk + 1 + 1 + 1 + 1 + 1), .int .i64 (kk + 1 + 1 + 1 + 1 + 1 + 1), .slice D x.2.2.2.2.2.2.2.length H] _ Sj S z0 (by simp) ?_ ?_ ?_ (zNR (zE9 (by omega) (by omega)) (zE9 (by omega) (by omega)) (zE9 (by omega) (by omega)) (zE9 (by omega) (by omega)) (zE9 (by omega) (by omega)) (zE9 (by omega) (by omega)) p) s3 o l X s2
    ·intro i B;rw [show zBT.size = 8 from rfl] at B;rw [Array.getElem?_setIfInBounds_ne (by omega), Array.getElem?_setIfInBounds_ne (by omega), Array.getElem?_setIfInBounds_ne (by omega), Array.getElem?_setIfInBounds_ne (by omega), Array.getElem?_setIfInBounds_ne (by omega), Array.getElem?_setIfInBounds_ne (by omega), Array.getElem?_setIfInBounds_ne (by omega)]
    ·intro i B;rw [show zBT.size = 8 from rfl] at B;rw [show j * zBT.size = j * 8 from rfl];have h3 : i = 0 ∨ i = 1 ∨ i = 2 ∨ i = 3 ∨ i = 4 ∨ i = 5 ∨ i = 6 ∨ i = 7 := by omega
     rcases h3 with rfl | rfl | rfl | rfl | rfl | rfl | rfl | rfl
     ·rw [Array.getElem?_setIfInBounds_ne (by omega), Array.getElem?_setIfInBounds_ne (by omega), Array.getElem?_setIfInBounds_ne (by omega), Array.getElem?_setIfInBounds_ne (by omega), Array.getElem?_setIfInBounds_ne (by omega), Array.getElem?_setIfInBounds_ne (by omega)];rw [Nat.add_zero];rw [Array.getElem?_setIfInBounds_self_of_lt (by first | omega | (simp; omega))];rfl
     ·rw [Array.getElem?_setIfInBounds_ne (by omega), Array.getElem?_setIfInBounds_ne (by omega), Array.getElem?_setIfInBounds_ne (by omega), Array.getElem?_setIfInBounds_ne (by omega), Array.getElem?_setIfInBounds_ne (by omega)];skip
      rw [Array.getElem?_setIfInBounds_self_of_lt (by first | omega | (simp; omega))];rfl
     ·rw [Array.getElem?_setIfInBounds_ne (by omega), Array.getElem?_setIfInBounds_ne (by omega), Array.getElem?_setIfInBounds_ne (by omega), Array.getElem?_setIfInBounds_ne (by omega)];skip
      rw [Array.getElem?_setIfInBounds_self_of_lt (by first | omega | (simp; omega))];rfl
     ·rw [Array.getElem?_setIfInBounds_ne (by omega), Array.getElem?_setIfInBounds_ne (by omega), Array.getElem?_setIfInBounds_ne (by omega)];skip
      rw [Array.getElem?_setIfInBounds_self_of_lt (by first | omega | (simp; omega))];rfl
     ·rw [Array.getElem?_setIfInBounds_ne (by omega), Array.getElem?_setIfInBounds_ne (by omega)];skip
      rw [Array.getElem?_setIfInBounds_self_of_lt (by first | omega | (simp; omega))];rfl
     ·rw [Array.getElem?_setIfInBounds_ne (by omega)];skip
      rw [Array.getElem?_setIfInBounds_self_of_lt (by first | omega | (simp; omega))];rfl
     ·skip
      skip
      rw [Array.getElem?_setIfInBounds_self_of_lt (by first | omega | (simp; omega))];rfl
     ·rw [Array.getElem?_setIfInBounds_ne (by omega), Array.getElem?_setIfInBounds_ne (by omega), Array.getElem?_setIfInBounds_ne (by omega), Array.getElem?_setIfInBounds_ne (by omega), Array.getElem?_setIfInBounds_ne (by omega), Array.getElem?_setIfInBounds_ne (by omega), Array.getElem?_setIfInBounds_ne (by omega)];exact b 7 (by decide)
    ·intro i B O;have m : i ≠ G := fun e => s5 (by rw [← e]; exact B);rw [F.block i (by simpa using O) (fun y => s3 i y B), heap_setCell_other _ ⟨G, j * 8 + 6, none⟩ i _ m, heap_setCell_other _ ⟨G, j * 8 + 5, none⟩ i _ m, heap_setCell_other _ ⟨G, j * 8 + 4, none⟩ i _ m, heap_setCell_other _ ⟨G, j * 8 + 3, none⟩ i _ m, heap_setCell_other _ ⟨G, j * 8 + 2, none⟩ i _ m, heap_setCell_other _ ⟨G, j * 8 + 1, none⟩ i _ m, heap_setCell_other _ ⟨G, j * 8, none⟩ i _ m]
   have HO : Hid (zA0.own (((((((wr.setCell ⟨G, j * 8, none⟩ (.int .i64 (kk))).setCell ⟨G, j * 8 + 1, none⟩ (.int .i64 (kk + 1))).setCell ⟨G, j * 8 + 2, none⟩ (.bool ((kk + 1 + 1) % 3 == 0))).setCell ⟨G, j * 8 + 3, none⟩ (.int .i64 (kk + 1 + 1 + 1))).setCell ⟨G, j * 8 + 4, none⟩ (.int .i64 (kk + 1 + 1 + 1 + 1))).setCell ⟨G, j * 8 + 5, none⟩ (.int .i64 (kk + 1 + 1 + 1 + 1 + 1))).setCell ⟨G, j * 8 + 6, none⟩ (.int .i64 (kk + 1 + 1 + 1 + 1 + 1 + 1))) Sj [.slice D x.2.2.2.2.2.2.2.length H] x.2.2.2.2.2.2.2) := zAc (zAc (zAc (zAc (zAc (zAc (zAc (z) o) o) o) o) o) o) o;clear y K s n b a X s2 s3 o s5 A h z L J y0 y1 y2 y3 y4 y5 y6 y7;generalize zAt zDv (xs.take j) = TT at HT hT Y;go_wp2_with fail
   refine (zBJ Sj _ _ x.2.2.2.2.2.2.2 _ (by omega) (by omega) (by omega) HO.out).mono ?_;rintro e d ⟨rfl, r, U⟩;have b9 := R.out d U;obtain ⟨p, I⟩ := HC.out d U r;have E := hs.trans I;have HF : Hid _ := And.intro p E;clear r U I HC HO p E R q0 q1 q2 q3 q4 q5 q6 q7 r0 r1 r2 r3 r4 r5 r6;clear b9;go_wp2;go_roundw
   case rel => exact ⟨j + 1, by omega, by go_num, by rw [HT.out]; congr 1; omega, HF.out.1, HF.out.2⟩
   case measure => simp [intOf]; omega
  ·have Z : j = xs.length := by omega
   subst Z;rw [List.take_length];rw [zCF] at K;go_wp2;go_ret
   exact ⟨rfl, K, hs⟩
theorem lot_e : lot = 4398046511104 := rfl
theorem zLy : SzC 58 zCM zBN zCk := by
 rintro cs x b w ⟨a, c, rfl, i, g, j⟩ d f;exact (zIa a x c b w j d f (Nat.le_trans i g)).mono fun e w' ⟨q, r⟩ => ⟨q, zEO r⟩
theorem zLz : ToC 64 zCM zBN zCk := by
 rintro cs x w ⟨a, b, rfl, l1, l2, d⟩ c;refine (zIb a x b w d c).mono ?_;rintro e w' ⟨v, rfl, f⟩;exact ⟨[v], rfl, f⟩
theorem zL0 : EqC 78 zCM zBN zCk := by
 rintro cs ds x w ⟨a, c, rfl, l1, l2, i⟩ ⟨b, g, rfl, k1, k2, d⟩ f;refine (zIc a b x c g w i d (Nat.le_trans f (by decide))).mono ?_;rintro e w' ⟨q, n, rfl⟩;exact ⟨q, zCG (Below.refl _ _) n⟩
theorem zL1 : MkC 84 zCM zBN zCk := by
 intro S cs x k w h a hm hb;obtain ⟨v, rfl⟩ := zDg h;have e := lot_e;have e2 : zBN.cV x = zAt zAs x := rfl;have e3 : zBN.bk x = x.length + zA6 zAs x := rfl;exact zGC S v k x w a (by omega) (by omega) (by omega) h
theorem szEnts_u : SzC 59 zDC zDw zCk := by
 rintro cs x b w ⟨a, c, rfl, i, g, j⟩ d f;exact zJs a x c b w j d f (Nat.le_trans i g)
theorem toEnts_u : ToC 65 zDC zDw zCk := by
 rintro cs x w ⟨a, b, rfl, l1, l2, d⟩ c;refine (zJt a x b w d c).mono ?_;rintro e w' ⟨v, rfl, f⟩;exact ⟨[v], rfl, f⟩
theorem eqEnts_u : EqC 79 zDC zDw zCk := by
 rintro cs ds x w ⟨a, c, rfl, l1, l2, i⟩ ⟨b, f, rfl, k1, k2, g⟩ d;exact zJu a b x c f w i g (Nat.le_trans d (by decide))
theorem mkEnts_u : MkC 85 zDC zDw zCk := by
 intro S cs x k w h a hm hb;obtain ⟨v, rfl⟩ := zDg h;have e := lot_e;have e2 : zDw.cV x = zAt zDv x := rfl;exact zHp S v k x w a (by omega) (by omega) h
abbrev zDx := List (List Int) × List zAW
abbrev zBF : Rep zDx := zBp zCM zDC
abbrev zAU : Mk zDx := zBm zBN zDw
theorem zFs {l : List Value} (h : l.length = 1) : ∃ a0, l = [a0] := by
 match l, h with
 | [a0], _ => exact ⟨a0, rfl⟩
theorem zDi {w : World} {cs : List Value} {x : zDx} (h : zBF.rd w cs x) : ∃ a b, cs = [a, b] ∧ zCM.rd w [a] x.1 ∧ zDC.rd w [b] x.2 := by
 obtain ⟨c0, e0, rfl, c, d⟩ := h;obtain ⟨a, rfl⟩ := zFs (zCM.rd_len c);obtain ⟨b, rfl⟩ := zFs (zDC.rd_len d);exact ⟨a, b, rfl, c, d⟩
theorem zAM {w : World} {g : Nat} {x0 x1 : Value} {t : TypeId} (h : w.heap[g]? = some (.cells #[x0, x1] t (0, 0))) : w.cell? ⟨g, 0, none⟩ = some x0 ∧ w.cell? ⟨g, 1, none⟩ = some x1 :=
 ⟨by rw [cell_of_row w g 0 _ t (0, 0) h]; rfl, by rw [cell_of_row w g 1 _ t (0, 0) h]; rfl⟩
theorem zNT : SzC 22 zBF zAU zBq := by
 intro cs x c w h h0 h1;obtain ⟨j, l, rfl, n, q⟩ := zDi h;clear h;rw [show zAU.bk x = zBN.bk x.1 + zDw.bk x.2 from rfl];change Calls Tryz.prog 22 #[.agg #[j, l], .int .i64 c] w _
 have k : Hid (∀ L W, Below w.heap.size w W → 0 ≤ L → L ≤ 1048576 → Calls Tryz.prog 58 #[j, .int .i64 L] W fun e w' => e = .returned (.int .i64 (szI (zBN.bk x.1) L)) ∧ Below W.heap.size W w') := fun L W hb a b => zLy [j] _ L W (zAr n hb) a b;have g : Hid (∀ L W, Below w.heap.size w W → 0 ≤ L → L ≤ 1048576 → Calls Tryz.prog 59 #[l, .int .i64 L] W fun e w' => e = .returned (.int .i64 (szI (zDw.bk x.2) L)) ∧ Below W.heap.size W w') := fun L W hb a b => szEnts_u [l] _ L W (zAr q hb) a b;clear n q;generalize zBN.bk x.1 = n0 at k ⊢;generalize zDw.bk x.2 = n1 at g ⊢;go_enter Tryz.func22, Tryz.ntmps22;go_wp2_with fail
 generalize d : w.alloc _ = W0;have X := boxH d;have B := boxB d;clear d;refine (k.out (c) _ B (by omega) (by omega)).mono ?_;rintro e w1 ⟨rfl, f⟩;replace X := zAb f X;replace B := zAa B f;clear f k;by_cases o : (n0 : Int) ≤ c
 ·rw [zAF o];have g0 : ¬ (c - (n0 : Int) < 0) := by omega
  obtain ⟨i, m⟩ := zAM X;go_wp2_with fail
  clear i m;refine (g.out (c - (n0 : Int)) _ B (by omega) (by omega)).mono ?_;rintro e w2 ⟨rfl, f⟩;replace X := zAb f X;replace B := zAa B f;clear f g;by_cases p : (n1 : Int) ≤ c - (n0 : Int)
  ·rw [zAF p];have g1 : ¬ (c - (n0 : Int) - (n1 : Int) < 0) := by omega
   obtain ⟨i, m⟩ := zAM X;clear i m X;go_wp2;go_ret
   exact ⟨zAx (by rw [zAF (by omega)]; omega), B⟩
  ·rw [zAE p];clear X;go_wp2;go_ret
   exact ⟨zAx (zAE (by omega)).symm, B⟩
 ·rw [zAE o];clear X;go_wp2;go_ret
  exact ⟨zAx (zAE (by omega)).symm, B⟩
theorem zNU : EqC 39 zBF zAU zBq := by
 intro cs ds x w h k o;obtain ⟨c, d, rfl, l, q⟩ := zDi h;obtain ⟨b, f, rfl, p, i⟩ := zDi k;clear h k;rw [show zAU.bk x = zBN.bk x.1 + zDw.bk x.2 from rfl] at o;change Calls Tryz.prog 39 #[.agg #[c, d], .agg #[b, f]] w _
 have r : Hid (∀ W, Below w.heap.size w W → Calls Tryz.prog 78 #[c, b] W fun e w' => e = .returned (.bool true) ∧ Below W.heap.size W w') := fun W hb => zL0 [c] [b] _ W (zAr l hb) (zAr p hb) (by omega);have j : Hid (∀ W, Below w.heap.size w W → Calls Tryz.prog 79 #[d, f] W fun e w' => e = .returned (.bool true) ∧ Below W.heap.size W w') := fun W hb => eqEnts_u [d] [f] _ W (zAr q hb) (zAr i hb) (by omega);clear o l p q i;have X := zA3 (.cells #[b, f] 42) (zAn w (.cells #[c, d] 42));have Y := zAn (w.alloc (.cells #[c, d] 42)) (.cells #[b, f] 42);rw [zAv] at Y;have B := zAa (zAf w (.cells #[c, d] 42)) (zAf _ (.cells #[b, f] 42));go_enter Tryz.func39, Tryz.ntmps39;go_wp2_with fail
 generalize (w.alloc (.cells #[c, d] 42)).alloc (.cells #[b, f] 42) = W0 at X Y B ⊢;refine (r.out _ B).mono ?_;rintro e w1 ⟨rfl, a⟩;replace X := zAb a X;replace Y := zAb a Y;replace B := zAa B a;clear a r;obtain ⟨m, s⟩ := zAM X;obtain ⟨g, n⟩ := zAM Y;go_wp2_with fail
 clear m s g n;refine (j.out _ B).mono ?_;rintro e w2 ⟨rfl, a⟩;replace X := zAb a X;replace Y := zAb a Y;replace B := zAa B a;clear a j;obtain ⟨m, s⟩ := zAM X;obtain ⟨g, n⟩ := zAM Y;clear X Y;go_wp2;go_ret
 exact ⟨rfl, B⟩
theorem house_cV (x : zDx) : zAU.cV x = zBN.cV x.1 + zDw.cV x.2 := rfl
theorem house_mV (k : Int) (x : zDx) : zAU.mV k x = (zBN.mV k x.1, zDw.mV (k + ((zBN.cV x.1 : Nat) : Int)) x.2) := rfl
theorem zNV {w : World} {S : zBo} {cs : List Value} {x : zDx} (h : zBF.own w S cs x) : ∃ b c a S1, cs = [b, c] ∧ zCM.own w a [b] x.1 ∧ zDC.own w S1 [c] x.2 ∧ Sub a S ∧ Sub S1 S ∧ Dis a S1 := by
 obtain ⟨c0, e0, a, g, rfl, d, f, j, i, k⟩ := h;obtain ⟨b, rfl⟩ := zFs (zCM.rd_len (zCM.own_rd d));obtain ⟨c, rfl⟩ := zFs (zDC.rd_len (zDC.own_rd f));exact ⟨b, c, a, g, rfl, d, f, j, (Sub.refl _).trans i, k.sub (Sub.refl _) (Sub.refl _)⟩
theorem zJv {w : World} {S S0 S1 : zBo} {v0 v1 : Value} {x : zDx}  (h0 : zCM.own w S0 [v0] x.1) (h1 : zDC.own w S1 [v1] x.2) (s0 : Sub S0 S) (s1 : Sub S1 S) (d01 : Dis S0 S1) : zBF.own w S [v0, v1] x := by
 exact ⟨[v0], [v1], S0, S1, rfl, h0, h1, s0, (fun q h => s1 q h), (fun q a h => d01 q a h)⟩
theorem zNW : MkC 44 zBF zAU zBq := by
 intro S cs x k w h h0 F O;obtain ⟨g, i, v, s, rfl, N, I, n, m, z⟩ := zNV h;clear h;rw [house_cV] at F ⊢;rw [show zAU.bk x = zBN.bk x.1 + zDw.bk x.2 from rfl] at O;have el : lot = 4398046511104 := rfl;change Calls Tryz.prog 44 #[.agg #[g, i], .int .i64 k] w _
 have G : Hid (∀ L W, L = k → zCM.own W (Old w v) [g] x.1 → 0 ≤ L → L + (zBN.cV x.1 : Int) ≤ (lot : Int) → Calls Tryz.prog 84 #[g, .int .i64 L] W fun e w' => e = .returned (.int .i64 (L + (zBN.cV x.1 : Int))) ∧ zCM.own w' (Old w v) [g] (zBN.mV k x.1) ∧ Chg (Old w v) W w') := fun L W hL ho a b => by subst hL; exact zL1 (Old w v) [g] _ _ W ho a b (by omega)
 have B : Hid (∀ L W, L = (k + ((zBN.cV x.1 : Nat) : Int)) → zDC.own W (Old w s) [i] x.2 → 0 ≤ L → L + (zDw.cV x.2 : Int) ≤ (lot : Int) → Calls Tryz.prog 85 #[i, .int .i64 L] W fun e w' => e = .returned (.int .i64 (L + (zDw.cV x.2 : Int))) ∧ zDC.own w' (Old w s) [i] (zDw.mV (k + ((zBN.cV x.1 : Nat) : Int)) x.2) ∧ Chg (Old w s) W w') := fun L W hL ho a b => by subst hL; exact mkEnts_u (Old w s) [i] _ _ W ho a b (by omega)
 have X := zAn w (.cells #[g, i] 42);have q : w.heap.size < (w.alloc (.cells #[g, i] 42)).heap.size := by simp
 have j : Chg S (w.alloc (.cells #[g, i] 42)) (w.alloc (.cells #[g, i] 42)) := Chg.refl _ _;have J : ∀ W, Chg S (w.alloc (.cells #[g, i] 42)) W → Chg S w W := fun W => zEf;have M := zDA (.cells #[g, i] 42) (zD9 N);have d : ¬ Old w v w.heap.size := fun h => by have := h.2; omega
 have p := zDA (.cells #[g, i] 42) (zD9 I);have f : ¬ Old w s w.heap.size := fun h => by have := h.2; omega
 have c : Dis (Old w v) (Old w s) := z.sub zAA zAA;have E : Hid _ := And.intro c (And.intro d (And.intro f (And.intro n (m))));have K : Hid _ := J;clear J N I c z d f n m;have r : Hid (∀ (P : zDx → Prop), P (zBN.mV k x.1, zDw.mV (k + ((zBN.cV x.1 : Nat) : Int)) x.2) → P (zAU.mV k x)) := fun P hp => by rw [house_mV]; exact hp
 generalize zBN.cV x.1 = n0 at G B r F ⊢;generalize zDw.cV x.2 = n1 at B r F ⊢;go_enter Tryz.func44, Tryz.ntmps44;go_wp2_with fail
 generalize w.alloc (.cells #[g, i] 42) = W0 at X q j K M p ⊢;refine (G.out (k) _ (by omega) M (by omega) (by omega)).mono ?_;rintro e w1 ⟨rfl, o, l⟩;obtain ⟨c, d, f, n, m⟩ := E.out;replace X := (l.block w.heap.size q d).trans X;replace q := Nat.lt_of_lt_of_le q l.size;replace j := j.trans (l.mono (zAA.trans n));replace p := zAC p l (Dis.symm c);clear l G c d f n m;obtain ⟨D, H⟩ := zAM X;have C : Hid _ := And.intro j (And.intro p (o));clear j p o;go_wp2_with fail
 clear D H;obtain ⟨j, p, o⟩ := C.out;clear C;refine (B.out (k + (n0 : Int)) _ (by omega) p (by omega) (by omega)).mono ?_;rintro e w2 ⟨rfl, A, l⟩;obtain ⟨c, d, f, n, m⟩ := E.out;replace X := (l.block w.heap.size q f).trans X;replace q := Nat.lt_of_lt_of_le q l.size;replace j := j.trans (l.mono (zAA.trans m));replace o := zAC o l c;clear l B c d f n m;obtain ⟨D, H⟩ := zAM X;clear D H X;have C : Hid _ := And.intro j (And.intro o (A));clear j o A;go_wp2;go_ret
 obtain ⟨j, o, A⟩ := C.out;obtain ⟨c, d, f, n, m⟩ := E.out;exact ⟨zAx (by omega), r.out (fun y => zBF.own _ S _ y) (zJv (x := (zBN.mV k x.1, zDw.mV (k + (n0 : Int)) x.2))  o A (zAA.trans n) (zAA.trans m) c), K.out _ j⟩
theorem zF9 {w : World} {g : Nat} {cs : Array Value} {t : TypeId} (h : w.heap[g]? = some (.cells cs t (0, 0))) : w.frozen? ⟨g, 0, none⟩ = false ∧ w.frozen? ⟨g, 1, none⟩ = false :=
 ⟨frozen_of_row w g 0 _ t h, frozen_of_row w g 1 _ t h⟩
theorem zNX {w : World} {g : Nat} {x0 x1 y0 y1 : Value} {t : TypeId} (h : w.heap[g]? = some (.cells #[x0, x1] t (0, 0))) : ((w.setCell ⟨g, 0, none⟩ (y0)).setCell ⟨g, 1, none⟩ (y1)).heap[g]? = some (.cells #[y0, y1] t (0, 0)) := by
 have a : (w.setCell ⟨g, 0, none⟩ (y0)).heap[g]? = some (.cells #[y0, x1] t (0, 0)) := heap_setCell_same _ g 0 _ t y0 h;have b : ((w.setCell ⟨g, 0, none⟩ (y0)).setCell ⟨g, 1, none⟩ (y1)).heap[g]? = some (.cells #[y0, y1] t (0, 0)) := heap_setCell_same _ g 1 _ t y1 a;exact b
theorem zNY : ToC 30 zBF zAU zBq := by
 intro cs x w h N;obtain ⟨m, p, rfl, F, G⟩ := zDi h;clear h;rw [show zAU.bk x = zBN.bk x.1 + zDw.bk x.2 from rfl] at N;change Calls Tryz.prog 30 #[.agg #[m, p]] w _
 have O : Hid (∀ W, Below w.heap.size w W → Calls Tryz.prog 64 #[m] W fun e C => ∃ c d, e = .returned (.slice c x.1.length d) ∧ zAI zCM W C [.slice c x.1.length d] x.1) := fun W hb => (zLz [m] _ W (zAr F hb) (by omega)).mono (by rintro e C ⟨X, rfl, a⟩; obtain ⟨c, d, rfl, -⟩ := zCM.own_rd a.1; exact ⟨c, d, rfl, a⟩);have M : Hid (∀ W, Below w.heap.size w W → Calls Tryz.prog 65 #[p] W fun e C => ∃ j l, e = .returned (.slice j x.2.length l) ∧ zAI zDC W C [.slice j x.2.length l] x.2) := fun W hb => (toEnts_u [p] _ W (zAr G hb) (by omega)).mono (by rintro e C ⟨X, rfl, a⟩; obtain ⟨j, l, rfl, -⟩ := zDC.own_rd a.1; exact ⟨j, l, rfl, a⟩);clear N F G;have i := zA3 (.cells #[.slice none 0 0, .slice none 0 0] 42) (zA3 (.cells #[.slice none 0 0, .slice none 0 0] 42) (zAn w (.cells #[m, p] 27)));have f := zA3 (.cells #[.slice none 0 0, .slice none 0 0] 42) (zAn (w.alloc (.cells #[m, p] 27)) (.cells #[.slice none 0 0, .slice none 0 0] 42));have b := zAn ((w.alloc (.cells #[m, p] 27)).alloc (.cells #[.slice none 0 0, .slice none 0 0] 42)) (.cells #[.slice none 0 0, .slice none 0 0] 42);rw [zAv] at f;rw [zAv, zAv] at b;have B : Below w.heap.size w (((w.alloc (.cells #[m, p] 27)).alloc (.cells #[.slice none 0 0, .slice none 0 0] 42)).alloc (.cells #[.slice none 0 0, .slice none 0 0] 42)) := (((Below.refl _ w).alloc (Nat.le_refl _) _).alloc (by simp) _).alloc (by simp; omega) _;have e3 : w.heap.size + 1 + 1 + 1 ≤ (((w.alloc (.cells #[m, p] 27)).alloc (.cells #[.slice none 0 0, .slice none 0 0] 42)).alloc (.cells #[.slice none 0 0, .slice none 0 0] 42)).heap.size := by simp
 go_enter Tryz.func30, Tryz.ntmps30;go_wp2_with fail
 generalize ((w.alloc (.cells #[m, p] 27)).alloc (.cells #[.slice none 0 0, .slice none 0 0] 42)).alloc (.cells #[.slice none 0 0, .slice none 0 0] 42) = u0 at i f b B e3 ⊢;refine (O.out _ B).mono ?_;rintro e n ⟨c, d, rfl, a⟩;have T := a.2.size;replace B := zAa B a.2;replace i := zAb a.2 i;replace f := zAb a.2 f;replace b := zAb a.2 b;have k := a.1;clear a O;obtain ⟨L, I⟩ := zAM i;obtain ⟨y0, y1⟩ := zAM b;obtain ⟨J, K⟩ := zF9 b;have D : Hid _ := And.intro i (And.intro f (And.intro b (And.intro B (k))));clear i f b B k;go_wp2_with fail
 clear L I y0 y1 J K;obtain ⟨i, f, b, B, k⟩ := D.out;clear D;have E : (n.setCell ⟨w.heap.size + 1 + 1, 0, none⟩ (.slice c x.1.length d)).heap[w.heap.size + 1 + 1]? = some (.cells #[.slice c x.1.length d, .slice none 0 0] 42 (0, 0)) := heap_setCell_same _ (w.heap.size + 1 + 1) 0 _ _ (.slice c x.1.length d) b;have q := (zAp (g := w.heap.size + 1 + 1) (o := 0) (v := .slice c x.1.length d) i (by omega));have s := (zAp (g := w.heap.size + 1 + 1) (o := 0) (v := .slice c x.1.length d) f (by omega));have A : Below w.heap.size w (n.setCell ⟨w.heap.size + 1 + 1, 0, none⟩ (.slice c x.1.length d)) := (zAi B (by omega));have y : zCM.own (n.setCell ⟨w.heap.size + 1 + 1, 0, none⟩ (.slice c x.1.length d)) _ _ _ := (zAc k (fun h => by have := h.1; omega));have z : n.heap.size ≤ (n.setCell ⟨w.heap.size + 1 + 1, 0, none⟩ (.slice c x.1.length d)).heap.size := by simp
 have r : (n.setCell ⟨w.heap.size + 1 + 1, 0, none⟩ (.slice c x.1.length d)).heap.size ≤ n.heap.size := by simp
 clear i f b B k ;generalize (n.setCell ⟨w.heap.size + 1 + 1, 0, none⟩ (.slice c x.1.length d)) = u1 at q s E A z r y ⊢;have i := q;have f := s;have b := E;have B := A;have k := y;have Y := z;have U := r;clear q s E A z r y;refine (M.out _ B).mono ?_;rintro e R ⟨j, l, rfl, a⟩;have dA := a.2.size;replace B := zAa B a.2;replace i := zAb a.2 i;replace f := zAb a.2 f;replace b := zAb a.2 b;replace k := zAS k a.2 (by omega);have H := a.1;clear a M;obtain ⟨L, I⟩ := zAM i;obtain ⟨y0, y1⟩ := zAM b;obtain ⟨J, K⟩ := zF9 b;obtain ⟨S, Z⟩ := zAM f;obtain ⟨g0, g1⟩ := zF9 f;have D : Hid _ := And.intro i (And.intro f (And.intro b (And.intro B (And.intro k (H)))));clear i f b B k H;go_wp2;clear L I y0 y1 J K S Z g0 g1;obtain ⟨i, f, b, B, k, H⟩ := D.out;clear D;have E : (R.setCell ⟨w.heap.size + 1 + 1, 1, none⟩ (.slice j x.2.length l)).heap[w.heap.size + 1 + 1]? = some (.cells #[.slice c x.1.length d, .slice j x.2.length l] 42 (0, 0)) := heap_setCell_same _ (w.heap.size + 1 + 1) 1 _ _ (.slice j x.2.length l) b;have V := zNX (y0 := .slice c x.1.length d) (y1 := .slice j x.2.length l) (zAp (g := w.heap.size + 1 + 1) (o := 1) (v := .slice j x.2.length l) f (by omega));obtain ⟨F, G⟩ := zAM V;refine bodyPost_ret (v := .agg #[.slice c x.1.length d, .slice j x.2.length l]) (by simp [results, Tryz.results30, go_sem, F, G]) rfl ⟨[.slice c x.1.length d, .slice j x.2.length l], rfl, zJv (S0 := rng u0.heap.size n.heap.size) (S1 := rng u1.heap.size R.heap.size)  ?_ ?_ (zAZ (by omega) (by simp <;> omega)) (zAZ (by omega) (by simp <;> omega)) (zBk (.inl (by omega))), ?_⟩
 ·exact (zAc (zAc (zAc k (fun h => by have := h.1; omega)) (fun h => by have := h.1; omega)) (fun h => by have := h.1; omega))
 ·exact (zAc (zAc (zAc H (fun h => by have := h.1; omega)) (fun h => by have := h.1; omega)) (fun h => by have := h.1; omega))
 ·exact (zAi (zAi (zAi B (by omega)) (by omega)) (by omega))
theorem zKx {w : World} {cs : List Value} {x : zDx} (h : zBF.rd w cs x) : ∃ (b : Option Addr) (c : Nat) (a : Option Addr) (d : Nat), cs = [.slice b x.1.length c, .slice a x.2.length d] := by
 obtain ⟨v0, v1, rfl, i, j⟩ := zDi h;obtain ⟨b, c, g, -⟩ := i;simp only [List.cons.injEq, and_true] at g;obtain rfl := g;obtain ⟨a, d, f, -⟩ := j;simp only [List.cons.injEq, and_true] at f;obtain rfl := f;exact ⟨b, c, a, d, rfl⟩
theorem zKy : zC2 Tryz.prog 27 zBF :=
 zBf Tryz.underlying27 (by kernel_rfl) (zAu rfl (by kernel_rfl) zH1 (zBC rfl (by kernel_rfl) zMq))
end Go.Proofs.YtcocbafhcpdheaaGreatDoor
