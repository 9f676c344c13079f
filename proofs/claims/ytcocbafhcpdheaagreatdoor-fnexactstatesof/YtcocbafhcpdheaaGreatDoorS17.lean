import Derived.Test.YtcocbafhcpdheaaGreatDoorS00Box
import Derived.Test.YtcocbafhcpdheaaGreatDoorS16
import Derived.Test.YtcocbafhcpdheaaGreatDoorS15
namespace Go.Proofs.YtcocbafhcpdheaaGreatDoor
set_option maxHeartbeats 8000000
set_option maxRecDepth 20000
open Go.ChangeShapes Go.WideShapes Go.ChangeAt Go.RowKit
set_option linter.unusedVariables false
theorem chg_cellent {S : Foot} {w W : World} {g o : Nat} {v : Value} (h : Chg S w W) (hg : S g) : Chg S w (W.setCell ⟨g, o, none⟩ v) :=
 ⟨h.os, h.tape, h.output, by have := h.size; simpa using this, fun k hk hn => by rw [heap_setCell_other _ ⟨g, o, none⟩ k _ (fun e => hn (by rw [e]; exact hg))]; exact h.block k hk hn⟩
theorem in64_ent {k : Int} (h0 : 0 ≤ k) (h1 : k ≤ 1152921504606846976) : In64 k := by constructor <;> omega
theorem cnt_ent (x : EntryD) : entM.cE x = (1 + (1 + (1 + (1 + (1 + (1 + (1 + slcnt intM x.2.2.2.2.2.2.2))))))) := rfl
theorem cnt_ents (xs : List EntryD) : xs.length ≤ slcnt entM xs := by
 induction xs with
 | nil => exact Nat.zero_le _
 | cons x xs ih =>
  simp only [slcnt, List.map_cons, List.sum_cons, List.length_cons] at ih ⊢;have := cnt_ent x;omega
theorem markEntryS_nil (k : Int) (w : World) :
    Calls Tryz.prog 85 #[.slice none 0 0, .int .i64 k] w fun e' w' => e' = .returned (.int .i64 k) ∧ w' = w := by
 go_enter Tryz.func85, Tryz.ntmps85;go_wp2;refine wp_loop_rounds 1 ?_;rw [rounds_succ];go_wp2;go_ret
 exact ⟨rfl, rfl⟩
theorem markEntryS_rep (S : Foot) (v : Value) (k : Int) (xs : List EntryD) (w : World) (h0 : 0 ≤ k) (h1 : k ≤ 288230376151711744) (hm : slcnt entM xs ≤ 288230376151711744) (h : entsR.own w S [v] xs) :
    Calls Tryz.prog 85 #[v, .int .i64 k] w fun e' d => e' = .returned (.int .i64 (k + slcnt entM xs)) ∧ entsR.own d S [v] (slmark entM k xs) ∧ Chg S w d := by
 have YA := cnt_ents xs;rcases slown_form h with ⟨rfl, rfl⟩ | ⟨G, E, rfl, hG⟩
 ·exact (markEntryS_nil k w).mono fun e d ⟨e1, e2⟩ => ⟨by simpa [slcnt] using e1, by rw [e2]; exact h, by rw [e2]; exact Chg.refl _ _⟩
 go_enter Tryz.func85, Tryz.ntmps85;go_wp2;go_loopw [1, 5] (fun q i wr => ∃ j : Nat, j ≤ xs.length ∧ i = .int .i64 j ∧ q = .int .i64 (k + slcnt entM (xs.take j)) ∧ entsR.own wr S [.slice (some ⟨G, 0, none⟩) xs.length E] (pmark entM k xs j) ∧ Chg S w wr)
  (fun _ i _ => xs.length - (intOf i).toNat)
 case atStart => exact ⟨0, Nat.zero_le _, rfl, by simp [slcnt], by rw [pmark_zero]; exact h, Chg.refl _ _⟩
 case round =>
  obtain ⟨j, hj, rfl, rfl, K, hs⟩ := hrel;by_cases U : j < xs.length
  ·have jA : (j : Int) < (xs.length : Int) := by omega
   obtain ⟨x, y⟩ : ∃ x, xs[j]? = some x := ⟨_, List.getElem?_eq_getElem U⟩;have HT : Hid (slcnt entM (xs.take (j + 1)) = slcnt entM (xs.take j) + (1 + (1 + (1 + (1 + (1 + (1 + (1 + slcnt intM x.2.2.2.2.2.2.2)))))))) := slcnt_step (M := entM) y;have hT : slcnt entM (xs.take j) + (1 + (1 + (1 + (1 + (1 + (1 + (1 + slcnt intM x.2.2.2.2.2.2.2))))))) ≤ slcnt entM xs := slcnt_get (M := entM) y;have z : Hid _ := pmark_step (M := entM) (k := k) y;obtain ⟨g, zA, f, Sj, T, c, hv, l, a, b, aA, s, Z, s2, s3, o, s5, n⟩ := slown_focus K (pmark_at y);simp only [Value.slice.injEq, Option.some.injEq, Addr.mk.injEq, and_true] at hv;obtain ⟨rfl, Y⟩ := hv;obtain ⟨vd, rfl, -, -, -, -, -, -, A⟩ := ent_own s;obtain ⟨D, C, rfl⟩ := slown_val A;have q0 : wr.cell? ⟨G, j * 8, none⟩ = some (.int .i64 x.1) := by rw [cell_of_row wr G _ f _ (0, 0) a]; exact b 0 (by decide)
   have q1 : wr.cell? ⟨G, j * 8 + 1, none⟩ = some (.int .i64 x.2.1) := by rw [cell_of_row wr G _ f _ (0, 0) a]; exact b 1 (by decide)
   have q2 : wr.cell? ⟨G, j * 8 + 2, none⟩ = some (.bool x.2.2.1) := by rw [cell_of_row wr G _ f _ (0, 0) a]; exact b 2 (by decide)
   have q3 : wr.cell? ⟨G, j * 8 + 3, none⟩ = some (.int .i64 x.2.2.2.1) := by rw [cell_of_row wr G _ f _ (0, 0) a]; exact b 3 (by decide)
   have q4 : wr.cell? ⟨G, j * 8 + 4, none⟩ = some (.int .i64 x.2.2.2.2.1) := by rw [cell_of_row wr G _ f _ (0, 0) a]; exact b 4 (by decide)
   have q5 : wr.cell? ⟨G, j * 8 + 5, none⟩ = some (.int .i64 x.2.2.2.2.2.1) := by rw [cell_of_row wr G _ f _ (0, 0) a]; exact b 5 (by decide)
   have q6 : wr.cell? ⟨G, j * 8 + 6, none⟩ = some (.int .i64 x.2.2.2.2.2.2.1) := by rw [cell_of_row wr G _ f _ (0, 0) a]; exact b 6 (by decide)
   have q7 : wr.cell? ⟨G, j * 8 + 7, none⟩ = some (.slice D x.2.2.2.2.2.2.2.length C) := by rw [cell_of_row wr G _ f _ (0, 0) a]; exact b 7 (by decide)
   have r0 : wr.frozen? ⟨G, j * 8, none⟩ = false := frozen_of_row wr G _ _ _ a;have r1 : wr.frozen? ⟨G, j * 8 + 1, none⟩ = false := frozen_of_row wr G _ _ _ a;have r2 : wr.frozen? ⟨G, j * 8 + 2, none⟩ = false := frozen_of_row wr G _ _ _ a;have r3 : wr.frozen? ⟨G, j * 8 + 3, none⟩ = false := frozen_of_row wr G _ _ _ a;have r4 : wr.frozen? ⟨G, j * 8 + 4, none⟩ = false := frozen_of_row wr G _ _ _ a;have r5 : wr.frozen? ⟨G, j * 8 + 5, none⟩ = false := frozen_of_row wr G _ _ _ a;have r6 : wr.frozen? ⟨G, j * 8 + 6, none⟩ = false := frozen_of_row wr G _ _ _ a;have O : j * 8 + 7 < f.size := by
    have := b 7 (by decide);exact (Array.getElem?_eq_some_iff.1 (this.trans rfl)).1
   clear Y aA;generalize V : k + (slcnt entM (xs.take j) : Int) = kk at z ⊢;have MA : 0 ≤ kk ∧ kk ≤ 576460752303423488 := by omega
   have H : G < wr.heap.size := (ltH a);have y0 := a;have y1 := heap_setCell_same _ G (j * 8) _ _ (.int .i64 (kk)) y0;have y2 := heap_setCell_same _ G (j * 8 + 1) _ _ (.int .i64 (kk + 1)) y1;have y3 := heap_setCell_same _ G (j * 8 + 2) _ _ (.bool ((kk + 1 + 1) % 3 == 0)) y2;have y4 := heap_setCell_same _ G (j * 8 + 3) _ _ (.int .i64 (kk + 1 + 1 + 1)) y3;have y5 := heap_setCell_same _ G (j * 8 + 4) _ _ (.int .i64 (kk + 1 + 1 + 1 + 1)) y4;have y6 := heap_setCell_same _ G (j * 8 + 5) _ _ (.int .i64 (kk + 1 + 1 + 1 + 1 + 1)) y5;have y7 := heap_setCell_same _ G (j * 8 + 6) _ _ (.int .i64 (kk + 1 + 1 + 1 + 1 + 1 + 1)) y6;have X : Hid (∀ d, Chg Sj (((((((wr.setCell ⟨G, j * 8, none⟩ (.int .i64 (kk))).setCell ⟨G, j * 8 + 1, none⟩ (.int .i64 (kk + 1))).setCell ⟨G, j * 8 + 2, none⟩ (.bool ((kk + 1 + 1) % 3 == 0))).setCell ⟨G, j * 8 + 3, none⟩ (.int .i64 (kk + 1 + 1 + 1))).setCell ⟨G, j * 8 + 4, none⟩ (.int .i64 (kk + 1 + 1 + 1 + 1))).setCell ⟨G, j * 8 + 5, none⟩ (.int .i64 (kk + 1 + 1 + 1 + 1 + 1))).setCell ⟨G, j * 8 + 6, none⟩ (.int .i64 (kk + 1 + 1 + 1 + 1 + 1 + 1))) d → d.heap[G]? = some (.cells (((((((f.setIfInBounds (j * 8) (.int .i64 (kk))).setIfInBounds (j * 8 + 1) (.int .i64 (kk + 1))).setIfInBounds (j * 8 + 2) (.bool ((kk + 1 + 1) % 3 == 0))).setIfInBounds (j * 8 + 3) (.int .i64 (kk + 1 + 1 + 1))).setIfInBounds (j * 8 + 4) (.int .i64 (kk + 1 + 1 + 1 + 1))).setIfInBounds (j * 8 + 5) (.int .i64 (kk + 1 + 1 + 1 + 1 + 1))).setIfInBounds (j * 8 + 6) (.int .i64 (kk + 1 + 1 + 1 + 1 + 1 + 1))) 147 (0, 0))) := fun d F => (F.block G (by simpa using H) o).trans y7;have HC : Hid (∀ d, Chg Sj (((((((wr.setCell ⟨G, j * 8, none⟩ (.int .i64 (kk))).setCell ⟨G, j * 8 + 1, none⟩ (.int .i64 (kk + 1))).setCell ⟨G, j * 8 + 2, none⟩ (.bool ((kk + 1 + 1) % 3 == 0))).setCell ⟨G, j * 8 + 3, none⟩ (.int .i64 (kk + 1 + 1 + 1))).setCell ⟨G, j * 8 + 4, none⟩ (.int .i64 (kk + 1 + 1 + 1 + 1))).setCell ⟨G, j * 8 + 5, none⟩ (.int .i64 (kk + 1 + 1 + 1 + 1 + 1))).setCell ⟨G, j * 8 + 6, none⟩ (.int .i64 (kk + 1 + 1 + 1 + 1 + 1 + 1))) d → intsR.own d Sj [.slice D x.2.2.2.2.2.2.2.length C] (slmark intM (kk + 1 + 1 + 1 + 1 + 1 + 1 + 1) x.2.2.2.2.2.2.2) → entsR.own d S [.slice (some ⟨G, 0, none⟩) xs.length E] (pmark entM k xs (j + 1)) ∧ Chg S wr d) := by
    intro d F L;have z0 := X.out d F;have c1 : Chg S wr (((((((wr.setCell ⟨G, j * 8, none⟩ (.int .i64 (kk))).setCell ⟨G, j * 8 + 1, none⟩ (.int .i64 (kk + 1))).setCell ⟨G, j * 8 + 2, none⟩ (.bool ((kk + 1 + 1) % 3 == 0))).setCell ⟨G, j * 8 + 3, none⟩ (.int .i64 (kk + 1 + 1 + 1))).setCell ⟨G, j * 8 + 4, none⟩ (.int .i64 (kk + 1 + 1 + 1 + 1))).setCell ⟨G, j * 8 + 5, none⟩ (.int .i64 (kk + 1 + 1 + 1 + 1 + 1))).setCell ⟨G, j * 8 + 6, none⟩ (.int .i64 (kk + 1 + 1 + 1 + 1 + 1 + 1))) := chg_cellent (chg_cellent (chg_cellent (chg_cellent (chg_cellent (chg_cellent (chg_cellent (Chg.refl S wr) l) l) l) l) l) l) l;have c2 := c1.trans (F.mono Z);have c3 : Chg S d d := Chg.refl S d;refine ⟨?_, c2.trans c3⟩;rw [← z.out];have p : intsR.own d Sj [.slice D x.2.2.2.2.2.2.2.length C] (slmark intM (kk + 1 + 1 + 1 + 1 + 1 + 1 + 1) x.2.2.2.2.2.2.2) := L;refine n d _ [.int .i64 (kk), .int .i64 (kk + 1), .bool ((kk + 1 + 1) % 3 == 0), .int .i64 (kk + 1 + 1 + 1), .int .i64 (kk + 1 + 1 + 1 + 1), .int .i64 (kk + 1 + 1 + 1 + 1 + 1), .int .i64 (kk + 1 + 1 + 1 + 1 + 1 + 1), .slice D x.2.2.2.2.2.2.2.length C] _ Sj S z0 (by simp) ?_ ?_ ?_ (own_ent (in64_ent (by omega) (by omega)) (in64_ent (by omega) (by omega)) (in64_ent (by omega) (by omega)) (in64_ent (by omega) (by omega)) (in64_ent (by omega) (by omega)) (in64_ent (by omega) (by omega)) p) s3 o l Z s2
    ·intro i B;rw [show entR.size = 8 from rfl] at B;rw [Array.getElem?_setIfInBounds_ne (by omega), Array.getElem?_setIfInBounds_ne (by omega), Array.getElem?_setIfInBounds_ne (by omega), Array.getElem?_setIfInBounds_ne (by omega), Array.getElem?_setIfInBounds_ne (by omega), Array.getElem?_setIfInBounds_ne (by omega), Array.getElem?_setIfInBounds_ne (by omega)]
    ·intro i B;rw [show entR.size = 8 from rfl] at B;rw [show j * entR.size = j * 8 from rfl];have h3 : i = 0 ∨ i = 1 ∨ i = 2 ∨ i = 3 ∨ i = 4 ∨ i = 5 ∨ i = 6 ∨ i = 7 := by omega
     rcases h3 with rfl | rfl | rfl | rfl | rfl | rfl | rfl | rfl
     ·rw [Array.getElem?_setIfInBounds_ne (by omega), Array.getElem?_setIfInBounds_ne (by omega), Array.getElem?_setIfInBounds_ne (by omega), Array.getElem?_setIfInBounds_ne (by omega), Array.getElem?_setIfInBounds_ne (by omega), Array.getElem?_setIfInBounds_ne (by omega)];rw [Nat.add_zero];rw [Array.getElem?_setIfInBounds_self_of_lt (by first | omega | (simp; omega))];rfl
     ·rw [Array.getElem?_setIfInBounds_ne (by omega), Array.getElem?_setIfInBounds_ne (by omega), Array.getElem?_setIfInBounds_ne (by omega), Array.getElem?_setIfInBounds_ne (by omega), Array.getElem?_setIfInBounds_ne (by omega)];skip
      rw [Array.getElem?_setIfInBounds_self_of_lt (by first | omega | (simp; omega))];rfl
     ·rw [Array.getElem?_setIfInBounds_ne (by omega), Array.getElem?_setIfInBounds_ne (by omega), Array.getElem?_setIfInBounds_ne (by omega), Array.getElem?_setIfInBounds_ne (by omega)];skip
      rw [Array.getElem?_setIfInBounds_self_of_lt (by first | omega | (simp; omega))];rfl
     ·rw [Array.getElem?_setIfInBounds_ne (by omega), Array.getElem?_setIfInBounds_ne (by omega), Array.getElem?_setIfInBounds_ne (by omega)];skip
      rw [Array.getElem?_setIfInBounds_self_of_lt (by first | omega | (simp; omega))];rfl
     ·rw [Array.getElem?_setIfInBounds_ne (by omega), Array.getElem?_setIfInBounds_ne (by omega)];skip
      rw [Array.getElem?_setIfInBounds_self_of_lt (by first | omega | (simp; omega))];rfl
     ·rw [Array.getElem?_setIfInBounds_ne (by omega)];skip
      rw [Array.getElem?_setIfInBounds_self_of_lt (by first | omega | (simp; omega))];rfl
     ·skip
      skip
      rw [Array.getElem?_setIfInBounds_self_of_lt (by first | omega | (simp; omega))];rfl
     ·rw [Array.getElem?_setIfInBounds_ne (by omega), Array.getElem?_setIfInBounds_ne (by omega), Array.getElem?_setIfInBounds_ne (by omega), Array.getElem?_setIfInBounds_ne (by omega), Array.getElem?_setIfInBounds_ne (by omega), Array.getElem?_setIfInBounds_ne (by omega), Array.getElem?_setIfInBounds_ne (by omega)];exact b 7 (by decide)
    ·intro i B N;have m : i ≠ G := fun e => s5 (by rw [← e]; exact B);rw [F.block i (by simpa using N) (fun y => s3 i y B), heap_setCell_other _ ⟨G, j * 8 + 6, none⟩ i _ m, heap_setCell_other _ ⟨G, j * 8 + 5, none⟩ i _ m, heap_setCell_other _ ⟨G, j * 8 + 4, none⟩ i _ m, heap_setCell_other _ ⟨G, j * 8 + 3, none⟩ i _ m, heap_setCell_other _ ⟨G, j * 8 + 2, none⟩ i _ m, heap_setCell_other _ ⟨G, j * 8 + 1, none⟩ i _ m, heap_setCell_other _ ⟨G, j * 8, none⟩ i _ m]
   have HO : Hid (intsR.own (((((((wr.setCell ⟨G, j * 8, none⟩ (.int .i64 (kk))).setCell ⟨G, j * 8 + 1, none⟩ (.int .i64 (kk + 1))).setCell ⟨G, j * 8 + 2, none⟩ (.bool ((kk + 1 + 1) % 3 == 0))).setCell ⟨G, j * 8 + 3, none⟩ (.int .i64 (kk + 1 + 1 + 1))).setCell ⟨G, j * 8 + 4, none⟩ (.int .i64 (kk + 1 + 1 + 1 + 1))).setCell ⟨G, j * 8 + 5, none⟩ (.int .i64 (kk + 1 + 1 + 1 + 1 + 1))).setCell ⟨G, j * 8 + 6, none⟩ (.int .i64 (kk + 1 + 1 + 1 + 1 + 1 + 1))) Sj [.slice D x.2.2.2.2.2.2.2.length C] x.2.2.2.2.2.2.2) := own_setC (own_setC (own_setC (own_setC (own_setC (own_setC (own_setC (A) o) o) o) o) o) o) o;clear y K s n b a Z s2 s3 o s5 z h A O H y0 y1 y2 y3 y4 y5 y6 y7;generalize slcnt entM (xs.take j) = TT at HT hT V;go_wp2_with fail
   refine (markInt64S_rep Sj _ _ x.2.2.2.2.2.2.2 _ (by omega) (by omega) (by omega) HO.out).mono ?_;rintro e d ⟨rfl, r, gr⟩;have b9 := X.out d gr;obtain ⟨p, I⟩ := HC.out d gr r;have J := hs.trans I;have HF : Hid _ := And.intro p J;clear r gr I HC HO p J X q0 q1 q2 q3 q4 q5 q6 q7 r0 r1 r2 r3 r4 r5 r6;clear b9;go_wp2;go_roundw
   case rel => exact ⟨j + 1, by omega, by go_num, by rw [HT.out]; congr 1; omega, HF.out.1, HF.out.2⟩
   case measure => simp [intOf]; omega
  ·have R : j = xs.length := by omega
   subst R;rw [List.take_length];rw [pmark_all] at K;go_wp2;go_ret
   exact ⟨rfl, K, hs⟩
theorem lot_e : lot = 4398046511104 := rfl
theorem szRows_u : SzC 58 rowsR rowsM cell1 := by
 rintro cs x b w ⟨a, c, rfl, i, f, j⟩ d g;exact (szInt64SS_rep a x c b w j d g (Nat.le_trans i f)).mono fun e w' ⟨q, r⟩ => ⟨q, be_eq r⟩
theorem toRows_u : ToC 64 rowsR rowsM cell1 := by
 rintro cs x w ⟨a, b, rfl, l1, l2, f⟩ d;refine (toInt64SS_rep a x b w f d).mono ?_;rintro e w' ⟨v, rfl, c⟩;exact ⟨[v], rfl, c⟩
theorem eqRows_u : EqC 78 rowsR rowsM cell1 := by
 rintro cs ds x w ⟨a, c, rfl, l1, l2, f⟩ ⟨b, g, rfl, k1, k2, i⟩ d;refine (eqInt64SS_rep a b x c g w f i (Nat.le_trans d (by decide))).mono ?_;rintro e w' ⟨q, n, rfl⟩;exact ⟨q, be_drewN (Below.refl _ _) n⟩
theorem mkRows_u : MkC 84 rowsR rowsM cell1 := by
 intro S cs x k w h a hm hb;obtain ⟨v, rfl⟩ := own_cell h;have e := lot_e;have e2 : rowsM.cV x = slcnt intsM x := rfl;have e3 : rowsM.bk x = x.length + sumbk intsM x := rfl;exact markInt64SS_rep S v k x w a (by omega) (by omega) (by omega) h
theorem szEnts_u : SzC 59 entsR entsM cell1 := by
 rintro cs x b w ⟨a, c, rfl, i, f, j⟩ d g;exact szEntryS_rep a x c b w j d g (Nat.le_trans i f)
theorem toEnts_u : ToC 65 entsR entsM cell1 := by
 rintro cs x w ⟨a, b, rfl, l1, l2, f⟩ d;refine (toEntryS_rep a x b w f d).mono ?_;rintro e w' ⟨v, rfl, c⟩;exact ⟨[v], rfl, c⟩
theorem eqEnts_u : EqC 79 entsR entsM cell1 := by
 rintro cs ds x w ⟨a, c, rfl, l1, l2, i⟩ ⟨b, d, rfl, k1, k2, f⟩ g;exact eqEntryS_rep a b x c d w i f (Nat.le_trans g (by decide))
theorem mkEnts_u : MkC 85 entsR entsM cell1 := by
 intro S cs x k w h a hm hb;obtain ⟨v, rfl⟩ := own_cell h;have e := lot_e;have e2 : entsM.cV x = slcnt entM x := rfl;exact markEntryS_rep S v k x w a (by omega) (by omega) h
abbrev HouseD := List (List Int) × List EntryD
abbrev houseR : Rep HouseD := prodR rowsR entsR
abbrev houseM : Mk HouseD := prodM rowsM entsM
theorem len1house {l : List Value} (h : l.length = 1) : ∃ a0, l = [a0] := by
 match l, h with
 | [a0], _ => exact ⟨a0, rfl⟩
theorem house_rd {w : World} {cs : List Value} {x : HouseD} (h : houseR.rd w cs x) : ∃ a b, cs = [a, b] ∧ rowsR.rd w [a] x.1 ∧ entsR.rd w [b] x.2 := by
 obtain ⟨c0, e0, rfl, c, d⟩ := h;obtain ⟨a, rfl⟩ := len1house (rowsR.rd_len c);obtain ⟨b, rfl⟩ := len1house (entsR.rd_len d);exact ⟨a, b, rfl, c, d⟩
theorem cells_house {w : World} {g : Nat} {x0 x1 : Value} {t : TypeId} (h : w.heap[g]? = some (.cells #[x0, x1] t (0, 0))) : w.cell? ⟨g, 0, none⟩ = some x0 ∧ w.cell? ⟨g, 1, none⟩ = some x1 :=
 ⟨by rw [cell_of_row w g 0 _ t (0, 0) h]; rfl, by rw [cell_of_row w g 1 _ t (0, 0) h]; rfl⟩
theorem szHouse_u : SzC 22 houseR houseM aggV := by
 intro cs x c w h h0 h1;obtain ⟨g, m, rfl, n, o⟩ := house_rd h;clear h;rw [show houseM.bk x = rowsM.bk x.1 + entsM.bk x.2 from rfl];change Calls Tryz.prog 22 #[.agg #[g, m], .int .i64 c] w _
 have j : Hid (∀ L W, Below w.heap.size w W → 0 ≤ L → L ≤ 1048576 → Calls Tryz.prog 58 #[g, .int .i64 L] W fun e w' => e = .returned (.int .i64 (szI (rowsM.bk x.1) L)) ∧ Below W.heap.size W w') := fun L W hb a b => szRows_u [g] _ L W (rd_next n hb) a b;have l : Hid (∀ L W, Below w.heap.size w W → 0 ≤ L → L ≤ 1048576 → Calls Tryz.prog 59 #[m, .int .i64 L] W fun e w' => e = .returned (.int .i64 (szI (entsM.bk x.2) L)) ∧ Below W.heap.size W w') := fun L W hb a b => szEnts_u [m] _ L W (rd_next o hb) a b;clear n o;generalize rowsM.bk x.1 = n0 at j ⊢;generalize entsM.bk x.2 = n1 at l ⊢;go_enter Tryz.func22, Tryz.ntmps22;go_wp2_with fail
 generalize d : w.alloc _ = W0;have X := boxH d;have B := boxB d;clear d;refine (j.out (c) _ B (by omega) (by omega)).mono ?_;rintro e w1 ⟨rfl, f⟩;replace X := row_keep f X;replace B := below_step B f;clear f j;by_cases p : (n0 : Int) ≤ c
 ·rw [szI_yes p];have g0 : ¬ (c - (n0 : Int) < 0) := by omega
  obtain ⟨k, i⟩ := cells_house X;go_wp2_with fail
  clear k i;refine (l.out (c - (n0 : Int)) _ B (by omega) (by omega)).mono ?_;rintro e w2 ⟨rfl, f⟩;replace X := row_keep f X;replace B := below_step B f;clear f l;by_cases q : (n1 : Int) ≤ c - (n0 : Int)
  ·rw [szI_yes q];have g1 : ¬ (c - (n0 : Int) - (n1 : Int) < 0) := by omega
   obtain ⟨k, i⟩ := cells_house X;clear k i X;go_wp2;go_ret
   exact ⟨ret_int (by rw [szI_yes (by omega)]; omega), B⟩
  ·rw [szI_no q];clear X;go_wp2;go_ret
   exact ⟨ret_int (szI_no (by omega)).symm, B⟩
 ·rw [szI_no p];clear X;go_wp2;go_ret
  exact ⟨ret_int (szI_no (by omega)).symm, B⟩
theorem eqHouse_u : EqC 39 houseR houseM aggV := by
 intro cs ds x w h k j;obtain ⟨b, f, rfl, g, i⟩ := house_rd h;obtain ⟨d, c, rfl, q, o⟩ := house_rd k;clear h k;rw [show houseM.bk x = rowsM.bk x.1 + entsM.bk x.2 from rfl] at j;change Calls Tryz.prog 39 #[.agg #[b, f], .agg #[d, c]] w _
 have m : Hid (∀ W, Below w.heap.size w W → Calls Tryz.prog 78 #[b, d] W fun e w' => e = .returned (.bool true) ∧ Below W.heap.size W w') := fun W hb => eqRows_u [b] [d] _ W (rd_next g hb) (rd_next q hb) (by omega);have s : Hid (∀ W, Below w.heap.size w W → Calls Tryz.prog 79 #[f, c] W fun e w' => e = .returned (.bool true) ∧ Below W.heap.size W w') := fun W hb => eqEnts_u [f] [c] _ W (rd_next i hb) (rd_next o hb) (by omega);clear j g q i o;have X := heap_on (.cells #[d, c] 42) (heap_at w (.cells #[b, f] 42));have Y := heap_at (w.alloc (.cells #[b, f] 42)) (.cells #[d, c] 42);rw [alloc_len] at Y;have B := below_step (box_below w (.cells #[b, f] 42)) (box_below _ (.cells #[d, c] 42));go_enter Tryz.func39, Tryz.ntmps39;go_wp2_with fail
 generalize (w.alloc (.cells #[b, f] 42)).alloc (.cells #[d, c] 42) = W0 at X Y B ⊢;refine (m.out _ B).mono ?_;rintro e w1 ⟨rfl, a⟩;replace X := row_keep a X;replace Y := row_keep a Y;replace B := below_step B a;clear a m;obtain ⟨p, l⟩ := cells_house X;obtain ⟨r, n⟩ := cells_house Y;go_wp2_with fail
 clear p l r n;refine (s.out _ B).mono ?_;rintro e w2 ⟨rfl, a⟩;replace X := row_keep a X;replace Y := row_keep a Y;replace B := below_step B a;clear a s;obtain ⟨p, l⟩ := cells_house X;obtain ⟨r, n⟩ := cells_house Y;clear X Y;go_wp2;go_ret
 exact ⟨rfl, B⟩
theorem house_cV (x : HouseD) : houseM.cV x = rowsM.cV x.1 + entsM.cV x.2 := rfl
theorem house_mV (k : Int) (x : HouseD) : houseM.mV k x = (rowsM.mV k x.1, entsM.mV (k + ((rowsM.cV x.1 : Nat) : Int)) x.2) := rfl
theorem house_own {w : World} {S : Foot} {cs : List Value} {x : HouseD} (h : houseR.own w S cs x) : ∃ b c a S1, cs = [b, c] ∧ rowsR.own w a [b] x.1 ∧ entsR.own w S1 [c] x.2 ∧ Sub a S ∧ Sub S1 S ∧ Dis a S1 := by
 obtain ⟨c0, e0, a, j, rfl, d, f, g, i, k⟩ := h;obtain ⟨b, rfl⟩ := len1house (rowsR.rd_len (rowsR.own_rd d));obtain ⟨c, rfl⟩ := len1house (entsR.rd_len (entsR.own_rd f));exact ⟨b, c, a, j, rfl, d, f, g, (Sub.refl _).trans i, k.sub (Sub.refl _) (Sub.refl _)⟩
theorem own_house {w : World} {S S0 S1 : Foot} {v0 v1 : Value} {x : HouseD}  (h0 : rowsR.own w S0 [v0] x.1) (h1 : entsR.own w S1 [v1] x.2) (s0 : Sub S0 S) (s1 : Sub S1 S) (d01 : Dis S0 S1) : houseR.own w S [v0, v1] x := by
 exact ⟨[v0], [v1], S0, S1, rfl, h0, h1, s0, (fun q h => s1 q h), (fun q a h => d01 q a h)⟩
theorem mkHouse_u : MkC 44 houseR houseM aggV := by
 intro S cs x k w h h0 D O;obtain ⟨g, i, s, v, rfl, I, K, o, n, z⟩ := house_own h;clear h;rw [house_cV] at D ⊢;rw [show houseM.bk x = rowsM.bk x.1 + entsM.bk x.2 from rfl] at O;have el : lot = 4398046511104 := rfl;change Calls Tryz.prog 44 #[.agg #[g, i], .int .i64 k] w _
 have F : Hid (∀ L W, L = k → rowsR.own W (Old w s) [g] x.1 → 0 ≤ L → L + (rowsM.cV x.1 : Int) ≤ (lot : Int) → Calls Tryz.prog 84 #[g, .int .i64 L] W fun e w' => e = .returned (.int .i64 (L + (rowsM.cV x.1 : Int))) ∧ rowsR.own w' (Old w s) [g] (rowsM.mV k x.1) ∧ Chg (Old w s) W w') := fun L W hL ho a b => by subst hL; exact mkRows_u (Old w s) [g] _ _ W ho a b (by omega)
 have C : Hid (∀ L W, L = (k + ((rowsM.cV x.1 : Nat) : Int)) → entsR.own W (Old w v) [i] x.2 → 0 ≤ L → L + (entsM.cV x.2 : Int) ≤ (lot : Int) → Calls Tryz.prog 85 #[i, .int .i64 L] W fun e w' => e = .returned (.int .i64 (L + (entsM.cV x.2 : Int))) ∧ entsR.own w' (Old w v) [i] (entsM.mV (k + ((rowsM.cV x.1 : Nat) : Int)) x.2) ∧ Chg (Old w v) W w') := fun L W hL ho a b => by subst hL; exact mkEnts_u (Old w v) [i] _ _ W ho a b (by omega)
 have X := heap_at w (.cells #[g, i] 42);have p : w.heap.size < (w.alloc (.cells #[g, i] 42)).heap.size := by simp
 have j : Chg S (w.alloc (.cells #[g, i] 42)) (w.alloc (.cells #[g, i] 42)) := Chg.refl _ _;have M : ∀ W, Chg S (w.alloc (.cells #[g, i] 42)) W → Chg S w W := fun W => chg_from_box;have J := own_box (.cells #[g, i] 42) (own_old I);have d : ¬ Old w s w.heap.size := fun h => by have := h.2; omega
 have r := own_box (.cells #[g, i] 42) (own_old K);have f : ¬ Old w v w.heap.size := fun h => by have := h.2; omega
 have c : Dis (Old w s) (Old w v) := z.sub old_sub old_sub;have G : Hid _ := And.intro c (And.intro d (And.intro f (And.intro o (n))));have N : Hid _ := M;clear M I K c z d f o n;have q : Hid (∀ (P : HouseD → Prop), P (rowsM.mV k x.1, entsM.mV (k + ((rowsM.cV x.1 : Nat) : Int)) x.2) → P (houseM.mV k x)) := fun P hp => by rw [house_mV]; exact hp
 generalize rowsM.cV x.1 = n0 at F C q D ⊢;generalize entsM.cV x.2 = n1 at C q D ⊢;go_enter Tryz.func44, Tryz.ntmps44;go_wp2_with fail
 generalize w.alloc (.cells #[g, i] 42) = W0 at X p j N J r ⊢;refine (F.out (k) _ (by omega) J (by omega) (by omega)).mono ?_;rintro e w1 ⟨rfl, m, l⟩;obtain ⟨c, d, f, o, n⟩ := G.out;replace X := (l.block w.heap.size p d).trans X;replace p := Nat.lt_of_lt_of_le p l.size;replace j := j.trans (l.mono (old_sub.trans o));replace r := own_chg r l (Dis.symm c);clear l F c d f o n;obtain ⟨H, E⟩ := cells_house X;have A : Hid _ := And.intro j (And.intro r (m));clear j r m;go_wp2_with fail
 clear H E;obtain ⟨j, r, m⟩ := A.out;clear A;refine (C.out (k + (n0 : Int)) _ (by omega) r (by omega) (by omega)).mono ?_;rintro e w2 ⟨rfl, B, l⟩;obtain ⟨c, d, f, o, n⟩ := G.out;replace X := (l.block w.heap.size p f).trans X;replace p := Nat.lt_of_lt_of_le p l.size;replace j := j.trans (l.mono (old_sub.trans n));replace m := own_chg m l c;clear l C c d f o n;obtain ⟨H, E⟩ := cells_house X;clear H E X;have A : Hid _ := And.intro j (And.intro m (B));clear j m B;go_wp2;go_ret
 obtain ⟨j, m, B⟩ := A.out;obtain ⟨c, d, f, o, n⟩ := G.out;exact ⟨ret_int (by omega), q.out (fun y => houseR.own _ S _ y) (own_house (x := (rowsM.mV k x.1, entsM.mV (k + (n0 : Int)) x.2))  m B (old_sub.trans o) (old_sub.trans n) c), N.out _ j⟩
theorem froz_house {w : World} {g : Nat} {cs : Array Value} {t : TypeId} (h : w.heap[g]? = some (.cells cs t (0, 0))) : w.frozen? ⟨g, 0, none⟩ = false ∧ w.frozen? ⟨g, 1, none⟩ = false :=
 ⟨frozen_of_row w g 0 _ t h, frozen_of_row w g 1 _ t h⟩
theorem put_house {w : World} {g : Nat} {x0 x1 y0 y1 : Value} {t : TypeId} (h : w.heap[g]? = some (.cells #[x0, x1] t (0, 0))) : ((w.setCell ⟨g, 0, none⟩ (y0)).setCell ⟨g, 1, none⟩ (y1)).heap[g]? = some (.cells #[y0, y1] t (0, 0)) := by
 have b : (w.setCell ⟨g, 0, none⟩ (y0)).heap[g]? = some (.cells #[y0, x1] t (0, 0)) := heap_setCell_same _ g 0 _ t y0 h;have a : ((w.setCell ⟨g, 0, none⟩ (y0)).setCell ⟨g, 1, none⟩ (y1)).heap[g]? = some (.cells #[y0, y1] t (0, 0)) := heap_setCell_same _ g 1 _ t y1 b;exact a
theorem toHouse_u : ToC 30 houseR houseM aggV := by
 intro cs x w h N;obtain ⟨m, p, rfl, E, F⟩ := house_rd h;clear h;rw [show houseM.bk x = rowsM.bk x.1 + entsM.bk x.2 from rfl] at N;change Calls Tryz.prog 30 #[.agg #[m, p]] w _
 have O : Hid (∀ W, Below w.heap.size w W → Calls Tryz.prog 64 #[m] W fun e C => ∃ d c, e = .returned (.slice d x.1.length c) ∧ MadeR rowsR W C [.slice d x.1.length c] x.1) := fun W hb => (toRows_u [m] _ W (rd_next E hb) (by omega)).mono (by rintro e C ⟨X, rfl, a⟩; obtain ⟨d, c, rfl, -⟩ := rowsR.own_rd a.1; exact ⟨d, c, rfl, a⟩);have R : Hid (∀ W, Below w.heap.size w W → Calls Tryz.prog 65 #[p] W fun e C => ∃ j k, e = .returned (.slice j x.2.length k) ∧ MadeR entsR W C [.slice j x.2.length k] x.2) := fun W hb => (toEnts_u [p] _ W (rd_next F hb) (by omega)).mono (by rintro e C ⟨X, rfl, a⟩; obtain ⟨j, k, rfl, -⟩ := entsR.own_rd a.1; exact ⟨j, k, rfl, a⟩);clear N E F;have i := heap_on (.cells #[.slice none 0 0, .slice none 0 0] 42) (heap_on (.cells #[.slice none 0 0, .slice none 0 0] 42) (heap_at w (.cells #[m, p] 27)));have f := heap_on (.cells #[.slice none 0 0, .slice none 0 0] 42) (heap_at (w.alloc (.cells #[m, p] 27)) (.cells #[.slice none 0 0, .slice none 0 0] 42));have b := heap_at ((w.alloc (.cells #[m, p] 27)).alloc (.cells #[.slice none 0 0, .slice none 0 0] 42)) (.cells #[.slice none 0 0, .slice none 0 0] 42);rw [alloc_len] at f;rw [alloc_len, alloc_len] at b;have B : Below w.heap.size w (((w.alloc (.cells #[m, p] 27)).alloc (.cells #[.slice none 0 0, .slice none 0 0] 42)).alloc (.cells #[.slice none 0 0, .slice none 0 0] 42)) := (((Below.refl _ w).alloc (Nat.le_refl _) _).alloc (by simp) _).alloc (by simp; omega) _;have e3 : w.heap.size + 1 + 1 + 1 ≤ (((w.alloc (.cells #[m, p] 27)).alloc (.cells #[.slice none 0 0, .slice none 0 0] 42)).alloc (.cells #[.slice none 0 0, .slice none 0 0] 42)).heap.size := by simp
 go_enter Tryz.func30, Tryz.ntmps30;go_wp2_with fail
 generalize ((w.alloc (.cells #[m, p] 27)).alloc (.cells #[.slice none 0 0, .slice none 0 0] 42)).alloc (.cells #[.slice none 0 0, .slice none 0 0] 42) = u0 at i f b B e3 ⊢;refine (O.out _ B).mono ?_;rintro e n ⟨d, c, rfl, a⟩;have S := a.2.size;replace B := below_step B a.2;replace i := row_keep a.2 i;replace f := row_keep a.2 f;replace b := row_keep a.2 b;have l := a.1;clear a O;obtain ⟨K, L⟩ := cells_house i;obtain ⟨y0, y1⟩ := cells_house b;obtain ⟨J, I⟩ := froz_house b;have D : Hid _ := And.intro i (And.intro f (And.intro b (And.intro B (l))));clear i f b B l;go_wp2_with fail
 clear K L y0 y1 J I;obtain ⟨i, f, b, B, l⟩ := D.out;clear D;have G : (n.setCell ⟨w.heap.size + 1 + 1, 0, none⟩ (.slice d x.1.length c)).heap[w.heap.size + 1 + 1]? = some (.cells #[.slice d x.1.length c, .slice none 0 0] 42 (0, 0)) := heap_setCell_same _ (w.heap.size + 1 + 1) 0 _ _ (.slice d x.1.length c) b;have s := (heap_setC (g := w.heap.size + 1 + 1) (o := 0) (v := .slice d x.1.length c) i (by omega));have A := (heap_setC (g := w.heap.size + 1 + 1) (o := 0) (v := .slice d x.1.length c) f (by omega));have z : Below w.heap.size w (n.setCell ⟨w.heap.size + 1 + 1, 0, none⟩ (.slice d x.1.length c)) := (below_setC B (by omega));have y : rowsR.own (n.setCell ⟨w.heap.size + 1 + 1, 0, none⟩ (.slice d x.1.length c)) _ _ _ := (own_setC l (fun h => by have := h.1; omega));have q : n.heap.size ≤ (n.setCell ⟨w.heap.size + 1 + 1, 0, none⟩ (.slice d x.1.length c)).heap.size := by simp
 have r : (n.setCell ⟨w.heap.size + 1 + 1, 0, none⟩ (.slice d x.1.length c)).heap.size ≤ n.heap.size := by simp
 clear i f b B l ;generalize (n.setCell ⟨w.heap.size + 1 + 1, 0, none⟩ (.slice d x.1.length c)) = u1 at s A G z q r y ⊢;have i := s;have f := A;have b := G;have B := z;have l := y;have U := q;have Z := r;clear s A G z q r y;refine (R.out _ B).mono ?_;rintro e M ⟨j, k, rfl, a⟩;have T := a.2.size;replace B := below_step B a.2;replace i := row_keep a.2 i;replace f := row_keep a.2 f;replace b := row_keep a.2 b;replace l := own_stay l a.2 (by omega);have H := a.1;clear a R;obtain ⟨K, L⟩ := cells_house i;obtain ⟨y0, y1⟩ := cells_house b;obtain ⟨J, I⟩ := froz_house b;obtain ⟨z0, z1⟩ := cells_house f;obtain ⟨g0, Y⟩ := froz_house f;have D : Hid _ := And.intro i (And.intro f (And.intro b (And.intro B (And.intro l (H)))));clear i f b B l H;go_wp2;clear K L y0 y1 J I z0 z1 g0 Y;obtain ⟨i, f, b, B, l, H⟩ := D.out;clear D;have G : (M.setCell ⟨w.heap.size + 1 + 1, 1, none⟩ (.slice j x.2.length k)).heap[w.heap.size + 1 + 1]? = some (.cells #[.slice d x.1.length c, .slice j x.2.length k] 42 (0, 0)) := heap_setCell_same _ (w.heap.size + 1 + 1) 1 _ _ (.slice j x.2.length k) b;have V := put_house (y0 := .slice d x.1.length c) (y1 := .slice j x.2.length k) (heap_setC (g := w.heap.size + 1 + 1) (o := 1) (v := .slice j x.2.length k) f (by omega));obtain ⟨E, F⟩ := cells_house V;refine bodyPost_ret (v := .agg #[.slice d x.1.length c, .slice j x.2.length k]) (by simp [results, Tryz.results30, go_sem, E, F]) rfl ⟨[.slice d x.1.length c, .slice j x.2.length k], rfl, own_house (S0 := rng u0.heap.size n.heap.size) (S1 := rng u1.heap.size M.heap.size)  ?_ ?_ (rng_sub (by omega) (by simp <;> omega)) (rng_sub (by omega) (by simp <;> omega)) (rng_dis (.inl (by omega))), ?_⟩
 ·exact (own_setC (own_setC (own_setC l (fun h => by have := h.1; omega)) (fun h => by have := h.1; omega)) (fun h => by have := h.1; omega))
 ·exact (own_setC (own_setC (own_setC H (fun h => by have := h.1; omega)) (fun h => by have := h.1; omega)) (fun h => by have := h.1; omega))
 ·exact (below_setC (below_setC (below_setC B (by omega)) (by omega)) (by omega))
theorem house_shape {w : World} {cs : List Value} {x : HouseD} (h : houseR.rd w cs x) : ∃ (b : Option Addr) (d : Nat) (a : Option Addr) (c : Nat), cs = [.slice b x.1.length d, .slice a x.2.length c] := by
 obtain ⟨v0, v1, rfl, i, j⟩ := house_rd h;obtain ⟨b, d, g, -⟩ := i;simp only [List.cons.injEq, and_true] at g;obtain rfl := g;obtain ⟨a, c, f, -⟩ := j;simp only [List.cons.injEq, and_true] at f;obtain rfl := f;exact ⟨b, d, a, c, rfl⟩
theorem opens_house : Opens Tryz.prog 27 houseR :=
 opens_struct Tryz.underlying27 (by kernel_rfl) (opensF_cons rfl (by kernel_rfl) opens_rows (opensF_one rfl (by kernel_rfl) opens_ents))
end Go.Proofs.YtcocbafhcpdheaaGreatDoor
