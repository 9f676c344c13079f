import Derived.Test.YtcocbafhcpdheaaGreatDoorS00Box
import Derived.Test.YtcocbafhcpdheaaGreatDoorS21
namespace Go.Proofs.YtcocbafhcpdheaaGreatDoor
open Go.ChangeShapes Go.WideShapes Go.ChangeAt Go.RowKit
set_option linter.unusedVariables false
theorem in64_msg {k : Int} (h0 : 0 ≤ k) (h1 : k ≤ 1152921504606846976) : In64 k := by constructor <;> omega
theorem cnt_msg (x : MsgD) : msgM.cE x = (1 + (1 + (1 + (1 + (1 + (slcnt intM x.2.2.2.2.2.1 + 1)))))) := rfl
theorem cnt_msgs (xs : List MsgD) : xs.length ≤ slcnt msgM xs := by
 induction xs with
 | nil => exact Nat.zero_le _
 | cons x xs ih =>
  simp only [slcnt, List.map_cons, List.sum_cons, List.length_cons] at ih ⊢;have := cnt_msg x;omega
set_option maxHeartbeats 400000 in
theorem markMsgS_nil (k : Int) (w : World) :
    Calls Tryz.prog 47 #[.slice none 0 0, .int .i64 k] w fun e' w' => e' = .returned (.int .i64 k) ∧ w' = w := by
 go_enter Tryz.func47, Tryz.ntmps47;go_wp2;refine wp_loop_rounds 1 ?_;rw [rounds_succ];go_wp2;go_ret
 exact ⟨rfl, rfl⟩
set_option maxHeartbeats 4000000 in
theorem markMsgS_rep (S : Foot) (v : Value) (k : Int) (xs : List MsgD) (w : World) (h0 : 0 ≤ k) (h1 : k ≤ 288230376151711744) (hm : slcnt msgM xs ≤ 288230376151711744) (h : msgsR.own w S [v] xs) :
    Calls Tryz.prog 47 #[v, .int .i64 k] w fun e' d => e' = .returned (.int .i64 (k + slcnt msgM xs)) ∧ msgsR.own d S [v] (slmark msgM k xs) ∧ Chg S w d := by
 have YA := cnt_msgs xs;rcases slown_form h with ⟨rfl, rfl⟩ | ⟨G, E, rfl, hG⟩
 ·exact (markMsgS_nil k w).mono fun e d ⟨e1, e2⟩ => ⟨by simpa [slcnt] using e1, by rw [e2]; exact h, by rw [e2]; exact Chg.refl _ _⟩
 go_enter Tryz.func47, Tryz.ntmps47;go_wp2;go_loopw [1, 5] (fun q i wr => ∃ j : Nat, j ≤ xs.length ∧ i = .int .i64 j ∧ q = .int .i64 (k + slcnt msgM (xs.take j)) ∧ msgsR.own wr S [.slice (some ⟨G, 0, none⟩) xs.length E] (pmark msgM k xs j) ∧ Chg S w wr)
  (fun _ i _ => xs.length - (intOf i).toNat)
 case atStart => exact ⟨0, Nat.zero_le _, rfl, by simp [slcnt], by rw [pmark_zero]; exact h, Chg.refl _ _⟩
 case round =>
  obtain ⟨j, hj, rfl, rfl, K, hs⟩ := hrel;by_cases V : j < xs.length
  ·have kA : (j : Int) < (xs.length : Int) := by omega
   obtain ⟨x, y⟩ : ∃ x, xs[j]? = some x := ⟨_, List.getElem?_eq_getElem V⟩;have HT : Hid (slcnt msgM (xs.take (j + 1)) = slcnt msgM (xs.take j) + (1 + (1 + (1 + (1 + (1 + (slcnt intM x.2.2.2.2.2.1 + 1))))))) := slcnt_step (M := msgM) y;have hT : slcnt msgM (xs.take j) + (1 + (1 + (1 + (1 + (1 + (slcnt intM x.2.2.2.2.2.1 + 1)))))) ≤ slcnt msgM xs := slcnt_get (M := msgM) y;have z : Hid _ := pmark_step (M := msgM) (k := k) y;obtain ⟨g, AA, l, Sj, T, c, hv, B, a, b, bA, r, s1, s2, s3, o, s5, m⟩ := slown_focus K (pmark_at y);simp only [Value.slice.injEq, Option.some.injEq, Addr.mk.injEq, and_true] at hv;obtain ⟨rfl, Z⟩ := hv;obtain ⟨vd, rfl, -, -, -, -, -, -, A⟩ := msg_own r;obtain ⟨D, C, rfl⟩ := slown_val A;have q0 : wr.cell? ⟨G, j * 7, none⟩ = some (.int .i64 x.1) := by rw [cell_of_row wr G _ l _ (0, 0) a]; exact b 0 (by decide)
   have q1 : wr.cell? ⟨G, j * 7 + 1, none⟩ = some (.int .i64 x.2.1) := by rw [cell_of_row wr G _ l _ (0, 0) a]; exact b 1 (by decide)
   have q2 : wr.cell? ⟨G, j * 7 + 2, none⟩ = some (.int .i64 x.2.2.1) := by rw [cell_of_row wr G _ l _ (0, 0) a]; exact b 2 (by decide)
   have q3 : wr.cell? ⟨G, j * 7 + 3, none⟩ = some (.int .i64 x.2.2.2.1) := by rw [cell_of_row wr G _ l _ (0, 0) a]; exact b 3 (by decide)
   have q4 : wr.cell? ⟨G, j * 7 + 4, none⟩ = some (.int .i64 x.2.2.2.2.1) := by rw [cell_of_row wr G _ l _ (0, 0) a]; exact b 4 (by decide)
   have q5 : wr.cell? ⟨G, j * 7 + 5, none⟩ = some (.slice D x.2.2.2.2.2.1.length C) := by rw [cell_of_row wr G _ l _ (0, 0) a]; exact b 5 (by decide)
   have q6 : wr.cell? ⟨G, j * 7 + 6, none⟩ = some (.int .i64 x.2.2.2.2.2.2) := by rw [cell_of_row wr G _ l _ (0, 0) a]; exact b 6 (by decide)
   have r0 : wr.frozen? ⟨G, j * 7, none⟩ = false := frozen_of_row wr G _ _ _ a;have r1 : wr.frozen? ⟨G, j * 7 + 1, none⟩ = false := frozen_of_row wr G _ _ _ a;have r2 : wr.frozen? ⟨G, j * 7 + 2, none⟩ = false := frozen_of_row wr G _ _ _ a;have r3 : wr.frozen? ⟨G, j * 7 + 3, none⟩ = false := frozen_of_row wr G _ _ _ a;have r4 : wr.frozen? ⟨G, j * 7 + 4, none⟩ = false := frozen_of_row wr G _ _ _ a;have r6 : wr.frozen? ⟨G, j * 7 + 6, none⟩ = false := frozen_of_row wr G _ _ _ a;have O : j * 7 + 6 < l.size := by
    have := b 6 (by decide);exact (Array.getElem?_eq_some_iff.1 (this.trans rfl)).1
   clear Z bA;generalize X : k + (slcnt msgM (xs.take j) : Int) = kk at z ⊢;have NA : 0 ≤ kk ∧ kk ≤ 576460752303423488 := by omega
   have H : G < wr.heap.size := (ltH a);have y0 := a;have y1 := heap_setCell_same _ G (j * 7) _ _ (.int .i64 (kk)) y0;have y2 := heap_setCell_same _ G (j * 7 + 1) _ _ (.int .i64 (kk + 1)) y1;have y3 := heap_setCell_same _ G (j * 7 + 2) _ _ (.int .i64 (kk + 1 + 1)) y2;have y4 := heap_setCell_same _ G (j * 7 + 3) _ _ (.int .i64 (kk + 1 + 1 + 1)) y3;have y5 := heap_setCell_same _ G (j * 7 + 4) _ _ (.int .i64 (kk + 1 + 1 + 1 + 1)) y4
   have cA : Hid (∀ d : World, d.heap[G]? = some (.cells (((((l.setIfInBounds (j * 7) (.int .i64 (kk))).setIfInBounds (j * 7 + 1) (.int .i64 (kk + 1))).setIfInBounds (j * 7 + 2) (.int .i64 (kk + 1 + 1))).setIfInBounds (j * 7 + 3) (.int .i64 (kk + 1 + 1 + 1))).setIfInBounds (j * 7 + 4) (.int .i64 (kk + 1 + 1 + 1 + 1))) 119 (0, 0)) → ∃ t, d.cell? ⟨G, j * 7 + 6, none⟩ = some t) := fun d hb => ⟨.int .i64 x.2.2.2.2.2.2, by
    rw [cell_of_row d G _ _ _ (0, 0) hb, Array.getElem?_setIfInBounds_ne (by omega), Array.getElem?_setIfInBounds_ne (by omega), Array.getElem?_setIfInBounds_ne (by omega), Array.getElem?_setIfInBounds_ne (by omega), Array.getElem?_setIfInBounds_ne (by omega)]
    exact b 6 (by decide)⟩
   have Y : Hid (∀ d, Chg Sj (((((wr.setCell ⟨G, j * 7, none⟩ (.int .i64 (kk))).setCell ⟨G, j * 7 + 1, none⟩ (.int .i64 (kk + 1))).setCell ⟨G, j * 7 + 2, none⟩ (.int .i64 (kk + 1 + 1))).setCell ⟨G, j * 7 + 3, none⟩ (.int .i64 (kk + 1 + 1 + 1))).setCell ⟨G, j * 7 + 4, none⟩ (.int .i64 (kk + 1 + 1 + 1 + 1))) d → d.heap[G]? = some (.cells (((((l.setIfInBounds (j * 7) (.int .i64 (kk))).setIfInBounds (j * 7 + 1) (.int .i64 (kk + 1))).setIfInBounds (j * 7 + 2) (.int .i64 (kk + 1 + 1))).setIfInBounds (j * 7 + 3) (.int .i64 (kk + 1 + 1 + 1))).setIfInBounds (j * 7 + 4) (.int .i64 (kk + 1 + 1 + 1 + 1))) 119 (0, 0))) := fun d F => (F.block G (by simpa using H) o).trans y5;have HC : Hid (∀ d, Chg Sj (((((wr.setCell ⟨G, j * 7, none⟩ (.int .i64 (kk))).setCell ⟨G, j * 7 + 1, none⟩ (.int .i64 (kk + 1))).setCell ⟨G, j * 7 + 2, none⟩ (.int .i64 (kk + 1 + 1))).setCell ⟨G, j * 7 + 3, none⟩ (.int .i64 (kk + 1 + 1 + 1))).setCell ⟨G, j * 7 + 4, none⟩ (.int .i64 (kk + 1 + 1 + 1 + 1))) d → intsR.own d Sj [.slice D x.2.2.2.2.2.1.length C] (slmark intM (kk + 1 + 1 + 1 + 1 + 1) x.2.2.2.2.2.1) → msgsR.own (d.setCell ⟨G, j * 7 + 6, none⟩ (.int .i64 (kk + 1 + 1 + 1 + 1 + 1 + (slcnt intM x.2.2.2.2.2.1 : Int)))) S [.slice (some ⟨G, 0, none⟩) xs.length E] (pmark msgM k xs (j + 1)) ∧ Chg S wr (d.setCell ⟨G, j * 7 + 6, none⟩ (.int .i64 (kk + 1 + 1 + 1 + 1 + 1 + (slcnt intM x.2.2.2.2.2.1 : Int))))) := by
    intro d F L;have z0 := Y.out d F;have z1 := heap_setCell_same _ G (j * 7 + 6) _ _ (.int .i64 (kk + 1 + 1 + 1 + 1 + 1 + (slcnt intM x.2.2.2.2.2.1 : Int))) z0
    have c1 : Chg S wr (((((wr.setCell ⟨G, j * 7, none⟩ (.int .i64 (kk))).setCell ⟨G, j * 7 + 1, none⟩ (.int .i64 (kk + 1))).setCell ⟨G, j * 7 + 2, none⟩ (.int .i64 (kk + 1 + 1))).setCell ⟨G, j * 7 + 3, none⟩ (.int .i64 (kk + 1 + 1 + 1))).setCell ⟨G, j * 7 + 4, none⟩ (.int .i64 (kk + 1 + 1 + 1 + 1))) := ⟨rfl, rfl, rfl, by simp, fun i s hn => by
     have f : i ≠ G := fun e => hn (by rw [e]; exact B)
     rw [heap_setCell_other _ ⟨G, j * 7 + 4, none⟩ i _ f, heap_setCell_other _ ⟨G, j * 7 + 3, none⟩ i _ f, heap_setCell_other _ ⟨G, j * 7 + 2, none⟩ i _ f, heap_setCell_other _ ⟨G, j * 7 + 1, none⟩ i _ f, heap_setCell_other _ ⟨G, j * 7, none⟩ i _ f]⟩
    have c2 := c1.trans (F.mono s1)
    have c3 : Chg S d (d.setCell ⟨G, j * 7 + 6, none⟩ (.int .i64 (kk + 1 + 1 + 1 + 1 + 1 + (slcnt intM x.2.2.2.2.2.1 : Int)))) := ⟨rfl, rfl, rfl, by simp, fun i s hn => by
     have f : i ≠ G := fun e => hn (by rw [e]; exact B)
     rw [heap_setCell_other _ ⟨G, j * 7 + 6, none⟩ i _ f]⟩
    refine ⟨?_, c2.trans c3⟩;rw [← z.out];have n : intsR.own (d.setCell ⟨G, j * 7 + 6, none⟩ (.int .i64 (kk + 1 + 1 + 1 + 1 + 1 + (slcnt intM x.2.2.2.2.2.1 : Int)))) Sj [.slice D x.2.2.2.2.2.1.length C] (slmark intM (kk + 1 + 1 + 1 + 1 + 1) x.2.2.2.2.2.1) := own_setC (L) o;refine m (d.setCell ⟨G, j * 7 + 6, none⟩ (.int .i64 (kk + 1 + 1 + 1 + 1 + 1 + (slcnt intM x.2.2.2.2.2.1 : Int)))) _ [.int .i64 (kk), .int .i64 (kk + 1), .int .i64 (kk + 1 + 1), .int .i64 (kk + 1 + 1 + 1), .int .i64 (kk + 1 + 1 + 1 + 1), .slice D x.2.2.2.2.2.1.length C, .int .i64 (kk + 1 + 1 + 1 + 1 + 1 + (slcnt intM x.2.2.2.2.2.1 : Int))] _ Sj S z1 (by simp) ?_ ?_ ?_ (own_msg (in64_msg (by omega) (by omega)) (in64_msg (by omega) (by omega)) (in64_msg (by omega) (by omega)) (in64_msg (by omega) (by omega)) (in64_msg (by omega) (by omega)) (in64_msg (by omega) (by omega)) n) s3 o B s1 s2
    ·intro i s;rw [show msgR.size = 7 from rfl] at s;rw [Array.getElem?_setIfInBounds_ne (by omega), Array.getElem?_setIfInBounds_ne (by omega), Array.getElem?_setIfInBounds_ne (by omega), Array.getElem?_setIfInBounds_ne (by omega), Array.getElem?_setIfInBounds_ne (by omega), Array.getElem?_setIfInBounds_ne (by omega)]
    ·intro i s;rw [show msgR.size = 7 from rfl] at s;rw [show j * msgR.size = j * 7 from rfl];have h3 : i = 0 ∨ i = 1 ∨ i = 2 ∨ i = 3 ∨ i = 4 ∨ i = 5 ∨ i = 6 := by omega
     rcases h3 with rfl | rfl | rfl | rfl | rfl | rfl | rfl
     ·rw [Array.getElem?_setIfInBounds_ne (by omega), Array.getElem?_setIfInBounds_ne (by omega), Array.getElem?_setIfInBounds_ne (by omega), Array.getElem?_setIfInBounds_ne (by omega), Array.getElem?_setIfInBounds_ne (by omega)];rw [Nat.add_zero];rw [Array.getElem?_setIfInBounds_self_of_lt (by first | omega | (simp; omega))];rfl
     ·rw [Array.getElem?_setIfInBounds_ne (by omega), Array.getElem?_setIfInBounds_ne (by omega), Array.getElem?_setIfInBounds_ne (by omega), Array.getElem?_setIfInBounds_ne (by omega)];skip
      rw [Array.getElem?_setIfInBounds_self_of_lt (by first | omega | (simp; omega))];rfl
     ·rw [Array.getElem?_setIfInBounds_ne (by omega), Array.getElem?_setIfInBounds_ne (by omega), Array.getElem?_setIfInBounds_ne (by omega)];skip
      rw [Array.getElem?_setIfInBounds_self_of_lt (by first | omega | (simp; omega))];rfl
     ·rw [Array.getElem?_setIfInBounds_ne (by omega), Array.getElem?_setIfInBounds_ne (by omega)];skip
      rw [Array.getElem?_setIfInBounds_self_of_lt (by first | omega | (simp; omega))];rfl
     ·rw [Array.getElem?_setIfInBounds_ne (by omega)];skip
      rw [Array.getElem?_setIfInBounds_self_of_lt (by first | omega | (simp; omega))];rfl
     ·rw [Array.getElem?_setIfInBounds_ne (by omega), Array.getElem?_setIfInBounds_ne (by omega), Array.getElem?_setIfInBounds_ne (by omega), Array.getElem?_setIfInBounds_ne (by omega), Array.getElem?_setIfInBounds_ne (by omega), Array.getElem?_setIfInBounds_ne (by omega)];exact b 5 (by decide)
     ·skip
      skip
      rw [Array.getElem?_setIfInBounds_self_of_lt (by first | omega | (simp; omega))];rfl
    ·intro i s N;have f : i ≠ G := fun e => s5 (by rw [← e]; exact s);rw [heap_setCell_other _ ⟨G, j * 7 + 6, none⟩ i _ f, F.block i (by simpa using N) (fun y => s3 i y s), heap_setCell_other _ ⟨G, j * 7 + 4, none⟩ i _ f, heap_setCell_other _ ⟨G, j * 7 + 3, none⟩ i _ f, heap_setCell_other _ ⟨G, j * 7 + 2, none⟩ i _ f, heap_setCell_other _ ⟨G, j * 7 + 1, none⟩ i _ f, heap_setCell_other _ ⟨G, j * 7, none⟩ i _ f]
   have HO : Hid (intsR.own (((((wr.setCell ⟨G, j * 7, none⟩ (.int .i64 (kk))).setCell ⟨G, j * 7 + 1, none⟩ (.int .i64 (kk + 1))).setCell ⟨G, j * 7 + 2, none⟩ (.int .i64 (kk + 1 + 1))).setCell ⟨G, j * 7 + 3, none⟩ (.int .i64 (kk + 1 + 1 + 1))).setCell ⟨G, j * 7 + 4, none⟩ (.int .i64 (kk + 1 + 1 + 1 + 1))) Sj [.slice D x.2.2.2.2.2.1.length C] x.2.2.2.2.2.1) := own_setC (own_setC (own_setC (own_setC (own_setC (A) o) o) o) o) o;clear y K r m b a s1 s2 s3 o s5 z h A O H y0 y1 y2 y3 y4 y5;generalize slcnt msgM (xs.take j) = TT at HT hT X;go_wp2_with fail
   refine (markInt64S_rep Sj _ _ x.2.2.2.2.2.1 _ (by omega) (by omega) (by omega) HO.out).mono ?_;rintro e d ⟨rfl, p, gr⟩;have R := Y.out d gr;obtain ⟨n, I⟩ := HC.out d gr p;have J := hs.trans I;have HF : Hid _ := And.intro n J;clear p gr I HC HO n J Y q0 q1 q2 q3 q4 q5 q6 r0 r1 r2 r3 r4 r6;obtain ⟨t6, XA⟩ : ∃ t, d.cell? ⟨G, j * 7 + 6, none⟩ = some t := cA.out d R;have r6 : d.frozen? ⟨G, j * 7 + 6, none⟩ = false := frozen_of_row d G _ _ _ R;clear R;go_wp2;go_roundw
   case rel => exact ⟨j + 1, by omega, by go_num, by rw [HT.out]; congr 1; omega, HF.out.1, HF.out.2⟩
   case measure => simp [intOf]; omega
  ·have U : j = xs.length := by omega
   subst U;rw [List.take_length];rw [pmark_all] at K;go_wp2;go_ret
   exact ⟨rfl, K, hs⟩
theorem eqMsgs_u : EqC 42 msgsR msgsM cell1 := by
 rintro cs ds x w ⟨a, c, rfl, l1, l2, i⟩ ⟨b, d, rfl, k1, k2, f⟩ g;exact eqMsgS_rep a b x c d w i f (Nat.le_trans g (by decide))
theorem mkMsgs_u : MkC 47 msgsR msgsM cell1 := by
 intro S cs x k w h a hm hb;obtain ⟨v, rfl⟩ := own_cell h;have e : lot = 4398046511104 := rfl;have e2 : msgsM.cV x = slcnt msgM x := rfl;exact markMsgS_rep S v k x w a (by omega) (by omega) h
theorem szMsgs_u : SzC 25 msgsR msgsM cell1 := by
 rintro cs x b w ⟨a, c, rfl, i, f, j⟩ d g;exact szMsgS_rep a x c b w j d g (Nat.le_trans i f)
theorem toMsgs_u : ToC 33 msgsR msgsM cell1 := by
 rintro cs x w ⟨a, b, rfl, l1, l2, f⟩ d;refine (toMsgS_rep a x b w f d).mono ?_;rintro e w' ⟨v, rfl, c⟩;exact ⟨[v], rfl, c⟩
end Go.Proofs.YtcocbafhcpdheaaGreatDoor
