import Derived.Test.YtcocbafhcpdheaaGreatDoorS00Box
import Derived.Test.YtcocbafhcpdheaaGreatDoorS21Msgs
namespace Go.Proofs.YtcocbafhcpdheaaGreatDoor
open Go.ChangeShapes Go.WideShapes Go.ChangeAt Go.RowKit
set_option linter.unusedVariables false
theorem in64_msg {k : Int} (h0 : 0 ≤ k) (h1 : k ≤ 1152921504606846976) : In64 k := by constructor <;> omega
theorem cnt_msg (x : MsgD) : msgM.cE x = (1 + (1 + (1 + (1 + (1 + (slcnt intM x.2.2.2.2.2.1 + 1)))))) := rfl
theorem cnt_msgs (xs : List MsgD) : xs.length ≤ slcnt msgM xs := by
 induction xs with
 | nil => exact Nat.zero_le _
 | cons x xs ih =>
  simp only [slcnt, List.map_cons, List.sum_cons, List.length_cons] at ih ⊢;have := cnt_msg x;omega
set_option maxHeartbeats 400000 in
theorem markMsgS_nil (k : Int) (w : World) :
    Calls Tryz.prog 47 #[.slice none 0 0, .int .i64 k] w fun e' w' => e' = .returned (.int .i64 k) ∧ w' = w := by
 go_enter Tryz.func47, Tryz.ntmps47;go_wp2;refine wp_loop_rounds 1 ?_;rw [rounds_succ];go_wp2;go_ret
 exact ⟨rfl, rfl⟩
set_option maxHeartbeats 4000000 in
theorem markMsgS_rep (S : Foot) (v : Value) (k : Int) (xs : List MsgD) (w : World) (h0 : 0 ≤ k) (h1 : k ≤ 288230376151711744) (hm : slcnt msgM xs ≤ 288230376151711744) (h : msgsR.own w S [v] xs) :
    Calls Tryz.prog 47 #[v, .int .i64 k] w fun e' w' => e' = .returned (.int .i64 (k + slcnt msgM xs)) ∧ msgsR.own w' S [v] (slmark msgM k xs) ∧ Chg S w w' := by
 have hln := cnt_msgs xs;rcases slown_form h with ⟨rfl, rfl⟩ | ⟨G, cap, rfl, hG⟩
 ·exact (markMsgS_nil k w).mono fun e w' ⟨e1, e2⟩ => ⟨by simpa [slcnt] using e1, by rw [e2]; exact h, by rw [e2]; exact Chg.refl _ _⟩
 go_enter Tryz.func47, Tryz.ntmps47;go_wp2;go_loopw [1, 5] (fun q i wr => ∃ j : Nat, j ≤ xs.length ∧ i = .int .i64 j ∧ q = .int .i64 (k + slcnt msgM (xs.take j)) ∧ msgsR.own wr S [.slice (some ⟨G, 0, none⟩) xs.length cap] (pmark msgM k xs j) ∧ Chg S w wr)
  (fun _ i _ => xs.length - (intOf i).toNat)
 case atStart => exact ⟨0, Nat.zero_le _, rfl, by simp [slcnt], by rw [pmark_zero]; exact h, Chg.refl _ _⟩
 case round =>
  obtain ⟨j, hj, rfl, rfl, ho, hs⟩ := hrel;by_cases hlt : j < xs.length
  ·have hlt' : (j : Int) < (xs.length : Int) := by omega
   obtain ⟨x, hx⟩ : ∃ x, xs[j]? = some x := ⟨_, List.getElem?_eq_getElem hlt⟩;have HT : Hid (slcnt msgM (xs.take (j + 1)) = slcnt msgM (xs.take j) + (1 + (1 + (1 + (1 + (1 + (slcnt intM x.2.2.2.2.2.1 + 1))))))) := slcnt_step (M := msgM) hx;have hT : slcnt msgM (xs.take j) + (1 + (1 + (1 + (1 + (1 + (slcnt intM x.2.2.2.2.2.1 + 1)))))) ≤ slcnt msgM xs := slcnt_get (M := msgM) hx;have HPS : Hid _ := pmark_step (M := msgM) (k := k) hx;obtain ⟨g, cap', cur, Sj, T, c, hv, hSg, hblk, hcur, hcl, hown, s1, s2, s3, s4, s5, close⟩ := slown_focus ho (pmark_at hx);simp only [Value.slice.injEq, Option.some.injEq, Addr.mk.injEq, and_true] at hv;obtain ⟨rfl, hvx⟩ := hv;obtain ⟨vd, rfl, -, -, -, -, -, -, hod⟩ := msg_own hown;obtain ⟨av, cv, rfl⟩ := slown_val hod;have q0 : wr.cell? ⟨G, j * 7, none⟩ = some (.int .i64 x.1) := by rw [cell_of_row wr G _ cur _ (0, 0) hblk]; exact hcur 0 (by decide)
   have q1 : wr.cell? ⟨G, j * 7 + 1, none⟩ = some (.int .i64 x.2.1) := by rw [cell_of_row wr G _ cur _ (0, 0) hblk]; exact hcur 1 (by decide)
   have q2 : wr.cell? ⟨G, j * 7 + 2, none⟩ = some (.int .i64 x.2.2.1) := by rw [cell_of_row wr G _ cur _ (0, 0) hblk]; exact hcur 2 (by decide)
   have q3 : wr.cell? ⟨G, j * 7 + 3, none⟩ = some (.int .i64 x.2.2.2.1) := by rw [cell_of_row wr G _ cur _ (0, 0) hblk]; exact hcur 3 (by decide)
   have q4 : wr.cell? ⟨G, j * 7 + 4, none⟩ = some (.int .i64 x.2.2.2.2.1) := by rw [cell_of_row wr G _ cur _ (0, 0) hblk]; exact hcur 4 (by decide)
   have q5 : wr.cell? ⟨G, j * 7 + 5, none⟩ = some (.slice av x.2.2.2.2.2.1.length cv) := by rw [cell_of_row wr G _ cur _ (0, 0) hblk]; exact hcur 5 (by decide)
   have q6 : wr.cell? ⟨G, j * 7 + 6, none⟩ = some (.int .i64 x.2.2.2.2.2.2) := by rw [cell_of_row wr G _ cur _ (0, 0) hblk]; exact hcur 6 (by decide)
   have r0 : wr.frozen? ⟨G, j * 7, none⟩ = false := frozen_of_row wr G _ _ _ hblk;have r1 : wr.frozen? ⟨G, j * 7 + 1, none⟩ = false := frozen_of_row wr G _ _ _ hblk;have r2 : wr.frozen? ⟨G, j * 7 + 2, none⟩ = false := frozen_of_row wr G _ _ _ hblk;have r3 : wr.frozen? ⟨G, j * 7 + 3, none⟩ = false := frozen_of_row wr G _ _ _ hblk;have r4 : wr.frozen? ⟨G, j * 7 + 4, none⟩ = false := frozen_of_row wr G _ _ _ hblk;have r6 : wr.frozen? ⟨G, j * 7 + 6, none⟩ = false := frozen_of_row wr G _ _ _ hblk;have hcs : j * 7 + 6 < cur.size := by
    have := hcur 6 (by decide);exact (Array.getElem?_eq_some_iff.1 (this.trans rfl)).1
   clear hvx hcl;generalize hkk : k + (slcnt msgM (xs.take j) : Int) = kk at HPS ⊢;have hk0 : 0 ≤ kk ∧ kk ≤ 576460752303423488 := by omega
   have hlg : G < wr.heap.size := (ltH hblk);have y0 := hblk;have y1 := heap_setCell_same _ G (j * 7) _ _ (.int .i64 (kk)) y0;have y2 := heap_setCell_same _ G (j * 7 + 1) _ _ (.int .i64 (kk + 1)) y1;have y3 := heap_setCell_same _ G (j * 7 + 2) _ _ (.int .i64 (kk + 1 + 1)) y2;have y4 := heap_setCell_same _ G (j * 7 + 3) _ _ (.int .i64 (kk + 1 + 1 + 1)) y3;have y5 := heap_setCell_same _ G (j * 7 + 4) _ _ (.int .i64 (kk + 1 + 1 + 1 + 1)) y4
   have HX6 : Hid (∀ w' : World, w'.heap[G]? = some (.cells (((((cur.setIfInBounds (j * 7) (.int .i64 (kk))).setIfInBounds (j * 7 + 1) (.int .i64 (kk + 1))).setIfInBounds (j * 7 + 2) (.int .i64 (kk + 1 + 1))).setIfInBounds (j * 7 + 3) (.int .i64 (kk + 1 + 1 + 1))).setIfInBounds (j * 7 + 4) (.int .i64 (kk + 1 + 1 + 1 + 1))) 119 (0, 0)) → ∃ t, w'.cell? ⟨G, j * 7 + 6, none⟩ = some t) := fun w' hb => ⟨.int .i64 x.2.2.2.2.2.2, by
    rw [cell_of_row w' G _ _ _ (0, 0) hb, Array.getElem?_setIfInBounds_ne (by omega), Array.getElem?_setIfInBounds_ne (by omega), Array.getElem?_setIfInBounds_ne (by omega), Array.getElem?_setIfInBounds_ne (by omega), Array.getElem?_setIfInBounds_ne (by omega)]
    exact hcur 6 (by decide)⟩
   have HB : Hid (∀ w', Chg Sj (((((wr.setCell ⟨G, j * 7, none⟩ (.int .i64 (kk))).setCell ⟨G, j * 7 + 1, none⟩ (.int .i64 (kk + 1))).setCell ⟨G, j * 7 + 2, none⟩ (.int .i64 (kk + 1 + 1))).setCell ⟨G, j * 7 + 3, none⟩ (.int .i64 (kk + 1 + 1 + 1))).setCell ⟨G, j * 7 + 4, none⟩ (.int .i64 (kk + 1 + 1 + 1 + 1))) w' → w'.heap[G]? = some (.cells (((((cur.setIfInBounds (j * 7) (.int .i64 (kk))).setIfInBounds (j * 7 + 1) (.int .i64 (kk + 1))).setIfInBounds (j * 7 + 2) (.int .i64 (kk + 1 + 1))).setIfInBounds (j * 7 + 3) (.int .i64 (kk + 1 + 1 + 1))).setIfInBounds (j * 7 + 4) (.int .i64 (kk + 1 + 1 + 1 + 1))) 119 (0, 0))) := fun w' hc => (hc.block G (by simpa using hlg) s4).trans y5;have HC : Hid (∀ w', Chg Sj (((((wr.setCell ⟨G, j * 7, none⟩ (.int .i64 (kk))).setCell ⟨G, j * 7 + 1, none⟩ (.int .i64 (kk + 1))).setCell ⟨G, j * 7 + 2, none⟩ (.int .i64 (kk + 1 + 1))).setCell ⟨G, j * 7 + 3, none⟩ (.int .i64 (kk + 1 + 1 + 1))).setCell ⟨G, j * 7 + 4, none⟩ (.int .i64 (kk + 1 + 1 + 1 + 1))) w' → intsR.own w' Sj [.slice av x.2.2.2.2.2.1.length cv] (slmark intM (kk + 1 + 1 + 1 + 1 + 1) x.2.2.2.2.2.1) → msgsR.own (w'.setCell ⟨G, j * 7 + 6, none⟩ (.int .i64 (kk + 1 + 1 + 1 + 1 + 1 + (slcnt intM x.2.2.2.2.2.1 : Int)))) S [.slice (some ⟨G, 0, none⟩) xs.length cap] (pmark msgM k xs (j + 1)) ∧ Chg S wr (w'.setCell ⟨G, j * 7 + 6, none⟩ (.int .i64 (kk + 1 + 1 + 1 + 1 + 1 + (slcnt intM x.2.2.2.2.2.1 : Int))))) := by
    intro w' hc ho';have z0 := HB.out w' hc;have z1 := heap_setCell_same _ G (j * 7 + 6) _ _ (.int .i64 (kk + 1 + 1 + 1 + 1 + 1 + (slcnt intM x.2.2.2.2.2.1 : Int))) z0
    have c1 : Chg S wr (((((wr.setCell ⟨G, j * 7, none⟩ (.int .i64 (kk))).setCell ⟨G, j * 7 + 1, none⟩ (.int .i64 (kk + 1))).setCell ⟨G, j * 7 + 2, none⟩ (.int .i64 (kk + 1 + 1))).setCell ⟨G, j * 7 + 3, none⟩ (.int .i64 (kk + 1 + 1 + 1))).setCell ⟨G, j * 7 + 4, none⟩ (.int .i64 (kk + 1 + 1 + 1 + 1))) := ⟨rfl, rfl, rfl, by simp, fun i hi hn => by
     have hne : i ≠ G := fun e => hn (by rw [e]; exact hSg)
     rw [heap_setCell_other _ ⟨G, j * 7 + 4, none⟩ i _ hne, heap_setCell_other _ ⟨G, j * 7 + 3, none⟩ i _ hne, heap_setCell_other _ ⟨G, j * 7 + 2, none⟩ i _ hne, heap_setCell_other _ ⟨G, j * 7 + 1, none⟩ i _ hne, heap_setCell_other _ ⟨G, j * 7, none⟩ i _ hne]⟩
    have c2 := c1.trans (hc.mono s1)
    have c3 : Chg S w' (w'.setCell ⟨G, j * 7 + 6, none⟩ (.int .i64 (kk + 1 + 1 + 1 + 1 + 1 + (slcnt intM x.2.2.2.2.2.1 : Int)))) := ⟨rfl, rfl, rfl, by simp, fun i hi hn => by
     have hne : i ≠ G := fun e => hn (by rw [e]; exact hSg)
     rw [heap_setCell_other _ ⟨G, j * 7 + 6, none⟩ i _ hne]⟩
    refine ⟨?_, c2.trans c3⟩;rw [← HPS.out];have ho2 : intsR.own (w'.setCell ⟨G, j * 7 + 6, none⟩ (.int .i64 (kk + 1 + 1 + 1 + 1 + 1 + (slcnt intM x.2.2.2.2.2.1 : Int)))) Sj [.slice av x.2.2.2.2.2.1.length cv] (slmark intM (kk + 1 + 1 + 1 + 1 + 1) x.2.2.2.2.2.1) := own_setC (ho') s4;refine close (w'.setCell ⟨G, j * 7 + 6, none⟩ (.int .i64 (kk + 1 + 1 + 1 + 1 + 1 + (slcnt intM x.2.2.2.2.2.1 : Int)))) _ [.int .i64 (kk), .int .i64 (kk + 1), .int .i64 (kk + 1 + 1), .int .i64 (kk + 1 + 1 + 1), .int .i64 (kk + 1 + 1 + 1 + 1), .slice av x.2.2.2.2.2.1.length cv, .int .i64 (kk + 1 + 1 + 1 + 1 + 1 + (slcnt intM x.2.2.2.2.2.1 : Int))] _ Sj S z1 (by simp) ?_ ?_ ?_ (own_msg (in64_msg (by omega) (by omega)) (in64_msg (by omega) (by omega)) (in64_msg (by omega) (by omega)) (in64_msg (by omega) (by omega)) (in64_msg (by omega) (by omega)) (in64_msg (by omega) (by omega)) ho2) s3 s4 hSg s1 s2
    ·intro i hi;rw [show msgR.size = 7 from rfl] at hi;rw [Array.getElem?_setIfInBounds_ne (by omega), Array.getElem?_setIfInBounds_ne (by omega), Array.getElem?_setIfInBounds_ne (by omega), Array.getElem?_setIfInBounds_ne (by omega), Array.getElem?_setIfInBounds_ne (by omega), Array.getElem?_setIfInBounds_ne (by omega)]
    ·intro i hi;rw [show msgR.size = 7 from rfl] at hi;rw [show j * msgR.size = j * 7 from rfl];have h3 : i = 0 ∨ i = 1 ∨ i = 2 ∨ i = 3 ∨ i = 4 ∨ i = 5 ∨ i = 6 := by omega
     rcases h3 with rfl | rfl | rfl | rfl | rfl | rfl | rfl
     ·rw [Array.getElem?_setIfInBounds_ne (by omega), Array.getElem?_setIfInBounds_ne (by omega), Array.getElem?_setIfInBounds_ne (by omega), Array.getElem?_setIfInBounds_ne (by omega), Array.getElem?_setIfInBounds_ne (by omega)];rw [Nat.add_zero];rw [Array.getElem?_setIfInBounds_self_of_lt (by first | omega | (simp; omega))];rfl
     ·rw [Array.getElem?_setIfInBounds_ne (by omega), Array.getElem?_setIfInBounds_ne (by omega), Array.getElem?_setIfInBounds_ne (by omega), Array.getElem?_setIfInBounds_ne (by omega)];skip
      rw [Array.getElem?_setIfInBounds_self_of_lt (by first | omega | (simp; omega))];rfl
     ·rw [Array.getElem?_setIfInBounds_ne (by omega), Array.getElem?_setIfInBounds_ne (by omega), Array.getElem?_setIfInBounds_ne (by omega)];skip
      rw [Array.getElem?_setIfInBounds_self_of_lt (by first | omega | (simp; omega))];rfl
     ·rw [Array.getElem?_setIfInBounds_ne (by omega), Array.getElem?_setIfInBounds_ne (by omega)];skip
      rw [Array.getElem?_setIfInBounds_self_of_lt (by first | omega | (simp; omega))];rfl
     ·rw [Array.getElem?_setIfInBounds_ne (by omega)];skip
      rw [Array.getElem?_setIfInBounds_self_of_lt (by first | omega | (simp; omega))];rfl
     ·rw [Array.getElem?_setIfInBounds_ne (by omega), Array.getElem?_setIfInBounds_ne (by omega), Array.getElem?_setIfInBounds_ne (by omega), Array.getElem?_setIfInBounds_ne (by omega), Array.getElem?_setIfInBounds_ne (by omega), Array.getElem?_setIfInBounds_ne (by omega)];exact hcur 5 (by decide)
     ·skip
      skip
      rw [Array.getElem?_setIfInBounds_self_of_lt (by first | omega | (simp; omega))];rfl
    ·intro i hi hil;have hne : i ≠ G := fun e => s5 (by rw [← e]; exact hi);rw [heap_setCell_other _ ⟨G, j * 7 + 6, none⟩ i _ hne, hc.block i (by simpa using hil) (fun hx => s3 i hx hi), heap_setCell_other _ ⟨G, j * 7 + 4, none⟩ i _ hne, heap_setCell_other _ ⟨G, j * 7 + 3, none⟩ i _ hne, heap_setCell_other _ ⟨G, j * 7 + 2, none⟩ i _ hne, heap_setCell_other _ ⟨G, j * 7 + 1, none⟩ i _ hne, heap_setCell_other _ ⟨G, j * 7, none⟩ i _ hne]
   have HO : Hid (intsR.own (((((wr.setCell ⟨G, j * 7, none⟩ (.int .i64 (kk))).setCell ⟨G, j * 7 + 1, none⟩ (.int .i64 (kk + 1))).setCell ⟨G, j * 7 + 2, none⟩ (.int .i64 (kk + 1 + 1))).setCell ⟨G, j * 7 + 3, none⟩ (.int .i64 (kk + 1 + 1 + 1))).setCell ⟨G, j * 7 + 4, none⟩ (.int .i64 (kk + 1 + 1 + 1 + 1))) Sj [.slice av x.2.2.2.2.2.1.length cv] x.2.2.2.2.2.1) := own_setC (own_setC (own_setC (own_setC (own_setC (hod) s4) s4) s4) s4) s4;clear hx ho hown close hcur hblk s1 s2 s3 s4 s5 HPS h hod hcs hlg y0 y1 y2 y3 y4 y5;generalize slcnt msgM (xs.take j) = TT at HT hT hkk;go_wp2_with fail
   refine (markInt64S_rep Sj _ _ x.2.2.2.2.2.1 _ (by omega) (by omega) (by omega) HO.out).mono ?_;rintro e w' ⟨rfl, own2, gr⟩;have b9 := HB.out w' gr;obtain ⟨ho2, gr2⟩ := HC.out w' gr own2;have hs2 := hs.trans gr2;have HF : Hid _ := And.intro ho2 hs2;clear own2 gr gr2 HC HO ho2 hs2 HB q0 q1 q2 q3 q4 q5 q6 r0 r1 r2 r3 r4 r6;obtain ⟨t6, ht6⟩ : ∃ t, w'.cell? ⟨G, j * 7 + 6, none⟩ = some t := HX6.out w' b9;have r6 : w'.frozen? ⟨G, j * 7 + 6, none⟩ = false := frozen_of_row w' G _ _ _ b9;clear b9;go_wp2;go_roundw
   case rel => exact ⟨j + 1, by omega, by go_num, by rw [HT.out]; congr 1; omega, HF.out.1, HF.out.2⟩
   case measure => simp [intOf]; omega
  ·have hjn : j = xs.length := by omega
   subst hjn;rw [List.take_length];rw [pmark_all] at ho;go_wp2;go_ret
   exact ⟨rfl, ho, hs⟩
theorem eqMsgs_u : EqC 42 msgsR msgsM cell1 := by
 rintro cs ds x w ⟨a, c, rfl, l1, l2, i⟩ ⟨b, d, rfl, k1, k2, g⟩ f;exact eqMsgS_rep a b x c d w i g (Nat.le_trans f (by decide))
theorem mkMsgs_u : MkC 47 msgsR msgsM cell1 := by
 intro S cs x k w h a hm hb;obtain ⟨v, rfl⟩ := own_cell h;have e : lot = 4398046511104 := rfl;have e2 : msgsM.cV x = slcnt msgM x := rfl;exact markMsgS_rep S v k x w a (by omega) (by omega) h
theorem szMsgs_u : SzC 25 msgsR msgsM cell1 := by
 rintro cs x b w ⟨a, c, rfl, g, f, j⟩ i d;exact szMsgS_rep a x c b w j i d (Nat.le_trans g f)
theorem toMsgs_u : ToC 33 msgsR msgsM cell1 := by
 rintro cs x w ⟨a, b, rfl, l1, l2, f⟩ c;refine (toMsgS_rep a x b w f c).mono ?_;rintro e w' ⟨v, rfl, d⟩;exact ⟨[v], rfl, d⟩
end Go.Proofs.YtcocbafhcpdheaaGreatDoor
