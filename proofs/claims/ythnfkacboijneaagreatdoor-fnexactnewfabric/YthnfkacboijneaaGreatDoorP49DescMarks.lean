import Derived.Test.YthnfkacboijneaaGreatDoorP05Boxes
import Derived.Test.YthnfkacboijneaaGreatDoorP11Descs
import Derived.Test.YthnfkacboijneaaGreatDoorP26CoresL
import Derived.Test.YthnfkacboijneaaGreatDoorP17UEnt
namespace Go.Proofs.YthnfkacboijneaaGreatDoor
set_option maxHeartbeats 4000000
set_option maxRecDepth 20000
open Go.ChangeShapes Go.WideShapes Go.ChangeAt Go.RowKit
set_option linter.unusedVariables false
theorem chg_celldesc {S : Foot} {w W : World} {g o : Nat} {v : Value} (h : Chg S w W) (hg : S g) : Chg S w (W.setCell ⟨g, o, none⟩ v) :=
 ⟨h.os, h.tape, h.output, by have := h.size; simpa using this, fun k hk hn => by rw [heap_setCell_other _ ⟨g, o, none⟩ k _ (fun e => hn (by rw [e]; exact hg))]; exact h.block k hk hn⟩
theorem in64_desc {k : Int} (h0 : 0 ≤ k) (h1 : k ≤ 1152921504606846976) : In64 k := by constructor <;> omega
theorem cnt_desc (x : DescD) : descM.cE x = (1 + (1 + (1 + slcnt intM x.2.2.2))) := rfl
theorem cnt_descs (xs : List DescD) : xs.length ≤ slcnt descM xs := by
 induction xs with
 | nil => exact Nat.zero_le _
 | cons x xs ih =>
  simp only [slcnt, List.map_cons, List.sum_cons, List.length_cons] at ih ⊢
  have := cnt_desc x
  omega
theorem markDescS_nil (k : Int) (w : World) :
    Calls Tryz.prog 20 #[.slice none 0 0, .int .i64 k] w fun e' w' => e' = .returned (.int .i64 k) ∧ w' = w := by
 go_enter Tryz.func20, Tryz.ntmps20
 go_wp2
 refine wp_loop_rounds 1 ?_
 rw [rounds_succ]
 go_wp2
 go_ret
 exact ⟨rfl, rfl⟩
theorem markDescS_rep (S : Foot) (v : Value) (k : Int) (xs : List DescD) (w : World) (h0 : 0 ≤ k) (h1 : k ≤ 288230376151711744) (hm : slcnt descM xs ≤ 288230376151711744) (h : descsR.own w S [v] xs) :
    Calls Tryz.prog 20 #[v, .int .i64 k] w fun e' w' => e' = .returned (.int .i64 (k + slcnt descM xs)) ∧ descsR.own w' S [v] (slmark descM k xs) ∧ Chg S w w' := by
 have hln := cnt_descs xs
 rcases slown_form h with ⟨rfl, rfl⟩ | ⟨G, cap, rfl, hG⟩
 ·exact (markDescS_nil k w).mono fun e w' ⟨e1, e2⟩ => ⟨by simpa [slcnt] using e1, by rw [e2]; exact h, by rw [e2]; exact Chg.refl _ _⟩
 go_enter Tryz.func20, Tryz.ntmps20
 go_wp2
 go_loopw [1, 5] (fun q i wr => ∃ j : Nat, j ≤ xs.length ∧ i = .int .i64 j ∧ q = .int .i64 (k + slcnt descM (xs.take j)) ∧ descsR.own wr S [.slice (some ⟨G, 0, none⟩) xs.length cap] (pmark descM k xs j) ∧ Chg S w wr)
  (fun _ i _ => xs.length - (intOf i).toNat)
 case atStart => exact ⟨0, Nat.zero_le _, rfl, by simp [slcnt], by rw [pmark_zero]; exact h, Chg.refl _ _⟩
 case round =>
  obtain ⟨j, hj, rfl, rfl, ho, hs⟩ := hrel
  by_cases hlt : j < xs.length
  ·have hlt' : (j : Int) < (xs.length : Int) := by omega
   obtain ⟨x, hx⟩ : ∃ x, xs[j]? = some x := ⟨_, List.getElem?_eq_getElem hlt⟩
   have HT : Hid (slcnt descM (xs.take (j + 1)) = slcnt descM (xs.take j) + (1 + (1 + (1 + slcnt intM x.2.2.2)))) := slcnt_step (M := descM) hx
   have hT : slcnt descM (xs.take j) + (1 + (1 + (1 + slcnt intM x.2.2.2))) ≤ slcnt descM xs := slcnt_get (M := descM) hx
   have HPS : Hid _ := pmark_step (M := descM) (k := k) hx
   obtain ⟨g, cap', cur, Sj, T, c, hv, hSg, hblk, hcur, hcl, hown, s1, s2, s3, s4, s5, close⟩ := slown_focus ho (pmark_at hx)
   simp only [Value.slice.injEq, Option.some.injEq, Addr.mk.injEq, and_true] at hv
   obtain ⟨rfl, hvx⟩ := hv
   obtain ⟨vd, rfl, -, -, hod⟩ := desc_own hown
   obtain ⟨av, cv, rfl⟩ := slown_val hod
   have q0 : wr.cell? ⟨G, j * 4, none⟩ = some (.bool x.1) := by rw [cell_of_row wr G _ cur _ (0, 0) hblk]; exact hcur 0 (by decide)
   have q1 : wr.cell? ⟨G, j * 4 + 1, none⟩ = some (.int .i64 x.2.1) := by rw [cell_of_row wr G _ cur _ (0, 0) hblk]; exact hcur 1 (by decide)
   have q2 : wr.cell? ⟨G, j * 4 + 2, none⟩ = some (.int .i64 x.2.2.1) := by rw [cell_of_row wr G _ cur _ (0, 0) hblk]; exact hcur 2 (by decide)
   have q3 : wr.cell? ⟨G, j * 4 + 3, none⟩ = some (.slice av x.2.2.2.length cv) := by rw [cell_of_row wr G _ cur _ (0, 0) hblk]; exact hcur 3 (by decide)
   have r0 : wr.frozen? ⟨G, j * 4, none⟩ = false := frozen_of_row wr G _ _ _ hblk
   have r1 : wr.frozen? ⟨G, j * 4 + 1, none⟩ = false := frozen_of_row wr G _ _ _ hblk
   have r2 : wr.frozen? ⟨G, j * 4 + 2, none⟩ = false := frozen_of_row wr G _ _ _ hblk
   have hcs : j * 4 + 3 < cur.size := by
    have := hcur 3 (by decide)
    exact (Array.getElem?_eq_some_iff.1 (this.trans rfl)).1
   clear hvx hcl
   generalize hkk : k + (slcnt descM (xs.take j) : Int) = kk at HPS ⊢
   have hk0 : 0 ≤ kk ∧ kk ≤ 576460752303423488 := by omega
   have hlg : G < wr.heap.size := (Array.getElem?_eq_some_iff.1 hblk).1
   have y0 := hblk
   have y1 := heap_setCell_same _ G (j * 4) _ _ (.bool ((kk) % 3 == 0)) y0
   have y2 := heap_setCell_same _ G (j * 4 + 1) _ _ (.int .i64 (kk + 1)) y1
   have y3 := heap_setCell_same _ G (j * 4 + 2) _ _ (.int .i64 (kk + 1 + 1)) y2
   have HB : Hid (∀ w', Chg Sj (((wr.setCell ⟨G, j * 4, none⟩ (.bool ((kk) % 3 == 0))).setCell ⟨G, j * 4 + 1, none⟩ (.int .i64 (kk + 1))).setCell ⟨G, j * 4 + 2, none⟩ (.int .i64 (kk + 1 + 1))) w' → w'.heap[G]? = some (.cells (((cur.setIfInBounds (j * 4) (.bool ((kk) % 3 == 0))).setIfInBounds (j * 4 + 1) (.int .i64 (kk + 1))).setIfInBounds (j * 4 + 2) (.int .i64 (kk + 1 + 1))) 125 (0, 0))) := fun w' hc => (hc.block G (by simpa using hlg) s4).trans y3
   have HC : Hid (∀ w', Chg Sj (((wr.setCell ⟨G, j * 4, none⟩ (.bool ((kk) % 3 == 0))).setCell ⟨G, j * 4 + 1, none⟩ (.int .i64 (kk + 1))).setCell ⟨G, j * 4 + 2, none⟩ (.int .i64 (kk + 1 + 1))) w' → intsR.own w' Sj [.slice av x.2.2.2.length cv] (slmark intM (kk + 1 + 1 + 1) x.2.2.2) → descsR.own w' S [.slice (some ⟨G, 0, none⟩) xs.length cap] (pmark descM k xs (j + 1)) ∧ Chg S wr w') := by
    intro w' hc ho'
    have z0 := HB.out w' hc
    have c1 : Chg S wr (((wr.setCell ⟨G, j * 4, none⟩ (.bool ((kk) % 3 == 0))).setCell ⟨G, j * 4 + 1, none⟩ (.int .i64 (kk + 1))).setCell ⟨G, j * 4 + 2, none⟩ (.int .i64 (kk + 1 + 1))) := chg_celldesc (chg_celldesc (chg_celldesc (Chg.refl S wr) hSg) hSg) hSg
    have c2 := c1.trans (hc.mono s1)
    have c3 : Chg S w' w' := Chg.refl S w'
    refine ⟨?_, c2.trans c3⟩
    rw [← HPS.out]
    have ho2 : intsR.own w' Sj [.slice av x.2.2.2.length cv] (slmark intM (kk + 1 + 1 + 1) x.2.2.2) := ho'
    refine close w' _ [.bool ((kk) % 3 == 0), .int .i64 (kk + 1), .int .i64 (kk + 1 + 1), .slice av x.2.2.2.length cv] _ Sj S z0 (by simp) ?_ ?_ ?_ (own_desc (in64_desc (by omega) (by omega)) (in64_desc (by omega) (by omega)) ho2) s3 s4 hSg s1 s2
    ·intro i hi
     rw [show descR.size = 4 from rfl] at hi
     rw [Array.getElem?_setIfInBounds_ne (by omega), Array.getElem?_setIfInBounds_ne (by omega), Array.getElem?_setIfInBounds_ne (by omega)]
    ·intro i hi
     rw [show descR.size = 4 from rfl] at hi
     rw [show j * descR.size = j * 4 from rfl]
     have h3 : i = 0 ∨ i = 1 ∨ i = 2 ∨ i = 3 := by omega
     rcases h3 with rfl | rfl | rfl | rfl
     ·rw [Array.getElem?_setIfInBounds_ne (by omega), Array.getElem?_setIfInBounds_ne (by omega)]
      rw [Nat.add_zero]
      rw [Array.getElem?_setIfInBounds_self_of_lt (by first | omega | (simp; omega))]
      rfl
     ·rw [Array.getElem?_setIfInBounds_ne (by omega)]
      skip
      rw [Array.getElem?_setIfInBounds_self_of_lt (by first | omega | (simp; omega))]
      rfl
     ·skip
      skip
      rw [Array.getElem?_setIfInBounds_self_of_lt (by first | omega | (simp; omega))]
      rfl
     ·rw [Array.getElem?_setIfInBounds_ne (by omega), Array.getElem?_setIfInBounds_ne (by omega), Array.getElem?_setIfInBounds_ne (by omega)]
      exact hcur 3 (by decide)
    ·intro i hi hil
     have hne : i ≠ G := fun e => s5 (by rw [← e]; exact hi)
     rw [hc.block i (by simpa using hil) (fun hx => s3 i hx hi), heap_setCell_other _ ⟨G, j * 4 + 2, none⟩ i _ hne, heap_setCell_other _ ⟨G, j * 4 + 1, none⟩ i _ hne, heap_setCell_other _ ⟨G, j * 4, none⟩ i _ hne]
   have HO : Hid (intsR.own (((wr.setCell ⟨G, j * 4, none⟩ (.bool ((kk) % 3 == 0))).setCell ⟨G, j * 4 + 1, none⟩ (.int .i64 (kk + 1))).setCell ⟨G, j * 4 + 2, none⟩ (.int .i64 (kk + 1 + 1))) Sj [.slice av x.2.2.2.length cv] x.2.2.2) := own_setC (own_setC (own_setC (hod) s4) s4) s4
   clear hx ho hown close hcur hblk s1 s2 s3 s4 s5 HPS h hod hcs hlg y0 y1 y2 y3
   generalize slcnt descM (xs.take j) = TT at HT hT hkk
   go_wp2_with fail
   refine (markInt64S_rep Sj _ _ x.2.2.2 _ (by omega) (by omega) (by omega) HO.out).mono ?_
   rintro e w' ⟨rfl, own2, gr⟩
   have b9 := HB.out w' gr
   obtain ⟨ho2, gr2⟩ := HC.out w' gr own2
   have hs2 := hs.trans gr2
   have HF : Hid _ := And.intro ho2 hs2
   clear own2 gr gr2 HC HO ho2 hs2 HB q0 q1 q2 q3 r0 r1 r2
   clear b9
   go_wp2
   go_roundw
   case rel => exact ⟨j + 1, by omega, by go_num, by rw [HT.out]; congr 1; omega, HF.out.1, HF.out.2⟩
   case measure => simp [intOf]; omega
  ·have hjn : j = xs.length := by omega
   subst hjn
   rw [List.take_length]
   rw [pmark_all] at ho
   go_wp2
   go_ret
   exact ⟨rfl, ho, hs⟩
theorem heldDescS_rep (a : Option Addr) (cap : Nat) (k : Int) (xs : List DescD) (w : World) (h0 : 0 ≤ k) (h1 : k ≤ 288230376151711744) (hm : slcnt descM xs ≤ 288230376151711744) (h : SlRd descR w a (slmark descM k xs)) :
    Calls Tryz.prog 148 #[.slice a xs.length cap, .int .i64 k] w fun e' w' => e' = .returned (.int .i64 (k + slcnt descM xs)) ∧ w' = w := by
 have hln := cnt_descs xs
 go_enter Tryz.func148, Tryz.ntmps148
 go_wp2
 go_loop [1, 5] (fun q i => ∃ j : Nat, j ≤ xs.length ∧ i = .int .i64 j ∧ q = .int .i64 (k + slcnt descM (xs.take j))) (fun _ i => xs.length - (intOf i).toNat)
 case atStart => exact ⟨0, Nat.zero_le _, rfl, by simp [slcnt]⟩
 case round =>
  obtain ⟨j, hj, rfl, rfl⟩ := hrel
  by_cases hlt : j < xs.length
  ·have hlt' : (j : Int) < (xs.length : Int) := by omega
   obtain ⟨x, hx⟩ : ∃ x, xs[j]? = some x := ⟨_, List.getElem?_eq_getElem hlt⟩
   obtain ⟨b, off, cs, rfl, hrd, hcell⟩ := slrd_at h (slmark_at (M := descM) (k := k) hx)
   obtain ⟨ad, cpw, rfl, -, -, -, -, hd3⟩ := desc_rd hrd
   have x0 := hcell 0 _ rfl
   rw [show off + (j * descR.size + 0) = off + j * 4 from rfl] at x0
   have x1 := hcell 1 _ rfl
   rw [show off + (j * descR.size + 1) = off + j * 4 + 1 from rfl] at x1
   have x2 := hcell 2 _ rfl
   rw [show off + (j * descR.size + 2) = off + j * 4 + 2 from rfl] at x2
   have x3 := hcell 3 _ rfl
   rw [show off + (j * descR.size + 3) = off + j * 4 + 3 from rfl] at x3
   have hml : (descM.mE (k + slcnt descM (xs.take j)) x).2.2.2.length = x.2.2.2.length := slmark_len _ _ _
   rw [hml] at x3
   have HR : Hid (SlRd intR w ad (slmark intM (k + slcnt descM (xs.take j) + 1 + 1 + 1) x.2.2.2)) := hd3
   have y0 : w.cell? ⟨b, off + j * 4, none⟩ = some (.bool ((k + slcnt descM (xs.take j)) % 3 == 0)) := x0
   have y1 : w.cell? ⟨b, off + j * 4 + 1, none⟩ = some (.int .i64 (k + slcnt descM (xs.take j) + 1)) := x1
   have y2 : w.cell? ⟨b, off + j * 4 + 2, none⟩ = some (.int .i64 (k + slcnt descM (xs.take j) + 1 + 1)) := x2
   have HT : Hid (slcnt descM (xs.take (j + 1)) = slcnt descM (xs.take j) + (1 + (1 + (1 + slcnt intM x.2.2.2)))) := slcnt_step (M := descM) hx
   have hT : slcnt descM (xs.take j) + (1 + (1 + (1 + slcnt intM x.2.2.2))) ≤ slcnt descM xs := slcnt_get (M := descM) hx
   clear hx hrd hcell h hml hd3 x0 x1 x2
   generalize hkk : k + (slcnt descM (xs.take j) : Int) = kk at HR y0 y1 y2 ⊢
   generalize slcnt descM (xs.take j) = TT at HT hT hkk
   have hk0 : 0 ≤ kk ∧ kk ≤ 576460752303423488 := by omega
   have hn : ¬ (kk + 1 + 1 + 1 + ((slcnt intM x.2.2.2 : Nat) : Int) < 0) := by omega
   generalize hbb0 : ((kk) % 3 == 0) = bb0 at y0
   cases bb0
   all_goals
    go_wp2_with (go_at_call 146; refine (heldInt64S_rep _ _ _ x.2.2.2 _ (by omega) (by omega) (by omega) HR.out).mono ?_; rintro e w' ⟨rfl, rfl⟩)
    go_round
    case rel => exact ⟨j + 1, by omega, by go_num, by rw [HT.out]; congr 1; omega⟩
    case measure => simp [intOf]; omega
  ·have hjn : j = xs.length := by omega
   subst hjn
   rw [List.take_length]
   go_wp2
   go_ret
   exact ⟨rfl, rfl⟩
theorem mkDescs_u : MkC 20 descsR descsM cell1 := by
 intro S cs x k w h h0 hm hb
 obtain ⟨v, rfl⟩ := own_cell h
 have e := lot_e
 have e2 : descsM.cV x = slcnt descM x := rfl
 exact markDescS_rep S v k x w h0 (by omega) (by omega) h
theorem hdDescs_u : HdC 148 descsR descsM cell1 := by
 rintro cs x k w ⟨a, cap, rfl, l1, l2, l3⟩ h0 hm hb
 have e := lot_e
 have e2 : descsM.cV x = slcnt descM x := rfl
 have := heldDescS_rep a cap k x w h0 (by omega) (by omega) l3
 rw [show x.length = (descsM.mV k x).length from (slmark_len _ _ _).symm] at this
 exact this.mono fun e w' ⟨q, r⟩ => ⟨q, be_eq r⟩
theorem hdDma_u : HdC 76 dmaR dmaM aggV := by
 intro cs x k w h h0 hm hb
 rw [dma_mV] at h
 obtain ⟨v0, v3, rfl, r0, -, -, r3⟩ := dma_rd h
 clear h
 simp only at r0 r3
 rw [dma_cV] at hm ⊢
 rw [show dmaM.bk x = descsM.bk x.1 + (0 + (0 + rowsM.bk x.2.2.2)) from rfl] at hb
 have el : lot = 4398046511104 := rfl
 change Calls Tryz.prog 76 #[.agg #[v0, .int .i64 x.2.1, .bool x.2.2.1, v3], .int .i64 k] w _
 have C0 : Hid (∀ L W, L = k → Below w.heap.size w W → 0 ≤ L → L + (descsM.cV x.1 : Int) ≤ (lot : Int) → Calls Tryz.prog 148 #[v0, .int .i64 L] W fun e w' => e = .returned (.int .i64 (L + (descsM.cV x.1 : Int))) ∧ Below W.heap.size W w') := fun L W hL hq a b => by subst hL; exact hdDescs_u [v0] _ _ W (rd_next r0 hq) a b (by omega)
 have C3 : Hid (∀ L W, L = (((k + ((descsM.cV x.1 : Nat) : Int)) + ((intM.cV x.2.1 : Nat) : Int)) + ((boolM.cV x.2.2.1 : Nat) : Int)) → Below w.heap.size w W → 0 ≤ L → L + (rowsM.cV x.2.2.2 : Int) ≤ (lot : Int) → Calls Tryz.prog 143 #[v3, .int .i64 L] W fun e w' => e = .returned (.int .i64 (L + (rowsM.cV x.2.2.2 : Int))) ∧ Below W.heap.size W w') := fun L W hL hq a b => by subst hL; exact hdRows_u [v3] _ _ W (rd_next r3 hq) a b (by omega)
 clear r0 r3
 have z1 : ((intM.cV x.2.1 : Nat) : Int) = 0 := rfl
 have z2 : ((boolM.cV x.2.2.1 : Nat) : Int) = 0 := rfl
 generalize descsM.cV x.1 = n0 at C0 C3 hm ⊢
 generalize rowsM.cV x.2.2.2 = n3 at C3 hm ⊢
 have X := heap_at w (.cells #[v0, .int .i64 x.2.1, .bool x.2.2.1, v3] 45)
 have B := box_below w (.cells #[v0, .int .i64 x.2.1, .bool x.2.2.1, v3] 45)
 go_enter Tryz.func76, Tryz.ntmps76
 go_wp2_with fail
 generalize w.alloc (.cells #[v0, .int .i64 x.2.1, .bool x.2.2.1, v3] 45) = W0 at X B ⊢
 refine (C0.out (k) _ (by omega) B (by omega) (by omega)).mono ?_
 rintro e w1 ⟨rfl, bq⟩
 replace X := row_keep bq X
 replace B := below_step B bq
 clear bq C0
 have g0 : ¬ (k + (n0 : Int) < 0) := by omega
 obtain ⟨y0, y1, y2, y3⟩ := cells_dma X
 go_wp2_with fail
 clear y0 y1 y2 y3 g0
 refine (C3.out (k + (n0 : Int)) _ (by omega) B (by omega) (by omega)).mono ?_
 rintro e w2 ⟨rfl, bq⟩
 replace X := row_keep bq X
 replace B := below_step B bq
 clear bq C3
 have g3 : ¬ (k + (n0 : Int) + (n3 : Int) < 0) := by omega
 obtain ⟨y0, y1, y2, y3⟩ := cells_dma X
 clear y0 y1 y2 y3 X
 go_wp2
 go_ret
 exact ⟨ret_int (by omega), B⟩
theorem mkDma_u : MkC 71 dmaR dmaM aggV := by
 intro S cs x k w h h0 hm hb
 obtain ⟨v0, v3, S0, S3, rfl, i1, i2, o0, o3, s0, s3, d03⟩ := dma_own h
 clear h
 rw [dma_cV] at hm ⊢
 rw [show dmaM.bk x = descsM.bk x.1 + (0 + (0 + rowsM.bk x.2.2.2)) from rfl] at hb
 have el : lot = 4398046511104 := rfl
 change Calls Tryz.prog 71 #[.agg #[v0, .int .i64 x.2.1, .bool x.2.2.1, v3], .int .i64 k] w _
 have C0 : Hid (∀ L W, L = k → descsR.own W (Old w S0) [v0] x.1 → 0 ≤ L → L + (descsM.cV x.1 : Int) ≤ (lot : Int) → Calls Tryz.prog 20 #[v0, .int .i64 L] W fun e w' => e = .returned (.int .i64 (L + (descsM.cV x.1 : Int))) ∧ descsR.own w' (Old w S0) [v0] (descsM.mV k x.1) ∧ Chg (Old w S0) W w') := fun L W hL ho a b => by subst hL; exact mkDescs_u (Old w S0) [v0] _ _ W ho a b (by omega)
 have C3 : Hid (∀ L W, L = (((k + ((descsM.cV x.1 : Nat) : Int)) + ((intM.cV x.2.1 : Nat) : Int)) + ((boolM.cV x.2.2.1 : Nat) : Int)) → rowsR.own W (Old w S3) [v3] x.2.2.2 → 0 ≤ L → L + (rowsM.cV x.2.2.2 : Int) ≤ (lot : Int) → Calls Tryz.prog 140 #[v3, .int .i64 L] W fun e w' => e = .returned (.int .i64 (L + (rowsM.cV x.2.2.2 : Int))) ∧ rowsR.own w' (Old w S3) [v3] (rowsM.mV (((k + ((descsM.cV x.1 : Nat) : Int)) + ((intM.cV x.2.1 : Nat) : Int)) + ((boolM.cV x.2.2.1 : Nat) : Int)) x.2.2.2) ∧ Chg (Old w S3) W w') := fun L W hL ho a b => by subst hL; exact mkRows_u (Old w S3) [v3] _ _ W ho a b (by omega)
 have X := heap_at w (.cells #[v0, .int .i64 x.2.1, .bool x.2.2.1, v3] 45)
 have hs : w.heap.size < (w.alloc (.cells #[v0, .int .i64 x.2.1, .bool x.2.2.1, v3] 45)).heap.size := by simp
 have CH : Chg S (w.alloc (.cells #[v0, .int .i64 x.2.1, .bool x.2.2.1, v3] 45)) (w.alloc (.cells #[v0, .int .i64 x.2.1, .bool x.2.2.1, v3] 45)) := Chg.refl _ _
 have FB : ∀ W, Chg S (w.alloc (.cells #[v0, .int .i64 x.2.1, .bool x.2.2.1, v3] 45)) W → Chg S w W := fun W => chg_from_box
 have A0 := own_box (.cells #[v0, .int .i64 x.2.1, .bool x.2.2.1, v3] 45) (own_old o0)
 have hn0 : ¬ Old w S0 w.heap.size := fun h => by have := h.2; omega
 have A3 := own_box (.cells #[v0, .int .i64 x.2.1, .bool x.2.2.1, v3] 45) (own_old o3)
 have hn3 : ¬ Old w S3 w.heap.size := fun h => by have := h.2; omega
 have t03 : Dis (Old w S0) (Old w S3) := d03.sub old_sub old_sub
 have HD : Hid _ := And.intro t03 (And.intro hn0 (And.intro hn3 (And.intro s0 (And.intro s3 (i1)))))
 have HF : Hid _ := FB
 clear FB o0 o3 t03 d03 hn0 hn3 s0 s3 i1
 have HMV : Hid (∀ (P : DmaD → Prop), P (descsM.mV k x.1, intM.mV (k + ((descsM.cV x.1 : Nat) : Int)) x.2.1, boolM.mV ((k + ((descsM.cV x.1 : Nat) : Int)) + ((intM.cV x.2.1 : Nat) : Int)) x.2.2.1, rowsM.mV (((k + ((descsM.cV x.1 : Nat) : Int)) + ((intM.cV x.2.1 : Nat) : Int)) + ((boolM.cV x.2.2.1 : Nat) : Int)) x.2.2.2) → P (dmaM.mV k x)) := fun P hp => by rw [dma_mV]; exact hp
 have z1 : ((intM.cV x.2.1 : Nat) : Int) = 0 := rfl
 have z2 : ((boolM.cV x.2.2.1 : Nat) : Int) = 0 := rfl
 generalize descsM.cV x.1 = n0 at C0 C3 HMV hm ⊢
 generalize rowsM.cV x.2.2.2 = n3 at C3 HMV hm ⊢
 go_enter Tryz.func71, Tryz.ntmps71
 go_wp2_with fail
 generalize w.alloc (.cells #[v0, .int .i64 x.2.1, .bool x.2.2.1, v3] 45) = W0 at X hs CH HF A0 A3 ⊢
 refine (C0.out (k) _ (by omega) A0 (by omega) (by omega)).mono ?_
 rintro e w1 ⟨rfl, p0, cq⟩
 obtain ⟨t03, hn0, hn3, s0, s3, i1⟩ := HD.out
 replace X := (cq.block w.heap.size hs hn0).trans X
 replace hs := Nat.lt_of_lt_of_le hs cq.size
 replace CH := CH.trans (cq.mono (old_sub.trans s0))
 replace A3 := own_chg A3 cq (Dis.symm t03)
 clear cq C0 t03 hn0 hn3 s0 s3 i1
 obtain ⟨y0, y1, y2, y3⟩ := cells_dma X
 have HS : Hid _ := And.intro CH (And.intro A3 (p0))
 clear CH A3 p0
 go_wp2_with fail
 clear y0 y1 y2 y3
 obtain ⟨CH, A3, p0⟩ := HS.out
 clear HS
 refine (C3.out (k + (n0 : Int)) _ (by omega) A3 (by omega) (by omega)).mono ?_
 rintro e w2 ⟨rfl, p3, cq⟩
 obtain ⟨t03, hn0, hn3, s0, s3, i1⟩ := HD.out
 replace X := (cq.block w.heap.size hs hn3).trans X
 replace hs := Nat.lt_of_lt_of_le hs cq.size
 replace CH := CH.trans (cq.mono (old_sub.trans s3))
 replace p0 := own_chg p0 cq t03
 clear cq C3 t03 hn0 hn3 s0 s3 i1
 obtain ⟨y0, y1, y2, y3⟩ := cells_dma X
 clear y0 y1 y2 y3 X
 have HS : Hid _ := And.intro CH (And.intro p0 (p3))
 clear CH p0 p3
 go_wp2
 go_ret
 obtain ⟨CH, p0, p3⟩ := HS.out
 obtain ⟨t03, hn0, hn3, s0, s3, i1⟩ := HD.out
 exact ⟨ret_int (by omega), HMV.out (fun y => dmaR.own _ S _ y) (own_dma (x := (descsM.mV k x.1, intM.mV (k + (n0 : Int)) x.2.1, boolM.mV ((k + (n0 : Int)) + ((intM.cV x.2.1 : Nat) : Int)) x.2.2.1, rowsM.mV (((k + (n0 : Int)) + ((intM.cV x.2.1 : Nat) : Int)) + ((boolM.cV x.2.2.1 : Nat) : Int)) x.2.2.2)) i1 p0 p3 (old_sub.trans s0) (old_sub.trans s3) t03), HF.out _ CH⟩
end Go.Proofs.YthnfkacboijneaaGreatDoor
