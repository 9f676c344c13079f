import Derived.Test.YthnfkacboijneaaGreatDoorP24Draw
import Derived.Test.YthnfkacboijneaaGreatDoorP14OpSS
import Derived.Test.YthnfkacboijneaaGreatDoorP48FabNewS
import Derived.Test.YthnfkacboijneaaGreatDoorP51FabMk
import Derived.Test.YthnfkacboijneaaGreatDoorP33Mems6
import Derived.Test.YthnfkacboijneaaGreatDoorP05Boxes
namespace Go.Proofs.YthnfkacboijneaaGreatDoor
open Go.ChangeShapes Go.WideShapes Go.ChangeAt Go.RowKit
set_option linter.unusedVariables false
set_option maxHeartbeats 400000 in
theorem markOpSS_nil (k : Int) (w : World) :
    Calls Tryz.prog 19 #[.slice none 0 0, .int .i64 k] w fun e' w' => e' = .returned (.int .i64 k) ∧ w' = w := by
 go_enter Tryz.func19, Tryz.ntmps19
 go_wp2
 refine wp_loop_rounds 1 ?_
 rw [rounds_succ]
 go_wp2
 go_ret
 exact ⟨rfl, rfl⟩
set_option maxHeartbeats 1000000 in
theorem markOpSS_rep (S : Foot) (v : Value) (k : Int) (xs : List (List OpD)) (w : World) (h0 : 0 ≤ k) (h1 : k ≤ 144115188075855872) (hm : slcnt opsM xs ≤ 144115188075855872) (hln : xs.length ≤ 144115188075855872) (h : (slR 82 opsR).own w S [v] xs) :
    Calls Tryz.prog 19 #[v, .int .i64 k] w fun e' w' => e' = .returned (.int .i64 (k + slcnt opsM xs)) ∧ (slR 82 opsR).own w' S [v] (slmark opsM k xs) ∧ Chg S w w' := by
 rcases slown_form h with ⟨rfl, rfl⟩ | ⟨G, cap, rfl, hG⟩
 ·exact (markOpSS_nil k w).mono fun e w' ⟨e1, e2⟩ => ⟨by simpa [slcnt] using e1, by rw [e2]; exact h, by rw [e2]; exact Chg.refl _ _⟩
 go_enter Tryz.func19, Tryz.ntmps19
 go_wp2
 go_loopw [1, 5] (fun q i wr => ∃ j : Nat, j ≤ xs.length ∧ i = .int .i64 j ∧ q = .int .i64 (k + slcnt opsM (xs.take j)) ∧ (slR 82 opsR).own wr S [.slice (some ⟨G, 0, none⟩) xs.length cap] (pmark opsM k xs j) ∧ Chg S w wr)
  (fun _ i _ => xs.length - (intOf i).toNat)
 case atStart => exact ⟨0, Nat.zero_le _, rfl, by simp [slcnt], by rw [pmark_zero]; exact h, Chg.refl _ _⟩
 case round =>
  obtain ⟨j, hj, rfl, rfl, ho, hs⟩ := hrel
  by_cases hlt : j < xs.length
  ·have hlt' : (j : Int) < (xs.length : Int) := by omega
   obtain ⟨x, hx⟩ : ∃ x, xs[j]? = some x := ⟨_, List.getElem?_eq_getElem hlt⟩
   have HT : Hid (slcnt opsM (xs.take (j + 1)) = slcnt opsM (xs.take j) + slcnt opM x) := slcnt_step (M := opsM) hx
   have hT : slcnt opsM (xs.take j) + slcnt opM x ≤ slcnt opsM xs := slcnt_get (M := opsM) hx
   have HPS : Hid _ := pmark_step (M := opsM) (k := k) hx
   obtain ⟨g, cap', cur, Sj, T, c, hv, hSg, hblk, hcur, hcl, hown, s1, s2, s3, s4, s5, close⟩ := slown_focus ho (pmark_at hx)
   obtain ⟨vj, rfl⟩ : ∃ vj, c = [vj] := List.length_eq_one_iff.1 hcl
   obtain ⟨av, cv, rfl⟩ := slown_val hown
   simp only [Value.slice.injEq, Option.some.injEq, Addr.mk.injEq, and_true] at hv
   obtain ⟨rfl, hvx⟩ := hv
   clear hvx hcl
   have q1 : wr.cell? ⟨G, j, none⟩ = some (.slice av x.length cv) := by
    rw [cell_of_row wr G j cur _ (0, 0) hblk]
    have := hcur 0 Nat.zero_lt_one
    rwa [show j * (opsR).size + 0 = j from Nat.mul_one j] at this
   have HO : Hid _ := hown
   have HC : Hid (∀ w', Chg Sj wr w' → (opsR).own w' Sj [.slice av x.length cv] (slmark opM (k + slcnt opsM (xs.take j)) x) → (slR 82 opsR).own w' S [.slice (some ⟨G, 0, none⟩) xs.length cap] (pmark opsM k xs (j + 1))) := by
    intro w' hc ho'
    rw [← HPS.out]
    have hlg : G < wr.heap.size := (Array.getElem?_eq_some_iff.1 hblk).1
    exact close w' cur [.slice av x.length cv] _ Sj S (by rw [hc.block G hlg s4]; exact hblk) rfl (fun _ _ => rfl) hcur (hc.keeps s3.symm) ho' s3 s4 hSg s1 s2
   have HS1 : Hid _ := s1
   clear hx ho hown close hcur hblk s2 s3 s4 s5 s1 HPS h
   generalize slcnt opsM (xs.take j) = T at HT hT HC ⊢
   go_wp2_with (go_at_call 67; refine (markOpS_rep Sj _ _ x _ (by omega) (by omega) (by omega) HO.out).mono ?_; rintro e w' ⟨rfl, own2, gr⟩)
   have ho2 := HC.out w' gr own2
   have hs2 := hs.trans (gr.mono HS1.out)
   clear own2 gr
   go_roundw
   case rel => exact ⟨j + 1, by omega, by go_num, by rw [HT.out]; go_num, ho2, hs2⟩
   case measure => simp [intOf]; omega
  ·have hjn : j = xs.length := by omega
   subst hjn
   rw [List.take_length]
   rw [pmark_all] at ho
   go_wp2
   go_ret
   exact ⟨rfl, ho, hs⟩
theorem szOpss_u : SzC 10 opssR opssM cell1 := by
 rintro cs x left w ⟨a, cap, rfl, l1, l2, l3⟩ h0 h1
 exact (szOpSS_rep a x cap left w l3 h0 h1 (Nat.le_trans l1 l2)).mono fun e w' ⟨q, r⟩ => ⟨q, be_eq r⟩
theorem toOpss_u : ToC 14 opssR opssM cell1 := by
 rintro cs x w ⟨a, cap, rfl, l1, l2, l3⟩ hm
 refine (toOpSS_rep a x cap w l3 hm).mono ?_
 rintro e w' ⟨v, rfl, mm⟩
 exact ⟨[v], rfl, mm⟩
theorem eqOpss_u : EqC 17 opssR opssM cell1 := by
 rintro cs ds x w ⟨a, cap, rfl, l1, l2, l3⟩ ⟨b, cp, rfl, k1, k2, k3⟩ hm
 exact eqOpSS_rep a b x cap cp w l3 k3 (Nat.le_trans hm (by decide))
theorem mkOpss_u : MkC 19 opssR opssM cell1 := by
 intro S cs x k w h h0 hm hb
 obtain ⟨v, rfl⟩ := own_cell h
 have e : lot = 4398046511104 := rfl
 have e2 : opssM.cV x = slcnt opsM x := rfl
 have e3 : opssM.bk x = x.length + sumbk opsM x := rfl
 exact markOpSS_rep S v k x w h0 (by omega) (by omega) (by omega) h
theorem bd_opF : Bd opM 4 := bd_prod bd_int (bd_prod bd_int (bd_prod bd_int bd_int))
theorem bd_msgF : Bd msgM 7 := bd_prod bd_int (bd_prod bd_int (bd_prod bd_int (bd_prod bd_int (bd_prod bd_int (bd_prod (bd_sl bd_int) bd_int)))))
theorem bd_coreF : Bd coreM 14 := bd_prod (bd_prod (bd_sl (bd_sl bd_way)) (bd_sl bd_int)) (bd_prod (bd_sl bd_opF) (bd_prod bd_int (bd_prod bd_int (bd_prod bd_way (bd_sl bd_int)))))
theorem bd_descF : Bd descM 4 := bd_prod bd_bool (bd_prod bd_int (bd_prod bd_int (bd_sl bd_int)))
theorem bd_eventF : Bd eventM 9 := bd_prod bd_int (bd_prod bd_opF (bd_prod bd_int (bd_prod bd_int (bd_prod (bd_sl bd_int) bd_int))))
theorem bv_cfg : Bv cfgM 0 := bv_prod bv_int (bv_prod bv_int (bv_prod bv_int bv_int))
theorem bv_dma : Bv dmaM 5 := bv_prod (bv_sl bd_descF) (bv_prod bv_int (bv_prod bv_bool (bv_sl (bd_sl bd_int))))
theorem bv_fabric : Bv fabricM 44 := bv_prod bv_cfg (bv_prod bv_house (bv_prod (bv_sl bd_coreF) (bv_prod bv_dma (bv_prod (bv_sl bd_msgF) (bv_sl bd_eventF)))))
theorem bv_opss : Bv opssM 4 := bv_sl (bd_sl bd_opF)
theorem bv_descs : Bv descsM 4 := bv_sl bd_descF
theorem newHouse_tight (n : Int) : houseM.bk (newHouseI n).1 ≤ 64 := by
 unfold newHouseI
 split
 ·rename_i h
  have h1 : 1 ≤ n ∧ n ≤ 16 := by simpa [betw] using h
  obtain ⟨k, rfl⟩ : ∃ k : Nat, n = k := ⟨n.toNat, by omega⟩
  have hk : k ≤ 16 := by omega
  show houseM.bk (List.replicate k [0, 0], List.replicate k newE) ≤ 64
  have e : ∀ k : Nat, houseM.bk (List.replicate k [0, 0], List.replicate k newE) = (k + k * 2) + (k + k * 0) := by
   intro k
   show ((List.replicate k [(0 : Int), 0]).length + ((List.replicate k [(0 : Int), 0]).map intsM.bk).sum) + ((List.replicate k newE).length + ((List.replicate k newE).map entM.bk).sum) = _
   rw [List.length_replicate, List.length_replicate, List.map_replicate, List.map_replicate, sum_rep, sum_rep]
   rfl
  rw [e]
  omega
 ·decide
theorem newI_bk (a b : Int) : cacheM.bk (newI a b).1 ≤ 1000 := by
 unfold newI
 split
 ·rename_i h
  simp only [Bool.and_eq_true] at h
  obtain ⟨n, rfl, hn⟩ := powB_nat h.1
  obtain ⟨m, rfl, hm⟩ := powB_nat h.2
  rcases hn with rfl | rfl | rfl <;> rcases hm with rfl | rfl | rfl <;> decide
 ·decide
theorem newCore_bk (a b : Int) (p : List OpD) : coreM.bk (newCoreI a b p).1 ≤ 1000 + opsM.bk p := by
 unfold newCoreI newQ
 split
 ·have h1 := newI_bk a b
  show cacheM.bk (newI a b).1 + (opsM.bk p + (0 + (0 + (wayM.bk emptyW + intsM.bk [])))) ≤ 1000 + opsM.bk p
  have e1 : wayM.bk emptyW = 0 := by decide
  have e2 : intsM.bk ([] : List Int) = 0 := by decide
  omega
 ·show coreM.bk zeroC ≤ _
  have : coreM.bk zeroC = 0 := by decide
  omega
theorem cores_bk (g : CfgD) : ∀ ps : List (List OpD), coresM.bk (coresI g ps) ≤ 1001 * ps.length + opssM.bk ps
 | [] => Nat.zero_le _
 | p :: ps => by
  have h := cores_bk g ps
  have h2 := newCore_bk g.2.1 g.2.2.1 p
  have e1 : coresM.bk (coresI g (p :: ps)) = 1 + coreM.bk (newCoreI g.2.1 g.2.2.1 p).1 + coresM.bk (coresI g ps) := by
   show (coresI g (p :: ps)).length + sumbk coreM (coresI g (p :: ps)) = _
   simp only [coresI, List.map_cons, List.length_cons, sumbk, List.sum_cons]
   show _ = 1 + _ + ((ps.map _).length + ((ps.map _).map coreM.bk).sum)
   omega
  have e2 : opssM.bk (p :: ps) = 1 + opsM.bk p + opssM.bk ps := by
   show (p :: ps).length + sumbk opsM (p :: ps) = _
   simp only [List.length_cons, sumbk, List.map_cons, List.sum_cons]
   show _ = 1 + _ + (ps.length + (ps.map opsM.bk).sum)
   omega
  rw [e1, e2, List.length_cons]
  omega
theorem newFab_small (g : CfgD) (ps : List (List OpD)) (ds : List DescD) (hp : opssM.bk ps ≤ 1048576) (hd : descsM.bk ds ≤ 1048576) : fabricM.bk (newFabI g ps ds).1 ≤ 2200000 := by
 by_cases h : fabC g ps ds = 0
 ·rw [new_yes1 h]
  have hl := (fabC_zero h).2.1
  have hc := (code_cores (fabC_zero h).1).1
  have h1 := newHouse_tight g.2.2.2
  have h2 := cores_bk g ps
  show 0 + (houseM.bk (newHouseI g.2.2.2).1 + (coresM.bk (coresI g ps) + ((descsM.bk ds + (0 + (0 + rowsM.bk []))) + (msgsM.bk [] + eventsM.bk [])))) ≤ 2200000
  have e1 : rowsM.bk ([] : List (List Int)) = 0 := by decide
  have e2 : msgsM.bk ([] : List MsgD) = 0 := by decide
  have e3 : eventsM.bk ([] : List EventD) = 0 := by decide
  omega
 ·rw [new_no1 h]
  show fabricM.bk ((0, 0, 0, 0), ([], []), [], ([], 0, false, []), [], []) ≤ 2200000
  decide
theorem newFab_events (g : CfgD) (ps : List (List OpD)) (ds : List DescD) : (newFabI g ps ds).1.2.2.2.2.2 = [] := by
 by_cases h : fabC g ps ds = 0
 ·rw [new_yes1 h]
 ·rw [new_no1 h]
theorem specNewFab_w (g : CfgD) (cs1 cs2 : List Value) (ps : List (List OpD)) (ds : List DescD) (w : World) (hi : In64 g.1 ∧ In64 g.2.1 ∧ In64 g.2.2.1 ∧ In64 g.2.2.2) (h1 : opssR.rd w cs1 ps) (h2 : descsR.rd w cs2 ds) :
    Calls Tryz.prog 12 #[.agg #[.int .i64 g.1, .int .i64 g.2.1, .int .i64 g.2.2.1, .int .i64 g.2.2.2], cell1 cs1, cell1 cs2] w fun e w' => ∃ ds', e = .returned (.tuple #[aggV ds', .int .i64 (newFabI g ps ds).2]) ∧ fabricR.rd w' ds' (newFabI g ps ds).1 ∧ Below w.heap.size w w' := by
 obtain ⟨pa, pc, rfl, l1, l2, l3⟩ := h1
 obtain ⟨da, dc, rfl, k1, k2, k3⟩ := h2
 exact (specNewFabric_u g ps pa pc ds da dc w l3 (Nat.le_trans l1 l2) k3 (Nat.le_trans k1 k2) hi ⟨k1, k2⟩).mono fun e w' ⟨q, r, m⟩ => ⟨q, r, fabricR.own_rd m.1, m.2⟩
theorem implNewFab_w (g : CfgD) (cs1 cs2 : List Value) (ps : List (List OpD)) (ds : List DescD) (w : World) (hi : In64 g.1 ∧ In64 g.2.1 ∧ In64 g.2.2.1 ∧ In64 g.2.2.2) (hh : Hold w) (h1 : opssR.rd w cs1 ps) (h2 : descsR.rd w cs2 ds) :
    Calls Tryz.prog 16 #[.agg #[.int .i64 g.1, .int .i64 g.2.1, .int .i64 g.2.2.1, .int .i64 g.2.2.2], cell1 cs1, cell1 cs2] w fun e w' => ∃ ds', e = .returned (.tuple #[aggV ds', .int .i64 (newFabI g ps ds).2]) ∧ MadeR fabricR w w' ds' (newFabI g ps ds).1 := by
 obtain ⟨pa, pc, rfl, l1, l2, l3⟩ := h1
 obtain ⟨da, dc, rfl, k1, k2, k3⟩ := h2
 exact implNewFabric_u g ps pa pc ds da dc w l3 (Nat.le_trans l1 l2) k3 (Nat.le_trans k1 k2) hi hh
end Go.Proofs.YthnfkacboijneaaGreatDoor
