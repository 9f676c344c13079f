/- The draw of a store, right or not: it is drawn, in new memory, and nothing that was there turns but the cursor. Conditions: the bytes are at most 2^61. -/
import Derived.Test.YtnalbbfilejokaaDrawSto2
import Derived.Test.YtnalbbfilejokaaDrawSto3
import Derived.Deep.RegionLaw
namespace Go.Proofs.Ytnalbbfilejokaa
open Go.ChangeShapes Go.WideShapes Go.ChangeAt Go.RowKit
set_option linter.unusedVariables false

theorem chg_drew {S : Foot} {w w' : World} (h : Chg S w.drew w') : Chg S w w' := ⟨h.os, h.tape, h.output, h.size, h.block⟩
theorem chg_to_drew {S : Foot} {w : World} : Chg S w w.drew := ⟨rfl, rfl, rfl, Nat.le_refl _, fun _ _ _ => rfl⟩
theorem cellC {S : Foot} {w w' : World} {a : Addr} {v : Value} (h : Chg S w w') (hl : a.block < w.heap.size) (hn : ¬ S a.block) (hc : w.cell? a = some v) : w'.cell? a = some v := (World.cell?_of_block (w := w) (h.block a.block hl hn)).trans hc
theorem lit_four {w w2 : World} {g : Nat} {a b c d : Int} {t : TypeId} (hg : (w.alloc (.cells #[.int .i64 a, .int .i64 b, .int .i64 c, .int .i64 d] t)).grownBy w2 (some g)) (hgs : g < w.heap.size) (x : Int) (h0 : 0 ≤ x) (h1 : x < 4) :
    ∃ v, (v = a ∨ v = b ∨ v = c ∨ v = d) ∧ w2.cell? ⟨w.heap.size, x.toNat, none⟩ = some (.int .i64 v) := by
  obtain ⟨v, hv, hc⟩ : ∃ v, (v = a ∨ v = b ∨ v = c ∨ v = d) ∧ (#[.int .i64 a, .int .i64 b, .int .i64 c, .int .i64 d] : Array Value)[x.toNat]? = some (.int .i64 v) := by
    obtain rfl | rfl | rfl | rfl : x = 0 ∨ x = 1 ∨ x = 2 ∨ x = 3 := by omega
    · exact ⟨a, .inl rfl, rfl⟩
    · exact ⟨b, .inr (.inl rfl), rfl⟩
    · exact ⟨c, .inr (.inr (.inl rfl)), rfl⟩
    · exact ⟨d, .inr (.inr (.inr rfl)), rfl⟩
  refine ⟨v, hv, hg.cell ?_ (by simp; omega)⟩
  rw [cell_of_row _ w.heap.size x.toNat _ t (0, 0) (heap_alloc_new w _)]
  exact hc
theorem get_four {a b c d v : Value} {n : Nat} (h : (#[a, b, c, d] : Array Value)[n]? = some v) {hn : n < [a, b, c, d].length} : [a, b, c, d][n] = v := by
  rw [List.getElem?_toArray] at h
  exact (List.getElem?_eq_some_iff.1 h).2
theorem arr_four (a b c d x : Int) (h0 : 0 ≤ x) (h1 : x < 4) : ∃ v, (v = a ∨ v = b ∨ v = c ∨ v = d) ∧ (#[.int .i64 a, .int .i64 b, .int .i64 c, .int .i64 d] : Array Value)[x.toNat]? = some (.int .i64 v) := by
  obtain rfl | rfl | rfl | rfl : x = 0 ∨ x = 1 ∨ x = 2 ∨ x = 3 := by omega
  · exact ⟨a, .inl rfl, rfl⟩
  · exact ⟨b, .inr (.inl rfl), rfl⟩
  · exact ⟨c, .inr (.inr (.inl rfl)), rfl⟩
  · exact ⟨d, .inr (.inr (.inr rfl)), rfl⟩

set_option maxRecDepth 20000 in
set_option maxHeartbeats 8000000 in
theorem l6DrawAny_any (B g : Nat) (w : World) (hcur : Cur B w g) :
    Calls Try.prog 37 #[.pointer (some ⟨g, 0, none⟩)] w fun e w' => DrawSP B g w e w' := by
  have hgw := cur_lt hcur
  have hBg := hcur.1
  have hC0 := cur_alloc hcur (.cells #[.slice none 0 0, .slice none 0 0] 27)
  go_enter Try.func37, Try.ntmps37
  go_wp2_with fail
  refine (l6Draw_any B g _ hC0).mono ?_
  rintro e w1 ⟨c, av, cv, bv, dv, rfl, hok, DR⟩
  have D := ds_of_drew hgw hBg DR
  have C := D.cur
  have HD : Hid _ := And.intro hok D
  clear D hok DR hC0 hcur
  go_wp2_with fail
  generalize w1.alloc (.cells #[.slice av c.1.length cv, .slice bv c.2.length dv] 27) = W1 at HD C ⊢
  generalize w1.heap.size = mb at HD ⊢
  refine (l1Once_small B g 10 _ C (by omega) (by omega)).mono ?_
  rintro e w2 ⟨b, rfl, C2, g2⟩
  have HD2 : Hid _ := And.intro HD.out.1 (ds_grown HD.out.2 g2 C2)
  clear HD C g2
  cases b
  · clear C2
    have HR : Hid _ := dr_own HD2.out.2 rfl rfl (small_ok HD2.out.1)
    obtain ⟨z0, z1⟩ := cells_two HR.out.box
    obtain ⟨r0, r1⟩ := cells_two HR.out.res
    obtain ⟨f0, f1⟩ := froz2 HR.out.res
    have hmb : w.heap.size ≠ mb := by have := HR.out.lt; omega
    go_wp2
    exact dr_end HR.out rfl rfl
  · go_wp2_with fail
    refine (l1Below_small B g 4 _ C2 (by omega) (by omega)).mono ?_
    rintro e W ⟨j, rfl, hj0, hj1, C3, g3⟩
    have HD3 : Hid _ := And.intro HD2.out.1 (ds_grown HD2.out.2 g3 C3)
    clear HD2 C2 g3
    have D := HD3.out.2
    obtain ⟨row, old, t, hrow, hj, hr4, ht⟩ := ok_first HD3.out.1
    obtain ⟨g1, cap, g2, cap2, e, hcell, a1, a2, a3, b1, b2, b3, hne⟩ := ds_first D hrow hj
    simp only [Value.slice.injEq, true_and] at e
    obtain ⟨rfl, rfl⟩ := e
    obtain ⟨gt, rfl, htc, t1, t2, t3⟩ := ds_trees D ht
    have hsm := small_ok HD3.out.1
    have hc1 : 0 < c.1.length := (List.getElem?_eq_some_iff.1 hrow).1
    have hc2 : 0 < c.2.length := (List.getElem?_eq_some_iff.1 ht).1
    have hrl : 0 < row.length := (List.getElem?_eq_some_iff.1 hj).1
    have hc1i : (0 : Int) < (c.1.length : Int) := by omega
    have hc2i : (0 : Int) < (c.2.length : Int) := by omega
    have hrli : (0 : Int) < (row.length : Int) := by omega
    have l3 := D.lt.2.1
    obtain ⟨x0, x1⟩ := cells_two D.box
    have HD : Hid _ := D
    have HK : Hid _ := And.intro hrow (And.intro hj (And.intro ht (And.intro hr4 hsm)))
    clear D hrow hj ht hr4 hsm HD3
    obtain rfl | rfl | rfl | rfl : j = 0 ∨ j = 1 ∨ j = 2 ∨ j = 3 := by omega
    · clear htc t1 t2 t3
      go_wp2
      go_region_with (go_at_call 38
                      refine (l6DrawWay_any B g _ (cur_drew C3)).mono ?_
                      rintro e w4 ⟨v, va, vc, rfl, hdl, DRW⟩
                      have hch := chg_drew DRW.chg
                      obtain ⟨⟨cur, hcu, hcs⟩, D4⟩ := ds_put0 HD.out hch DRW.cur DRW.own HK.out.1 HK.out.2.1 hcell
                      have y0 := cellC hch l3 (fun e : mb = g => by have := HD.out.lt; omega) x0
                      have y1 := cellC hch l3 (fun e : mb = g => by have := HD.out.lt; omega) x1
                      have yc := cellC hch a3 (fun e : g1 = g => by have := HD.out.lt; omega) hcell
                      have c0 : w4.cell? ⟨g2, 0, none⟩ = cur[0]? := cell_of_row w4 g2 0 _ _ (0, 0) hcu
                      have c1 : w4.cell? ⟨g2, 1, none⟩ = cur[1]? := cell_of_row w4 g2 1 _ _ (0, 0) hcu
                      have c2 : w4.cell? ⟨g2, 2, none⟩ = cur[2]? := cell_of_row w4 g2 2 _ _ (0, 0) hcu
                      rw [Array.getElem?_eq_getElem (by omega)] at c0 c1 c2
                      have f0 := frozen_of_row w4 g2 0 _ _ hcu
                      have f1 := frozen_of_row w4 g2 1 _ _ hcu
                      have f2 := frozen_of_row w4 g2 2 _ _ hcu
                      simp only [set3, Nat.zero_add] at D4
                      have HD4 : Hid _ := D4
                      clear D4 DRW hch hcu)
      all_goals
        generalize ((w4.setCell ⟨g2, 0, none⟩ (.int .i64 v.1)).setCell ⟨g2, 1, none⟩ (.int .i64 v.2.1)).setCell ⟨g2, 2, none⟩ (.slice va v.2.2.length vc) = W5 at HD4 ⊢
        clear y0 y1 yc c0 c1 c2 f0 f1 f2 x0 x1 hcell
        have HR : Hid _ := dr_own HD4.out (by simp) rfl (small_set HK.out.2.2.2.2 (by rw [List.length_set]; have := HK.out.2.2.2.1; omega) _ HK.out.2.2.2.2.2.1)
        obtain ⟨z0, z1⟩ := cells_two HR.out.box
        obtain ⟨r0, r1⟩ := cells_two HR.out.res
        obtain ⟨f0, f1⟩ := froz2 HR.out.res
        have hmb : w.heap.size ≠ mb := by have := HR.out.lt; omega
        go_wp2
        exact dr_end HR.out rfl rfl
    · clear hcell
      have htt : w.heap.size ≠ gt := by omega
      have htm : gt ≠ mb := t2
      have htm2 : mb ≠ gt := Ne.symm t2
      have B0 : Hid (∀ o, Chg (fun b => b = g) W (W.alloc o)) := fun o => chg_below (box_below W o)
      go_wp2
      go_region_with (go_at_call 47
                      first
                      | (refine (l1Below_small B g _ _ (cur_drew C3) (by omega) (by omega)).mono ?_
                         rintro e w4 ⟨z, rfl, z0, z1, C4, hgd⟩
                         have hch : Chg (fun b => b = g) W w4 := chg_drew (chg_grown hgd rfl)
                         have hwl : W.heap.size ≤ w4.heap.size := hch.size
                         obtain ⟨v, hv, hva⟩ := arr_four (-1) 1 7 8 z z0 z1
                         have hv64 : In64 v := small64 (by omega) (by omega)
                         have hvc := (cell_of_row _ w4.heap.size z.toNat _ 2 (0, 0) (heap_alloc_new w4 (.cells #[.int .i64 (-1), .int .i64 1, .int .i64 7, .int .i64 8] 2))).trans hva
                         obtain ⟨k1, k2, D4⟩ := ds_tree0 HD.out hch C4 HK.out.2.2.1 hv64
                         have HD4a : Hid _ := ds_step D4 (chg_below (box_below _ (.cells #[.int .i64 (-1), .int .i64 1, .int .i64 7, .int .i64 8] 2))) (cur_alloc D4.cur (.cells #[.int .i64 (-1), .int .i64 1, .int .i64 7, .int .i64 8] 2))
                         have y0 := cellC hch l3 (fun e : mb = g => by have := HD.out.lt; omega) x0
                         have y1 := cellC hch l3 (fun e : mb = g => by have := HD.out.lt; omega) x1
                         have yt := cellC hch t3 (fun e : gt = g => by have := HD.out.lt; omega) htc
                         have lt1 : gt < w4.heap.size := by omega
                         have lt2 : mb < w4.heap.size := by omega
                         clear D4 hch hgd C4 hv k1)
                      | (refine (l1Below_small B g _ _ (cur_drew (cur_alloc C3 (.cells #[.int .i64 (-1), .int .i64 1, .int .i64 7, .int .i64 8] 2))) (by omega) (by omega)).mono ?_
                         rintro e w4 ⟨z, rfl, z0, z1, C4, hgd⟩
                         have hg : (W.alloc (.cells #[.int .i64 (-1), .int .i64 1, .int .i64 7, .int .i64 8] 2)).grownBy w4 (some g) := ⟨hgd.os, hgd.tape, hgd.output, hgd.size, hgd.block⟩
                         have hch : Chg (fun b => b = g) W w4 := (chg_below (box_below W (.cells #[.int .i64 (-1), .int .i64 1, .int .i64 7, .int .i64 8] 2))).trans (chg_grown hg rfl)
                         have hwl : W.heap.size ≤ w4.heap.size := hch.size
                         obtain ⟨v, hv, hvc⟩ := lit_four hg (cur_lt C3) z z0 z1
                         have hv64 : In64 v := small64 (by omega) (by omega)
                         obtain ⟨k1, k2, D4⟩ := ds_tree0 HD.out hch C4 HK.out.2.2.1 hv64
                         have HD4 : Hid _ := D4
                         have y0 := cellC hch l3 (fun e : mb = g => by have := HD.out.lt; omega) x0
                         have y1 := cellC hch l3 (fun e : mb = g => by have := HD.out.lt; omega) x1
                         have lt1 : gt < w4.heap.size := by omega
                         have lt2 : mb < w4.heap.size := by omega
                         clear D4 hch hgd hg C4 hv))
      all_goals
        try rw [get_four hva]
        first
        | (have HQ := HD4
           generalize w4.setCell ⟨gt, 0, none⟩ (.int .i64 v) = W5 at HQ ⊢)
        | (have HQ := HD4a
           generalize (w4.setCell ⟨gt, 0, none⟩ (.int .i64 v)).alloc (.cells #[.int .i64 (-1), .int .i64 1, .int .i64 7, .int .i64 8] 2) = W5 at HQ ⊢)
        clear y0 y1 x0 x1
        have HR : Hid _ := dr_own HQ.out rfl List.length_set ⟨HK.out.2.2.2.2.1, by rw [List.length_set]; exact HK.out.2.2.2.2.2.1, HK.out.2.2.2.2.2.2⟩
        obtain ⟨z0, z1⟩ := cells_two HR.out.box
        obtain ⟨r0, r1⟩ := cells_two HR.out.res
        obtain ⟨f0, f1⟩ := froz2 HR.out.res
        have hmb : w.heap.size ≠ mb := by have := HR.out.lt; omega
        go_wp2
        exact dr_end HR.out rfl rfl
    · have hcap : c.1.length ≤ cv := by
        obtain ⟨S, S2, o1, -⟩ := HD.out.own
        obtain ⟨a, cap', e, q, -, -⟩ := setsR.own_rd o1
        simp only [List.cons.injEq, Value.slice.injEq, true_and, and_true] at e
        omega
      obtain ⟨r0, r1⟩ := cells_two HD.out.res
      obtain ⟨f0, f1⟩ := froz2 HD.out.res
      obtain ⟨e0, e1⟩ := froz2 HD.out.box
      have hmb : w.heap.size ≠ mb := by have := HD.out.lt; omega
      have hmb2 : mb ≠ w.heap.size := Ne.symm hmb
      have hk1 : 1 ≤ c.1.length := hc1
      have hk2 : (1 : Int) ≤ (c.1.length : Int) := by omega
      have hk3 : 1 ≤ cv := by omega
      have hk4 : (1 : Int) ≤ (cv : Int) := by omega
      have hk5 : (c.1.length : Int) ≤ (cv : Int) := by omega
      by_cases hcv : cv = 1
      · have hc11 : c.1.length = 1 := by omega
        have HT := dr_tail HD.out HK.out.2.2.2.2 (some ⟨g1, 0, none⟩) (by rw [if_pos hcv])
        rw [hc11, hcv] at HT
        have HTT : Hid _ := HT
        clear HT HD HK hcell hk1 hk2 hk3 hk4 hk5 hc1 hc1i hcap
        subst hcv
        rw [hc11] at x0 ⊢
        clear hc11
        go_wp2
        exact dr_end HTT.out rfl rfl
      · have hq : Hid (some ⟨g1, 1, none⟩ = if cv = 1 then some (⟨g1, 0, none⟩ : Addr) else some ⟨g1, 1, none⟩) := by unfold Hid; rw [if_neg hcv]
        go_wp2
        exact dr_end (dr_tail HD.out HK.out.2.2.2.2 _ hq.out) rfl rfl
    · clear htc t1 t2 t3 hj0 hj1
      have DD := ds_step HD.out (chg_to_drew (w := W)) (cur_drew HD.out.cur)
      have ST : Hid _ := ds_app0 DD HK.out.1 HK.out.2.2.2.1 (show W.drew.cell? ⟨g1, 0, none⟩ = _ from hcell)
      have HX : Hid _ := DD
      have hgm : g1 ≠ mb := a2
      have hmg : mb ≠ g1 := Ne.symm a2
      clear DD
      go_wp2
      go_region_law (first
        | (refine step_run (by rfl) _ _ _ _ (by rfl) (by rfl) _ _ _ (by rfl) (by rfl) hrun ?_)
        | (go_simp
           go_at_call 62
           refine (l6Empty_any _).mono ?_
           rintro e w9 ⟨ae, ce, rfl, mm⟩
           obtain ⟨z0, g', c', w5, hrun, z1, z2, Z2, I2⟩ := ST.out w9 ae ce mm
           have HI2 : Hid _ := I2
           obtain ⟨q5, q6⟩ := cells_two Z2
           have X9 := row_keep mm.2 HX.out.box
           obtain ⟨q0, q1⟩ := cells_two X9
           have q2 := ltR X9
           have q3 : g1 < w9.heap.size := Nat.lt_of_lt_of_le (by exact a3) mm.2.size
           clear X9 Z2 mm I2))
      all_goals
        generalize w5.setCell ⟨g1, 0, none⟩ (.slice (some ⟨g', 0, none⟩) (row.length + 1) c') = W5 at HI2 ⊢
        clear hrun z0 z1 z2 q0 q1 q2 q3 q5 q6 x0 x1 hcell
        have HR : Hid _ := dr_own HI2.out (by simp) rfl (small_set HK.out.2.2.2.2 (by rw [List.length_append]; have := HK.out.2.2.2.1; show row.length + 1 ≤ 5; omega) _ HK.out.2.2.2.2.2.1)
        obtain ⟨z0, z1⟩ := cells_two HR.out.box
        obtain ⟨r0, r1⟩ := cells_two HR.out.res
        obtain ⟨f0, f1⟩ := froz2 HR.out.res
        have hmb : w.heap.size ≠ mb := by have := HR.out.lt; omega
        go_wp2
        exact dr_end HR.out rfl rfl
end Go.Proofs.Ytnalbbfilejokaa
