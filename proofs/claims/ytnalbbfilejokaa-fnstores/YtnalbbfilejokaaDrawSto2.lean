/- The draw of a store, right or not: it is drawn, in new memory, and nothing that was there turns but the cursor. Conditions: the bytes are at most 2^61. -/
import Derived.Test.YtnalbbfilejokaaDrawSto
import Derived.Deep.RegionWith
import Derived.BigRegion
namespace Go.Proofs.Ytnalbbfilejokaa
open Go.ChangeShapes Go.WideShapes Go.ChangeAt Go.RowKit
set_option linter.unusedVariables false

set_option maxRecDepth 20000 in
set_option maxHeartbeats 8000000 in
theorem l6Draw_any (B g : Nat) (w : World) (hcur : Cur B w g) :
    Calls Try.prog 80 #[.pointer (some ⟨g, 0, none⟩)] w fun e w' => DrawCP B g w e w' := by
  have hgw := cur_lt hcur
  have hBg := hcur.1
  have hc := cur_alloc (cur_alloc hcur (.cells #[.slice none 0 0, .slice none 0 0] 27)) (.cells #[.int .i64 1, .int .i64 2, .int .i64 4] 2)
  have R : ((w.alloc (.cells #[.slice none 0 0, .slice none 0 0] 27)).alloc (.cells #[.int .i64 1, .int .i64 2, .int .i64 4] 2)).heap[w.heap.size]? = some (.cells #[.slice none 0 0, .slice none 0 0] 27 (0, 0)) := row_keep (box_below _ _) (heap_at w (.cells #[.slice none 0 0, .slice none 0 0] 27))
  have G : Chg (fun b => b = g) w ((w.alloc (.cells #[.slice none 0 0, .slice none 0 0] 27)).alloc (.cells #[.int .i64 1, .int .i64 2, .int .i64 4] 2)) := (chg_below (box_below w (.cells #[.slice none 0 0, .slice none 0 0] 27))).trans (chg_below (box_below _ (.cells #[.int .i64 1, .int .i64 2, .int .i64 4] 2)))
  have T : ∀ x : Int, 0 ≤ x → x < 3 → ((w.alloc (.cells #[.slice none 0 0, .slice none 0 0] 27)).alloc (.cells #[.int .i64 1, .int .i64 2, .int .i64 4] 2)).cell? ⟨w.heap.size + 1, x.toNat, none⟩ = some (.int .i64 (tabN x)) := by
    intro x h0 h1
    have e : (w.alloc (.cells #[.slice none 0 0, .slice none 0 0] 27)).heap.size = w.heap.size + 1 := by simp
    rw [← e, cell_of_row _ _ x.toNat _ 2 (0, 0) (heap_alloc_new (w.alloc (.cells #[.slice none 0 0, .slice none 0 0] 27)) (.cells #[.int .i64 1, .int .i64 2, .int .i64 4] 2))]
    obtain h | h | h : x = 0 ∨ x = 1 ∨ x = 2 := by omega
    all_goals subst h; rfl
  have hsz : ((w.alloc (.cells #[.slice none 0 0, .slice none 0 0] 27)).alloc (.cells #[.int .i64 1, .int .i64 2, .int .i64 4] 2)).heap.size = w.heap.size + 2 := by simp
  have hne1 : w.heap.size + 1 ≠ g := by omega
  have hne0 : w.heap.size ≠ g := by omega
  go_enter Try.func80, Try.ntmps80
  go_upto_region 2 with fail
  have hV : w.heap.size + 2 ≤ ((w.alloc (.cells #[.slice none 0 0, .slice none 0 0] 27)).alloc (.cells #[.int .i64 1, .int .i64 2, .int .i64 4] 2)).heap.size := by omega
  clear hsz
  have hltV : w.heap.size + 1 < ((w.alloc (.cells #[.slice none 0 0, .slice none 0 0] 27)).alloc (.cells #[.int .i64 1, .int .i64 2, .int .i64 4] 2)).heap.size := by omega
  generalize (w.alloc (.cells #[.slice none 0 0, .slice none 0 0] 27)).alloc (.cells #[.int .i64 1, .int .i64 2, .int .i64 4] 2) = V at hc R G T hV hltV ⊢
  clear hcur
  go_cut [4] (fun q wx => ∃ mb c u v0 cp, q = .pointer (some ⟨mb, 0, none⟩) ∧ OkC isL treeB c ∧ DSto B g w wx mb c u v0 cp)
  case first =>
    have hm1 : True := trivial
    have hm2 : True := trivial
    go_wp2
    go_region_with (first
                    | (go_at_call 47
                       clear hm1
                       refine (l1Below_small B g _ _ (cur_drew hc) (by omega) (by omega)).mono ?_
                       rintro e Va ⟨za, rfl, hza0, hza1, hc2, hgd⟩
                       have hg : V.grownBy Va (some g) := ⟨hgd.os, hgd.tape, hgd.output, hgd.size, hgd.block⟩
                       clear hgd
                       replace T := tabG hg hne1 T
                       replace G := G.trans (chg_grown hg rfl)
                       replace R := rowG hg hne0 R
                       try replace X := rowG hg hxg X
                       have hVVa : V.heap.size ≤ Va.heap.size := hg.size
                       have hltVa : w.heap.size + 1 < Va.heap.size := by omega
                       clear hc hg
                       have hc := hc2
                       clear hc2)
                    | (go_at_call 47
                       clear hm1
                       refine (l1Below_small B g _ _ (cur_drew (cur_alloc hc (.cells #[.slice none 0 0, .slice none 0 0] 27))) (by omega) (by omega)).mono ?_
                       rintro e Va ⟨za, rfl, hza0, hza1, hc2, hgd⟩
                       have hg : (V.alloc (.cells #[.slice none 0 0, .slice none 0 0] 27)).grownBy Va (some g) := ⟨hgd.os, hgd.tape, hgd.output, hgd.size, hgd.block⟩
                       clear hgd
                       have hlv : w.heap.size + 1 < V.heap.size := by omega
                       replace T := tabG hg hne1 (tabA hlv T)
                       replace G := (G.trans (chg_below (box_below V (.cells #[.slice none 0 0, .slice none 0 0] 27)))).trans (chg_grown hg rfl)
                       replace R := rowG hg hne0 (row_keep (box_below V (.cells #[.slice none 0 0, .slice none 0 0] 27)) R)
                       have hxg : V.heap.size ≠ g := by omega
                       have X := rowG hg hxg (heap_at V (.cells #[.slice none 0 0, .slice none 0 0] 27))
                       have hxw : w.heap.size < V.heap.size := by omega
                       have hVVa : V.heap.size + 1 ≤ Va.heap.size := by have := hg.size; simpa using this
                       clear hlv
                       have hltVa : w.heap.size + 1 < Va.heap.size := by omega
                       clear hc hg
                       have hc := hc2
                       clear hc2)
                    | (go_at_call 47
                       clear hm2
                       refine (l1Below_small B g _ _ hc (by omega) (by omega)).mono ?_
                       rintro e Vb ⟨zb, rfl, hzb0, hzb1, hc2, hgd⟩
                       have hg : Va.grownBy Vb (some g) := ⟨hgd.os, hgd.tape, hgd.output, hgd.size, hgd.block⟩
                       clear hgd
                       replace T := tabG hg hne1 T
                       replace G := G.trans (chg_grown hg rfl)
                       replace R := rowG hg hne0 R
                       try replace X := rowG hg hxg X
                       have hVVb : Va.heap.size ≤ Vb.heap.size := hg.size
                       have hltVb : w.heap.size + 1 < Vb.heap.size := by omega
                       clear hc hg
                       have hc := hc2
                       clear hc2)
                    | (go_at_call 47
                       clear hm2
                       refine (l1Below_small B g _ _ (cur_alloc hc (.cells #[.slice none 0 0, .slice none 0 0] 27)) (by omega) (by omega)).mono ?_
                       rintro e Vb ⟨zb, rfl, hzb0, hzb1, hc2, hgd⟩
                       have hg : (Va.alloc (.cells #[.slice none 0 0, .slice none 0 0] 27)).grownBy Vb (some g) := ⟨hgd.os, hgd.tape, hgd.output, hgd.size, hgd.block⟩
                       clear hgd
                       have hlv : w.heap.size + 1 < Va.heap.size := by omega
                       replace T := tabG hg hne1 (tabA hlv T)
                       replace G := (G.trans (chg_below (box_below Va (.cells #[.slice none 0 0, .slice none 0 0] 27)))).trans (chg_grown hg rfl)
                       replace R := rowG hg hne0 (row_keep (box_below Va (.cells #[.slice none 0 0, .slice none 0 0] 27)) R)
                       have hxg : Va.heap.size ≠ g := by omega
                       have X := rowG hg hxg (heap_at Va (.cells #[.slice none 0 0, .slice none 0 0] 27))
                       have hxw : w.heap.size < Va.heap.size := by omega
                       have hVVb : Va.heap.size + 1 ≤ Vb.heap.size := by have := hg.size; simpa using this
                       clear hlv
                       have hltVb : w.heap.size + 1 < Vb.heap.size := by omega
                       clear hc hg
                       have hc := hc2
                       clear hc2)
                    | (go_at_call 23
                       have hpa := pow_tab hza0 hza1
                       have hpb := pow_tab hzb0 hzb1
                       have hok := newI_ok hpa hpb
                       refine (specNew_any _ _ _).mono ?_
                       rintro e Vc ⟨av, cv, bv, dv, rfl, mm⟩
                       generalize newI (tabN za) (tabN zb) = NI at mm hok ⊢
                       have HOK : Hid (OkC isL treeB NI.1) := hok
                       clear hok hpa hpb T
                       first
                       | (have nb : Below Vb.heap.size Vb Vc := mm.2
                          have HM : Hid (cacheR.own Vc (rng Vb.heap.size Vc.heap.size) _ NI.1) := mm.1
                          replace G := G.trans (chg_below nb)
                          replace R := row_keep nb R
                          replace hc := cur_bel hc nb
                          try (have hxl := ltR X; replace X := row_keep nb X; have hxc := ltR X; obtain ⟨x0, x1⟩ := cells_two X; obtain ⟨y0, y1⟩ := froz2 X))
                       | (have nb : Below (Vb.alloc (.cells #[.slice none 0 0, .slice none 0 0] 27)).heap.size (Vb.alloc (.cells #[.slice none 0 0, .slice none 0 0] 27)) Vc := mm.2
                          have HM : Hid (cacheR.own Vc (rng (Vb.alloc (.cells #[.slice none 0 0, .slice none 0 0] 27)).heap.size Vc.heap.size) _ NI.1) := mm.1
                          replace G := (G.trans (chg_below (box_below Vb (.cells #[.slice none 0 0, .slice none 0 0] 27)))).trans (chg_below nb)
                          replace R := row_keep nb (row_keep (box_below Vb (.cells #[.slice none 0 0, .slice none 0 0] 27)) R)
                          replace hc := cur_bel (cur_alloc hc (.cells #[.slice none 0 0, .slice none 0 0] 27)) nb
                          have hxl : Vb.heap.size < (Vb.alloc (.cells #[.slice none 0 0, .slice none 0 0] 27)).heap.size := by simp
                          have hxw : w.heap.size < Vb.heap.size := by omega
                          have X := row_keep nb (heap_at Vb (.cells #[.slice none 0 0, .slice none 0 0] 27))
                          have hxc := ltR X
                          obtain ⟨x0, x1⟩ := cells_two X
                          obtain ⟨y0, y1⟩ := froz2 X)
                       clear mm nb))
    all_goals
      go_wp2_with fail
      go_meet
      first
      | exact ⟨_, _, _, _, _, rfl, HOK.out, ds_newA hc X R G HM.out hxl hxw hgw hBg⟩
      | exact ⟨_, _, _, _, _, rfl, HOK.out, ds_newB hc R G HM.out (by omega) hgw hBg⟩
  case rest =>
    obtain ⟨mb, c0, u0, vv, cp0, rfl, hok, D⟩ := hcut
    clear hc R G T hV hltV hne1 hne0
    have C := D.cur
    have HD : Hid _ := And.intro hok D
    clear D hok
    go_wp2_with fail
    refine (l1Below_small B g 8 _ C (by omega) (by omega)).mono ?_
    rintro e w1 ⟨n, rfl, n0, n1, C1, g1⟩
    have HD1 : Hid _ := And.intro HD.out.1 (ds_grown HD.out.2 g1 C1)
    obtain ⟨kn, rfl⟩ : ∃ kn : Nat, n = (kn : Int) := ⟨n.toNat, by omega⟩
    clear C g1 HD C1
    go_wp2
    go_loopw [6] (fun i wr => ∃ (k : Nat) (c : CacheD) (u : Value) (v0 : Option Addr) (cp : Nat), k ≤ 7 ∧ i = .int .i64 k ∧ OkC isL treeB c ∧ DSto B g w wr mb c u v0 cp) (fun i _ => (intOf i).toNat)
    case atStart => exact ⟨kn, c0, u0, vv, cp0, by omega, rfl, HD1.out.1, HD1.out.2⟩
    case round =>
      clear HD1
      obtain ⟨k, c, u, v0, cp, hk, rfl, hok, D⟩ := hrel
      by_cases hk0 : 0 < k
      · have hk0' : (0 : Int) < (k : Int) := by omega
        have C := D.cur
        have HD : Hid _ := And.intro hok D
        clear D hok
        go_wp2_with fail
        refine (l6DrawWay_any B g wr C).mono ?_
        rintro e w2 ⟨v, av, cv, rfl, hdl, DR⟩
        have KF : Hid (Calls Try.prog 52 #[.pointer (some ⟨mb, 0, none⟩), .agg #[.int .i64 v.1, .int .i64 v.2.1, .slice av v.2.2.length cv]] w2 fun e w' => ∃ b, e = .returned (.bool b) ∧ ∃ c', OkC isL treeB c' ∧ DSto B g w w' mb c' u v0 cp) := ds_fill HD.out.1 (ds_step HD.out.2 DR.chg DR.cur) DR.own hdl
        clear HD DR C hdl
        go_wp2_with fail
        refine KF.out.mono ?_
        rintro e w3 ⟨b3, rfl, c3, hok3, D3⟩
        have C := D3.cur
        have HD : Hid _ := And.intro hok3 D3
        clear D3 hok3 KF
        go_wp2_with fail
        refine (l1Once_small B g 5 _ C (by omega) (by omega)).mono ?_
        rintro e w4 ⟨b, rfl, C4, g4⟩
        have HD4 : Hid _ := And.intro HD.out.1 (ds_grown HD.out.2 g4 C4)
        clear HD C g4
        cases b
        · clear C4
          go_wp2
          go_roundw
          case rel => exact ⟨k - 1, _, _, _, _, by omega, by go_num, HD4.out.1, HD4.out.2⟩
          case measure => simp [intOf]; omega
        · go_wp2_with fail
          refine (l1Below_small B g 8 _ C4 (by omega) (by omega)).mono ?_
          rintro e w5 ⟨y, rfl, y0, y1, C5, g5⟩
          have KD : Hid (Calls Try.prog 60 #[.pointer (some ⟨mb, 0, none⟩), .int .i64 y] w5 fun e w' => ∃ b, e = .returned (.bool b) ∧ ∃ c', OkC isL treeB c' ∧ DSto B g w w' mb c' u v0 cp) := ds_drop HD4.out.1 (ds_grown HD4.out.2 g5 C5)
          clear HD4 C4 C5 g5 y0 y1
          go_wp2_with fail
          refine KD.out.mono ?_
          rintro e w6 ⟨b6, rfl, c6, hok6, D6⟩
          have HD : Hid _ := And.intro hok6 D6
          clear D6 hok6 KD
          go_wp2
          go_roundw
          case rel => exact ⟨k - 1, _, _, _, _, by omega, by go_num, HD.out.1, HD.out.2⟩
          case measure => simp [intOf]; omega
      · have hkn : k = 0 := by omega
        subst hkn
        obtain ⟨av, cv, rfl, -⟩ := ds_made D
        obtain ⟨x0, x1⟩ := cells_two D.box
        obtain ⟨r0, r1⟩ := cells_two D.res
        obtain ⟨f0, f1⟩ := froz2 D.res
        have hmb : w.heap.size ≠ mb := by have := D.lt; omega
        have HD : Hid _ := And.intro hok D
        clear D hok
        go_wp2
        exact ds_end HD.out.2 HD.out.1 rfl rfl
end Go.Proofs.Ytnalbbfilejokaa
