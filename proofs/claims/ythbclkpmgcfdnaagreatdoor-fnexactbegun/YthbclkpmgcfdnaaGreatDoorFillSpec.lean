
/- FillSpec. -/
import Derived.Test.YthbclkpmgcfdnaaGreatDoorJDropImpl4CorePlain
/- A way filled into a store, by the specification: through a pointer to a store that is owned. No condition but a right store. -/
namespace Go.Proofs.YthbclkpmgcfdnaaGreatDoor
open Go.ChangeShapes Go.WideShapes Go.ChangeAt Go.RowKit Go.Shelf
set_option linter.unusedVariables false
noncomputable def fillI (c : CacheD) (u : WayD) : CacheD × Bool := fillC isL treeB touI c u
theorem fill_bad {c : CacheD} {u : WayD} (h : okB isL treeB c = false) : fillI c u = (([], []), false) := by
  unfold fillI fillC
  rw [h]
  rfl
theorem fill_not {c : CacheD} {u : WayD} (hok : OkC isL treeB c) (h : fullB isL u = false) : fillI c u = (c, false) := by
  unfold fillI fillC
  rw [okB_iff.2 hok, h]
  rfl
theorem fill_none {c : CacheD} {u : WayD} (hok : OkC isL treeB c) (h : putNo c u.1 = none) : fillI c u = (c, false) := by
  unfold fillI fillC
  rw [okB_iff.2 hok, h]
  cases fullB isL u <;> rfl
theorem fill_at {c : CacheD} {u : WayD} {i : Nat} (hok : OkC isL treeB c) (hf : fullB isL u = true) (h : putNo c u.1 = some i) : fillI c u = (fillX touI c u i, true) := by
  unfold fillI fillC
  rw [okB_iff.2 hok, h, hf]
  rfl
theorem put_lt {c : CacheD} {line : Int} {i : Nat} (h : putNo c line = some i) : ∃ u, (rowFor c line)[i]? = some u := by
  unfold putNo at h
  split at h
  · rename_i j hj
    cases h
    obtain ⟨-, u, hu, -⟩ := at_some hj
    exact ⟨u, hu⟩
  · obtain ⟨u, hu, -⟩ := idx_some h
    exact ⟨u, hu⟩
theorem l5Touched_in {t : Int} {m fi : Nat} (W : World) (h : treeB t m = true) (hf : fi < m) : Calls Tryz.prog 201 #[.int .i64 t, .int .i64 (m : Int), .int .i64 (fi : Int)] W fun e w' => e = .returned (.int .i64 (touI t m fi)) ∧ w' = W := by
  simp only [treeB, decide_eq_true_eq] at h
  rcases h with ⟨h1, rfl⟩ | ⟨h1, a, b⟩ | ⟨h1, a, b⟩
  · rw [h1]
    exact l5Touched_1 0 _ W
  · rw [h1]
    exact l5Touched_2 t _ W (by omega) (by omega)
  · rw [h1]
    exact l5Touched_4 t _ W (by omega) (by omega)

set_option maxRecDepth 8000 in
set_option maxHeartbeats 8000000 in
theorem l6Fill_at (gb cp : Nat) (S S2 : Foot) (u : Value) (v0 : Option Addr) (c : CacheD) (l st : Int) (d : List Int) (ad : Option Addr) (cpw : Nat) (w : World) (hok : OkC isL treeB c) (bc : Array Value) (bt : TypeId) (hb0 : bc[0]? = some u) (hb1 : bc[1]? = some (.slice v0 c.2.length cp)) (hbox : w.heap[gb]? = some (.cells bc bt (0, 0))) (hnb : ¬ S gb) (hnb2 : ¬ S2 gb) (hdis : Dis S S2) (h : setsR.own w S [u] c.1) (h2 : intsR.own w S2 [.slice v0 c.2.length cp] c.2)
    (i1 : In64 l) (i2 : In64 st) (hd : SlRd intR w ad d) (hdl : d.length ≤ 1048576) :
    Calls Tryz.prog 172 #[.pointer (some ⟨gb, 0, none⟩), .agg #[.int .i64 l, .int .i64 st, .slice ad d.length cpw]] w fun e w' => e = .returned (.bool (fillI c (l, st, d)).2) ∧
      setsR.own w' (fun k => Old w S k ∨ (w.heap.size ≤ k ∧ k < w'.heap.size)) [u] (fillI c (l, st, d)).1.1 ∧ intsR.own w' S2 [.slice v0 c.2.length cp] (fillI c (l, st, d)).1.2 ∧ Chg (fun k => Old w S k ∨ S2 k) w w' := by
  obtain ⟨a, cap, rfl, hrd⟩ := sets_rd h
  have hgl := (Array.getElem?_eq_some_iff.1 hbox).1
  have HF : Hid (∀ W, Below w.heap.size w W → Calls Tryz.prog 66 #[.agg #[.int .i64 l, .int .i64 st, .slice ad d.length cpw]] W fun e w' => e = .returned (.bool (fullB isL (l, st, d))) ∧ Below W.heap.size W w') := fun W hb => l6Full_any l st d ad cpw W (slrd_keep hd fun k hk => hb.block k hk)
  have Y := heap_at w (.cells #[.int .i64 l, .int .i64 st, .slice ad d.length cpw] 30)
  have B := box_below w (.cells #[.int .i64 l, .int .i64 st, .slice ad d.length cpw] 30)
  cases hfl : fullB isL (l, st, d)
  · rw [hfl] at HF
    rw [fill_not hok hfl]
    have HH : Hid _ := And.intro h h2
    clear h h2 hrd hd
    go_enter Tryz.func172, Tryz.ntmps172
    go_wp2_with fail
    generalize w.alloc (.cells #[.int .i64 l, .int .i64 st, .slice ad d.length cpw] 30) = W0 at Y B ⊢
    refine (HF.out _ B).mono ?_
    rintro e w1 ⟨rfl, b1⟩
    replace B := below_step B b1
    clear b1 HF Y
    go_wp2
    go_ret
    exact ⟨rfl, setsR.own_mono (setsR.own_keep (own_old HH.out.1) (keeps_below B)) (fun k hk => .inl hk), intsR.own_keep HH.out.2 (keeps_below B), chg_below B⟩
  · rw [hfl] at HF
    have hl15 := full_line hfl
    simp only at hl15
    have HAT : Hid (∀ W, Below w.heap.size w W → Calls Tryz.prog 67 #[.agg #[.slice a c.1.length cap, .slice v0 c.2.length cp], .int .i64 l] W fun e w' => e = .returned (.int .i64 (idxI (atC c l))) ∧ Below W.heap.size W w') := fun W hb => specAt_any a v0 c cap cp l W hok (slrd_keep hrd fun k hk => hb.block k hk)
    obtain ⟨at0, hat0⟩ : ∃ x, x = idxI (atC c l) := ⟨_, rfl⟩
    rw [← hat0] at HAT
    have HA0 : Hid (at0 = idxI (atC c l)) := hat0
    clear hat0
    obtain ⟨hp, hget, hne0, hr4, hset, hsl⟩ := ok_row hok l
    obtain ⟨t1, t2, t3, t4, t5, t6, t7⟩ := ok_tree hok l
    have hsl1 : ((setNo c l : Nat) : Int) < (c.1.length : Int) := by omega
    have hsl2 : ((setNo c l : Nat) : Int) < (c.2.length : Int) := by omega
    have hset' : l % (c.1.length : Int) = ((setNo c l : Nat) : Int) := hset.symm
    have hz : (c.1.length : Int) ≠ 0 := by omega
    have hz2 : ((c.1.length : Int) == 0) = false := beq_false_of_ne hz
    have hz3 : ¬ (c.1.length = 0) := by omega
    have hz4 : ¬ (c.1 = []) := fun e => by rw [e] at hz3; exact hz3 rfl
    have ht3 : Int.tmod l (c.1.length : Int) = ((setNo c l : Nat) : Int) := by rw [Int.tmod_eq_emod_of_nonneg (by omega), hset']
    obtain ⟨b0, o0, aj, cj, rfl, hcell, -, -, hrr⟩ := set_at hrd hget
    have HC : Hid (∀ W, Below w.heap.size w W → W.cell? ⟨b0, o0 + setNo c l, none⟩ = some (.slice aj (rowFor c l).length cj)) := fun W hb => cell_keep hb hcell (cell_lt hcell)
    have HRR : Hid (∀ W, Below w.heap.size w W → SlRd wayR W aj (rowFor c l)) := fun W hb => slrd_keep hrr fun k hk => hb.block k hk
    have HBX : Hid (∀ W, Below w.heap.size w W → W.heap[gb]? = some (.cells bc bt (0, 0))) := fun W hb => row_keep hb hbox
    have HPN : Hid (∀ k, atC c l = some k → putNo c l = some k) := fun k hk => by unfold putNo; rw [hk]
    have HPM : Hid (atC c l = none → putNo c l = (rowFor c l).findIdx? clearB) := fun hk => by unfold putNo; rw [hk]; rfl
    clear hcell hrr hset hp hne0
    have HH : Hid _ := And.intro h (And.intro h2 (And.intro hd (And.intro i1 i2)))
    have HG : Hid _ := And.intro hget (And.intro t2 (And.intro t3 t1))
    have HOK : Hid _ := hok
    have HNB : Hid _ := And.intro hnb (And.intro hnb2 hdis)
    clear h h2 hrd hd hget t1 t2 t3 t4 t5 t7 hok hnb hnb2 hdis hbox i1 i2
    go_enter Tryz.func172, Tryz.ntmps172
    go_wp2_with fail
    generalize w.alloc (.cells #[.int .i64 l, .int .i64 st, .slice ad d.length cpw] 30) = W0 at Y B ⊢
    refine (HF.out _ B).mono ?_
    rintro e w1 ⟨rfl, b1⟩
    replace B := below_step B b1
    replace Y := row_keep b1 Y
    clear b1 HF
    obtain ⟨y0, y1, y2⟩ := cells_three Y
    obtain ⟨x0, x1⟩ := cells_at2 hb0 hb1 (HBX.out _ B)
    go_wp2
    go_quiet (fail)
    have B2 : Below w.heap.size w (w1.drewN nq) := bl_drewN B nq
    have Y2 : (w1.drewN nq).heap[w.heap.size]? = some (.cells #[.int .i64 l, .int .i64 st, .slice ad d.length cpw] 30 (0, 0)) := Y
    clear y0 y1 y2 x0 x1 B Y
    generalize w1.drewN nq = w2 at B2 Y2 ⊢
    obtain ⟨y0, y1, y2⟩ := cells_three Y2
    obtain ⟨x0, x1⟩ := cells_at2 hb0 hb1 (HBX.out _ B2)
    go_wp2
    have n0 : ∀ n' : Cls (fun wx => Below w2.heap.size w2 wx), n'.w.cell? ⟨gb, 0, none⟩ = some (.slice (some ⟨b0, o0, none⟩) c.1.length cap) := fun n' => cell_keep n'.h x0 (cell_lt x0)
    have n1 : ∀ n' : Cls (fun wx => Below w2.heap.size w2 wx), n'.w.cell? ⟨gb, 1, none⟩ = some (.slice v0 c.2.length cp) := fun n' => cell_keep n'.h x1 (cell_lt x1)
    have n2 : ∀ n' : Cls (fun wx => Below w2.heap.size w2 wx), n'.w.cell? ⟨w.heap.size, 0, none⟩ = some (.int .i64 l) := fun n' => cell_keep n'.h y0 (cell_lt y0)
    have HATc : Hid (∀ n' : Cls (fun wx => Below w2.heap.size w2 wx), Calls Tryz.prog 67 #[.agg #[.slice (some ⟨b0, o0, none⟩) c.1.length cap, .slice v0 c.2.length cp], .int .i64 l] n'.w fun e w' => e = .returned (.int .i64 at0) ∧ Below n'.w.heap.size n'.w w') := fun n' => HAT.out _ (below_step B2 n'.h)
    clear x0 x1 y0 y1 y2
    refine region_class (fun wx => Below w2.heap.size w2 wx) (by kernel_rfl) (by kernel_rfl) ((Below.refl _ w2).drew) ?_
    intro hne
    repeat (quiet_step (first | (go_at_call 67; exact calls_class (HATc.out _) (fun w' hc bb => below_step hc bb))))
    refine wpQuiet_nil ?_
    intro w3 b3
    clear n0 n1 n2 hne HAT HATc
    have B := below_step B2 b3
    have Y := row_keep b3 Y2
    clear B2 Y2 b3
    go_upto_block 0 with fail
    go_cut [6] from 7 to 52 (fun q wx => q = .int .i64 (idxI (putNo c l)) ∧ Below w.heap.size w wx ∧ wx.heap[w.heap.size]? = some (.cells #[.int .i64 l, .int .i64 st, .slice ad d.length cpw] 30 (0, 0)))
    case first =>
      go_wp2
      go_loopw [6, 7] (fun q i wr => ∃ k : Nat, k ≤ (rowFor c l).length ∧ i = .int .i64 k ∧ ((q = .int .i64 (-1) ∧ atC c l = none ∧ ∀ j v, j < k → (rowFor c l)[j]? = some v → clearB v = false) ∨ ∃ f : Nat, q = .int .i64 f ∧ putNo c l = some f) ∧ Below w.heap.size w wr ∧ wr.heap[w.heap.size]? = some (.cells #[.int .i64 l, .int .i64 st, .slice ad d.length cpw] 30 (0, 0))) (fun _ i _ => (rowFor c l).length - (intOf i).toNat)
      case atStart =>
        refine ⟨0, Nat.zero_le _, rfl, ?_, B, Y⟩
        cases hat : atC c l with
        | none => exact .inl ⟨by rw [HA0.out, hat]; rfl, rfl, fun j v hj => by omega⟩
        | some f => exact .inr ⟨f, by rw [HA0.out, hat]; rfl, HPN.out f hat⟩
      case round =>
        clear B Y
        obtain ⟨k, hk, rfl, hq, B, Y⟩ := hrel
        obtain ⟨x0, x1⟩ := cells_at2 hb0 hb1 (HBX.out _ B)
        have g0 := HC.out _ B
        rcases hq with ⟨rfl, hnone, hno⟩ | ⟨f, rfl, hpf⟩
        · by_cases hlt : k < (rowFor c l).length
          · have hlt' : (k : Int) < ((rowFor c l).length : Int) := by omega
            obtain ⟨v, hv⟩ : ∃ v, (rowFor c l)[k]? = some v := ⟨_, List.getElem?_eq_getElem hlt⟩
            obtain ⟨bk, ok, cs, rfl, hrd, hcell⟩ := slrd_at (HRR.out _ B) hv
            obtain ⟨av, cpv, rfl, -, -, hd1, hd2, -⟩ := way_rd hrd
            have y0 := hcell 0 _ rfl
            have y1 := hcell 1 _ rfl
            have y2 := hcell 2 _ rfl
            rw [show ok + (k * wayR.size + 0) = ok + k * 3 from rfl] at y0
            rw [show ok + (k * wayR.size + 1) = ok + k * 3 + 1 from rfl] at y1
            rw [show ok + (k * wayR.size + 2) = ok + k * 3 + 2 from rfl] at y2
            have HVV : Hid ((rowFor c l)[k]? = some v) := hv
            obtain ⟨vl, vs, vd⟩ := v
            simp only at y0 y1 y2 hd1
            have hd4 : vd.length ≤ maxLen := Nat.le_trans hd1 hd2
            clear hcell hrd hv hd1 hd2
            have HE := l6Clear_any vl vs av vd.length cpv wr hd4
            rw [clr_eq (vl, vs, vd)] at HE
            cases hcl : clearB (vl, vs, vd)
            · rw [hcl] at HE
              go_wp2_with fail
              refine HE.mono ?_
              rintro e w2 ⟨rfl, b2⟩
              replace B := below_step B b2
              replace Y := row_keep b2 Y
              clear b2 HE x0 x1 y0 y1 y2 g0
              go_wp2
              go_roundw
              case rel =>
                refine ⟨k + 1, by omega, by go_num, .inl ⟨rfl, hnone, fun j v hj hv => ?_⟩, B, Y⟩
                by_cases he : j < k
                · exact hno j v he hv
                · have : j = k := by omega
                  subst this
                  rw [HVV.out] at hv
                  cases hv
                  exact hcl
              case measure => simp [intOf]; omega
            · rw [hcl] at HE
              have HPK : Hid (putNo c l = some k) := by unfold Hid; rw [HPM.out hnone]; exact idx_first HVV.out hcl hno
              go_wp2_with fail
              refine HE.mono ?_
              rintro e w2 ⟨rfl, b2⟩
              replace B := below_step B b2
              replace Y := row_keep b2 Y
              clear b2 HE x0 x1 y0 y1 y2 g0
              go_wp2
              go_roundw
              case rel => exact ⟨k + 1, by omega, by go_num, .inr ⟨k, rfl, HPK.out⟩, B, Y⟩
              case measure => simp [intOf]; omega
          · have hlt' : ¬ (k : Int) < ((rowFor c l).length : Int) := by omega
            have HPK : Hid (putNo c l = none) := by unfold Hid; rw [HPM.out hnone]; exact idx_never fun j v hv => hno j v (by have := (List.getElem?_eq_some_iff.1 hv).1; omega) hv
            go_wp2
            go_meet
            exact ⟨by rw [HPK.out]; rfl, B, Y⟩
        · have hf0 : ¬ ((f : Int) < 0) := by omega
          by_cases hlt : k < (rowFor c l).length
          · have hlt' : (k : Int) < ((rowFor c l).length : Int) := by omega
            go_wp2
            go_meet
            exact ⟨by rw [hpf]; rfl, B, Y⟩
          · have hlt' : ¬ (k : Int) < ((rowFor c l).length : Int) := by omega
            go_wp2
            go_meet
            exact ⟨by rw [hpf]; rfl, B, Y⟩
    case rest =>
      clear B Y
      obtain ⟨rfl, B, Y⟩ := hcut
      cases hpn : putNo c l with
      | none =>
        have HFN : Hid (fillI c (l, st, d) = (c, false)) := fill_none (u := (l, st, d)) HOK.out hpn
        have hneg : idxI none < 0 := by decide
        go_wp2
        go_ret
        rw [HFN.out]
        exact ⟨rfl, setsR.own_mono (setsR.own_keep (own_old HH.out.1) (keeps_below B)) (fun k hk => .inl hk), intsR.own_keep HH.out.2.1 (keeps_below B), chg_below B⟩
      | some fi =>
        have HFA : Hid (fillI c (l, st, d) = (fillX touI c (l, st, d) fi, true)) := fill_at HOK.out hfl hpn
        have hidx : idxI (some fi) = (fi : Int) := rfl
        rw [hidx]
        have hfi0 : ¬ ((fi : Int) < 0) := by omega
        obtain ⟨uw, huw⟩ := put_lt hpn
        have hfrow := (List.getElem?_eq_some_iff.1 huw).1
        have hfi : ((fi : Nat) : Int) < ((rowFor c l).length : Int) := by omega
        obtain ⟨g, cap', g2, cap2, e0, hcell, hSg, hSg2, hneg2, hgl9, hg2l, -⟩ := own_put_at (own_old HH.out.1) HG.out.1 huw
        simp only [Value.slice.injEq, Option.some.injEq, Addr.mk.injEq, and_true, true_and] at e0
        obtain ⟨⟨rfl, rfl⟩, rfl⟩ := e0
        have HUW : Hid _ := huw
        have HS : Hid (Old w S g2) := hSg2
        have n0 : gb ≠ g2 := fun e => HNB.out.1 (e ▸ hSg2.1)
        have n1 : w.heap.size ≠ g2 := by have := hSg2.2; omega
        have HQ : Hid (w.cell? ⟨b0, setNo c l, none⟩ = some (.slice (some ⟨g2, 0, none⟩) (rowFor c l).length cap2)) := hcell
        have HB : Hid _ := B
        have HY : Hid _ := Y
        clear hcell huw hSg hSg2 hpn HPN HPM HA0 HRR HC
        obtain ⟨x0, x1⟩ := cells_at2 hb0 hb1 (HBX.out _ B)
        obtain ⟨y0, y1, y2⟩ := cells_three Y
        have q0 := cell_keep B HQ.out hgl9
        have hs1 := B.size
        have lw := (Array.getElem?_eq_some_iff.1 Y).1
        clear B Y
        go_wp2
        have H' : setsR.own wc.drew (Old w S) [.slice (some ⟨b0, 0, none⟩) c.1.length cap] c.1 := setsR.own_keep (own_old HH.out.1) (keeps_below HB.out.drew)
        obtain ⟨g', cap', g2', cap2', e1, hcell', -, -, -, -, -, st8⟩ := own_put_at H' HG.out.1 HUW.out
        simp only [Value.slice.injEq, Option.some.injEq, Addr.mk.injEq, and_true, true_and] at e1
        obtain ⟨rfl, -⟩ := e1
        have hcq : wc.drew.cell? ⟨b0, setNo c l, none⟩ = some (.slice (some ⟨g2, 0, none⟩) (rowFor c l).length cap2) := q0
        rw [hcq] at hcell'
        simp only [Option.some.injEq, Value.slice.injEq, Addr.mk.injEq, and_true, true_and] at hcell'
        obtain ⟨rfl, -⟩ := hcell'
        have ST : Hid _ := st8
        clear H' st8 hcq
        go_cut [55, 56, 57, 58, 59, 60, 61, 62, 63, 64, 65] (fun _ _ _ _ _ _ _ _ _ _ _ wx => setsR.own wx (fun k => Old w S k ∨ (w.heap.size ≤ k ∧ k < wx.heap.size)) [.slice (some ⟨b0, 0, none⟩) c.1.length cap] (c.1.set (setNo c l) ((rowFor c l).set fi (l, st, d))) ∧ Chg (Old w S) w wx)
        case first =>
          go_region_held3 (fun wx => wx.cell? ⟨gb, 0, none⟩ = some (.slice (some ⟨b0, 0, none⟩) c.1.length cap) ∧ wx.cell? ⟨b0, setNo c l, none⟩ = some (.slice (some ⟨g2, 0, none⟩) (rowFor c l).length cap2) ∧ wx.cell? ⟨w.heap.size, 0, none⟩ = some (.int .i64 l) ∧ wx.cell? ⟨w.heap.size, 1, none⟩ = some (.int .i64 st) ∧ wx.cell? ⟨w.heap.size, 2, none⟩ = some (.slice ad d.length cpw)) (first | (go_keep; done) | (exact ⟨set3_cell n0 x0', set3_cell hneg2 q0', set3_cell n1 y0', set3_cell n1 y1', set3_cell n1 y2'⟩)) (first | (go_at_call 71; refine (l6CopyWay_any l st d ad cpw _ HH.out.2.2.2.1 HH.out.2.2.2.2 (slrd_keep HH.out.2.2.1 fun k hk => HB.out.drew.block k hk) hdl).mono ?_; rintro e w9 ⟨av, cv, rfl, mm⟩; obtain ⟨⟨cur, hcur, hcs⟩, OW, CH⟩ := ST.out w9 _ _ _ _ mm; have X := row_keep (w := wc.drew) mm.2 (HBX.out _ HB.out.drew); obtain ⟨x0', x1'⟩ := cells_at2 hb0 hb1 X; have Y9 := row_keep (w := wc.drew) mm.2 HY.out; obtain ⟨y0', y1', y2'⟩ := cells_three Y9; have q0' := cell_keep (w := wc.drew) mm.2 (by exact q0) (Nat.lt_of_lt_of_le hgl9 hs1); have c0 : w9.cell? ⟨g2, fi * 3, none⟩ = cur[fi * 3]? := cell_of_row w9 g2 (fi * 3) _ _ (0, 0) hcur; have c1 : w9.cell? ⟨g2, fi * 3 + 1, none⟩ = cur[fi * 3 + 1]? := cell_of_row w9 g2 (fi * 3 + 1) _ _ (0, 0) hcur; have c2 : w9.cell? ⟨g2, fi * 3 + 2, none⟩ = cur[fi * 3 + 2]? := cell_of_row w9 g2 (fi * 3 + 2) _ _ (0, 0) hcur; rw [Array.getElem?_eq_getElem (by omega)] at c0 c1 c2; have f0' := frozen_of_row w9 g2 (fi * 3) _ _ hcur; have f1' := frozen_of_row w9 g2 (fi * 3 + 1) _ _ hcur; have f2' := frozen_of_row w9 g2 (fi * 3 + 2) _ _ hcur; have mms : wc.heap.size ≤ w9.heap.size := mm.2.size))
          all_goals
            go_wp2_with fail
            go_meet
            refine ⟨setsR.own_mono OW ?_, ?_⟩
            · rintro k (h | h)
              · exact .inl h.1
              · exact .inr ⟨by have : wc.heap.size ≤ k := h.1; omega, by have := h.2; have e := set3_size (w := w9) (g := g2) (o := fi * 3) (x := .int .i64 l) (y := .int .i64 st) (z := .slice av d.length cv); unfold set3 at e; omega⟩
            · have a1 : Chg (Old w S) w wc.drew := chg_below HB.out.drew
              exact a1.trans (CH.mono fun k hk => by have e : k = g2 := hk; rw [e]; exact HS.out)
        case rest =>
          clear x0 x1 y0 y1 y2 q0 ST HY HB n0 n1 hs1 lw
          obtain ⟨O1, CH⟩ := hcut
          have zc := CH.size
          obtain ⟨gt, cpt, ev, hSt, hgtl, -, -⟩ := own_num HH.out.2.1 HG.out.2.1
          simp only [Value.slice.injEq, true_and] at ev
          obtain ⟨rfl, rfl⟩ := ev
          have XB : wc.heap[gb]? = some (.cells bc bt (0, 0)) := (CH.block gb hgl (fun h => HNB.out.1 h.1)).trans (HBX.out w (Below.refl _ _))
          have O2 := own_chg HH.out.2.1 CH (fun x h1 h2 => HNB.out.2.2 x h2.1 h1)
          obtain ⟨gt', cpt', ev, -, -, htc, step⟩ := own_num O2 HG.out.2.1
          simp only [Value.slice.injEq, Option.some.injEq, Addr.mk.injEq, and_true, true_and] at ev
          obtain ⟨rfl, rfl⟩ := ev
          have hr0 : (c.1.set (setNo c l) ((rowFor c l).set fi (l, st, d)))[setNo c l]? = some ((rowFor c l).set fi (l, st, d)) := by rw [List.getElem?_set_self hsl]
          have hr1 : ((rowFor c l).set fi (l, st, d))[fi]? = some (l, st, d) := by rw [List.getElem?_set_self hfrow]
          obtain ⟨g3, cap3, g4, cap4, e3, hrc, -, -, -, hb0l, -, -⟩ := own_put_at O1 hr0 hr1
          simp only [Value.slice.injEq, Option.some.injEq, Addr.mk.injEq, and_true] at e3
          obtain ⟨rfl, -, -⟩ := e3
          rw [List.length_set] at hrc
          have hm := HG.out.2.2.2
          have HT : Hid (∀ W, Calls Tryz.prog 201 #[.int .i64 (treeFor c l), .int .i64 ((rowFor c l).length : Int), .int .i64 (fi : Int)] W fun e w' => e = .returned (.int .i64 (touI (treeFor c l) (rowFor c l).length fi)) ∧ w' = W) := fun W => l5Touched_in W (by rw [hm]; exact HG.out.2.2.1) hfrow
          have hy : In64 (touI (treeFor c l) (rowFor c l).length fi) := tree_in64 (tou_ok (by rw [hm]; exact HG.out.2.2.1) (by omega) (by omega))
          have HFB : Hid (fillI c (l, st, d) = ((c.1.set (setNo c l) ((rowFor c l).set fi (l, st, d)), c.2.set (setNo c l) (touI (treeFor c l) (rowFor c l).length fi)), true)) := HFA.out
          clear HFA hm
          generalize touI (treeFor c l) (rowFor c l).length fi = y at HT hy HFB
          generalize treeFor c l = tr at HT htc step
          have ST : Hid _ := step
          have HO : Hid _ := And.intro O1 CH
          obtain ⟨x0, x1⟩ := cells_at2 hb0 hb1 XB
          have m0 : ∀ n' : Cls (fun wx => Below wc.heap.size wc wx), n'.w.cell? ⟨gb, 0, none⟩ = some (.slice (some ⟨b0, 0, none⟩) c.1.length cap) := fun n' => cell_keep n'.h x0 (cell_lt x0)
          have m1 : ∀ n' : Cls (fun wx => Below wc.heap.size wc wx), n'.w.cell? ⟨gb, 1, none⟩ = some (.slice (some ⟨gt, 0, none⟩) c.2.length cp) := fun n' => cell_keep n'.h x1 (cell_lt x1)
          have m2 : ∀ n' : Cls (fun wx => Below wc.heap.size wc wx), n'.w.cell? ⟨b0, setNo c l, none⟩ = some (.slice (some ⟨g4, 0, none⟩) (rowFor c l).length cap4) := fun n' => cell_keep n'.h hrc hb0l
          have m3 : ∀ n' : Cls (fun wx => Below wc.heap.size wc wx), n'.w.cell? ⟨gt, setNo c l, none⟩ = some (.int .i64 tr) := fun n' => cell_keep n'.h htc (cell_lt htc)
          clear x0 x1 XB step O1 CH O2 htc hrc hr0 hr1 HBX HH HG HOK HQ HUW
          go_wp2
          refine region_last (fun wx => Below wc.heap.size wc wx) (by kernel_rfl) (by kernel_rfl) (by kernel_rfl) (by simp) ((Below.refl _ wc).drew) ?_
          intro hne
          dsimp only [List.dropLast, lastO]
          repeat (quiet_step (first | (go_at_call 201; exact calls_class_same (HT.out _))))
          refine wpQuiet_nil ?_
          intro wx b2
          clear m0 m1 m2 m3 hne HT
          obtain ⟨r0, r1, r2, r3⟩ := ST.out wx y b2 hy
          have HR : Hid _ := And.intro r2 r3
          clear r2 r3 ST
          unfold Oper.wp
          go_simp
          go_wp2
          go_ret
          rw [HFB.out]
          obtain ⟨O1, CH⟩ := HO.out
          refine ⟨rfl, setsR.own_mono (own_setC (setsR.own_keep O1 (keeps_below b2)) ?_) ?_, HR.out.1, Chg.trans (CH.mono fun k hk => .inl hk) (HR.out.2.mono fun k hk => .inr ?_)⟩
          · rintro (h | h)
            · exact HNB.out.2.2 _ h.1 hSt
            · have := h.1
              omega
          · rintro k (h | h)
            · exact .inl h
            · have := b2.size
              exact .inr ⟨h.1, by have := h.2; simp; omega⟩
          · have e : k = gt := hk
            rw [e]
            exact hSt
end Go.Proofs.YthbclkpmgcfdnaaGreatDoor
