import Derived.Test.YtglejdilghcbaaaGreatDoorP00Box
import Derived.Test.YtglejdilghcbaaaGreatDoorP48
namespace Go.Proofs.YtglejdilghcbaaaGreatDoor
set_option maxHeartbeats 4000000
set_option maxRecDepth 20000
open Go.ChangeShapes Go.WideShapes Go.ChangeAt Go.RowKit
set_option linter.unusedVariables false
theorem specFab_u (cs : List Value) (x : FabricD) (w : World) (h : fabricR.rd w cs x) (hbk : fabricM.bk x ≤ 1048576) :
    Calls Tryz.prog 14 #[aggV cs] w fun e w' => e = .returned (.bool (fabI x)) ∧ Bl w w' := by
 rw [← fab_eq];exact specFabricOk_u cs x w h hbk
set_option linter.unusedSimpArgs false
theorem fab_sm {x : FabricD} (h : fabricM.bk x ≤ 1048576) : (x.2.2.2.2.2.length ≤ 1048576 ∧ ∀ u ∈ x.2.2.2.2.2, u.2.2.2.2.1.length ≤ 1048576) ∧ x.2.2.2.1.1.length ≤ 1048576 ∧ (∀ d ∈ x.2.2.2.1.1, d.2.2.2.length ≤ 1048576) ∧ ∀ d ∈ x.2.2.2.1.2.2.2, d.length ≤ 1048576 := by
 have e : fabricM.bk x = 0 + (houseM.bk x.2.1 + (coresM.bk x.2.2.1 + (dmaM.bk x.2.2.2.1 + (msgsM.bk x.2.2.2.2.1 + eventsM.bk x.2.2.2.2.2)))) := rfl;have e2 : dmaM.bk x.2.2.2.1 = descsM.bk x.2.2.2.1.1 + (0 + (0 + rowsM.bk x.2.2.2.1.2.2.2)) := rfl;have e3 : descsM.bk x.2.2.2.1.1 = x.2.2.2.1.1.length + sumbk descM x.2.2.2.1.1 := rfl;refine ⟨ev_small (by omega), by omega, fun d hd => ?_, fun d hd => ?_⟩
 ·have := bk_in (M := descM) hd;have e4 : descM.bk d = 0 + (0 + (0 + intsM.bk d.2.2.2)) := rfl;have a : (slM descM).bk x.2.2.2.1.1 = descsM.bk x.2.2.2.1.1 := rfl;have := ints_bk d.2.2.2;omega
 ·have := bk_in (M := intsM) hd;have a : (slM intsM).bk x.2.2.2.1.2.2.2 = rowsM.bk x.2.2.2.1.2.2.2 := rfl;have := ints_bk d;omega
theorem by_mem {a : Int} {xs : List EventD} {u : EventD} (h : u ∈ byA a xs) : u ∈ xs := by unfold byA at h; exact (List.mem_filter.1 h).1
theorem inOrder_u (x : FabricD) (a1 : Option Addr) (c1 : Nat) (b1 : Option Addr) (d1 : Nat) (a2 : Option Addr) (c2 : Nat) (a3 : Option Addr) (c3 : Nat) (b3 : Option Addr) (d3 : Nat) (a4 : Option Addr) (c4 : Nat) (a5 : Option Addr) (c5 : Nat) (w : World) (R : FabRd w x a1 c1 b1 d1 a2 c2 a3 c3 b3 d3 a4 c4 a5 c5) (hf : fabI x = true) (hbk : fabricM.bk x ≤ 1048576) :
    Calls Tryz.prog 24 #[.agg #[nI x.1.1, nI x.1.2.1, nI x.1.2.2.1, nI x.1.2.2.2, sL a1 x.2.1.1.length c1, sL b1 x.2.1.2.length d1, sL a2 x.2.2.1.length c2, sL a3 x.2.2.2.1.1.length c3, nI x.2.2.2.1.2.1, .bool x.2.2.2.1.2.2.1, sL b3 x.2.2.2.1.2.2.2.length d3, sL a4 x.2.2.2.2.1.length c4, sL a5 x.2.2.2.2.2.length c5]] w fun e w' => e = .returned (.bool (inI x)) ∧ Bl w w' := by
 obtain ⟨⟨M, D⟩, y, L, K⟩ := fab_sm hbk;obtain ⟨-, p0, p1, -, pw⟩ := fab_dma18 hf;have RR : Hid (∀ W, Bl w W → SlRd coreR W a2 x.2.2.1) := fun W hb => (fab_next R hb).cores;have U : Hid (∀ u, u ∈ x.2.2.1 → 0 ≤ u.2.2.1 ∧ u.2.2.1 ≤ (u.2.1.length : Int)) := fun u hu => ⟨(fab_place hf hu).1, (fab_place hf hu).2.1⟩;have NA : x.2.2.1.length ≤ 4 := by
  obtain ⟨⟨BA, FA⟩, CA, -⟩ := fab_facts hf;omega
 have J : Hid (∀ (k : Int) W, Bl w W → Calls Tryz.prog 60 #[sL a5 x.2.2.2.2.2.length c5, nI k] W fun e w' => ∃ v, e = .returned v ∧ MadeR eventsR W w' [v] (byA k x.2.2.2.2.2)) := fun k W hb => implBy_any a5 x.2.2.2.2.2 c5 k W (fab_next R hb).evs M D;have bA : Hid (∀ (k : Int) (f : Option Addr) (d : Nat) W, Bl w W → SlRd eventR W f (byA k x.2.2.2.2.2) → (byA k x.2.2.2.2.2).length ≤ d → d ≤ maxLen → Calls Tryz.prog 61 #[.agg #[sL a3 x.2.2.2.1.1.length c3, nI x.2.2.2.1.2.1, .bool x.2.2.2.1.2.2.1, sL b3 x.2.2.2.1.2.2.2.length d3], sL f (byA k x.2.2.2.2.2).length d] W fun e w' => e = .returned (.bool (dmaW x.2.2.2.1 (byA k x.2.2.2.2.2))) ∧ Bl W w') := fun k f d W hb q A r => dmaHasW_any x.2.2.2.1 (byA k x.2.2.2.2.2) a3 b3 f c3 d3 d W (fab_next R hb).dma q (Nat.le_trans A r) p0 p1 (fun u hu => D u (by_mem hu)) L K pw y A r;have s : Hid ((∀ (i : Nat) u, x.2.2.1[i]? = some u → coreDone u (byA (i : Int) x.2.2.2.2.2) = true) → dmaW x.2.2.2.1 (byA 5 x.2.2.2.2.2) = inI x) := fun q => (in_end hf q).symm;have B := Below.refl w.heap.size w;clear R hf hbk M D y L K p0 p1 pw;go_enter Tryz.func24, Tryz.ntmps24;go_upto_region 1 with fail
 generalize c : w.alloc _ = u1w;have F := boxH c;have bz := boxB c;have zF := boxL c;clear c;replace B := below_step B bz;clear bz zF;have HF : Hid _ := F;obtain ⟨Fc0, Fc1, Fc2, Fc3, Fc4, Fc5, Fc6, Fc7, Fc8, Fc9, Fc10, Fc11, Fc12⟩ := cells_fabric F;have Flt := (ltH F);clear F;go_wp2;clear Fc0 Fc1 Fc2 Fc3 Fc4 Fc5 Fc6 Fc7 Fc8 Fc9 Fc10 Fc11 Fc12 Flt;go_loopw [8] (fun i wr => ∃ k : Nat, k ≤ x.2.2.1.length ∧ i = nI k ∧ (∀ (j : Nat) u, j < k → x.2.2.1[j]? = some u → coreDone u (byA (j : Int) x.2.2.2.2.2) = true) ∧ Bl w wr ∧ wr.heap[w.heap.size]? = some (.cells #[nI x.1.1, nI x.1.2.1, nI x.1.2.2.1, nI x.1.2.2.2, sL a1 x.2.1.1.length c1, sL b1 x.2.1.2.length d1, sL a2 x.2.2.1.length c2, sL a3 x.2.2.2.1.1.length c3, nI x.2.2.2.1.2.1, .bool x.2.2.2.1.2.2.1, sL b3 x.2.2.2.1.2.2.2.length d3, sL a4 x.2.2.2.2.1.length c4, sL a5 x.2.2.2.2.2.length c5] 49 (0, 0))) (fun i _ => x.2.2.1.length - (intOf i).toNat)
 case atStart => exact ⟨0, Nat.zero_le _, rfl, fun j u hj => by omega, B, HF.out⟩
 case round =>
  clear B HF;obtain ⟨k, hk, rfl, n, a, F⟩ := hrel;by_cases jA : k < x.2.2.1.length
  ·have kA : (k : Int) < (x.2.2.1.length : Int) := by omega
   obtain ⟨u, N⟩ : ∃ u, x.2.2.1[k]? = some u := ⟨_, List.getElem?_eq_getElem jA⟩;have C := U.out u (List.mem_of_getElem? N);obtain ⟨bb, T, cs, ra, l, m⟩ := slrd_at (RR.out _ a) N;have o : Hid (∀ (f : Option Addr) (d : Nat) W, Bl wr W → SlRd eventR W f (byA (k : Int) x.2.2.2.2.2) → (byA (k : Int) x.2.2.2.2.2).length ≤ maxLen → Calls Tryz.prog 59 #[aggV cs, sL f (byA (k : Int) x.2.2.2.2.2).length d] W fun e w' => e = .returned (.bool (coreDone u (byA (k : Int) x.2.2.2.2.2))) ∧ Bl W w') := fun f d W hb q M => coreHas_any cs u (byA (k : Int) x.2.2.2.2.2) f d W (rd_next l hb) q M C.1 C.2;obtain ⟨S, Y, gb, Z, ha, hc, ia, ic, ja, O, rfl⟩ := core_shape l;rw [aE] at o;obtain ⟨x0, x1, x2, x3, x4, x5, x6, x7, x8⟩ := cellsAt9 m rfl;subst ra;have HX : Hid _ := N;have E : Hid _ := n;have X := heap_at wr (.cells #[sL S u.1.1.length Y, sL gb u.1.2.length Z, sL ha u.2.1.length hc, nI u.2.2.1, nI u.2.2.2.1, nI u.2.2.2.2.1.1, nI u.2.2.2.2.1.2.1, sL ia u.2.2.2.2.1.2.2.length ic, sL ja u.2.2.2.2.2.length O] 66);have p := box_below wr (.cells #[sL S u.1.1.length Y, sL gb u.1.2.length Z, sL ha u.2.1.length hc, nI u.2.2.1, nI u.2.2.2.1, nI u.2.2.2.2.1.1, nI u.2.2.2.2.1.2.1, sL ia u.2.2.2.2.1.2.2.length ic, sL ja u.2.2.2.2.2.length O] 66);clear m l N n C;go_upto_region 4 with fail
   clear x0 x1 x2 x3 x4 x5 x6 x7 x8;replace a := below_step a p;replace F := row_keep p F;generalize wr.alloc (.cells #[sL S u.1.1.length Y, sL gb u.1.2.length Z, sL ha u.2.1.length hc, nI u.2.2.1, nI u.2.2.2.1, nI u.2.2.2.2.1.1, nI u.2.2.2.2.1.2.1, sL ia u.2.2.2.2.1.2.2.length ic, sL ja u.2.2.2.2.2.length O] 66) = wv at X p a F ⊢;generalize hs : coreDone u (byA (k : Int) x.2.2.2.2.2) = b at o;have HS : Hid _ := hs;clear hs;go_cut [19] (fun q wx => q = .bool (!b) ∧ Bl w wx ∧ wx.heap[w.heap.size]? = some (.cells #[nI x.1.1, nI x.1.2.1, nI x.1.2.2.1, nI x.1.2.2.2, sL a1 x.2.1.1.length c1, sL b1 x.2.1.2.length d1, sL (some ⟨bb, T, none⟩) x.2.2.1.length c2, sL a3 x.2.2.2.1.1.length c3, nI x.2.2.2.1.2.1, .bool x.2.2.2.1.2.2.1, sL b3 x.2.2.2.1.2.2.2.length d3, sL a4 x.2.2.2.2.1.length c4, sL a5 x.2.2.2.2.2.length c5] 49 (0, 0)))
   case first =>
    replace a := a.drew;replace p := p.drew;have Xc := cells_core X;have Fc := cells_fabric F
    go_region_with (first
     | (go_at_call 60; refine (J.out k _ a).mono ?_; rintro e w9 ⟨v, rfl, g⟩; clear Xc Fc; replace a := below_step a g.2; replace p := below_step p g.2; replace F := row_keep g.2 F; replace X := row_keep g.2 X; obtain ⟨f, d, H, A, r, q⟩ := eventsR.own_rd g.1; simp only [List.cons.injEq, and_true] at H; subst H; have G := o.out f d w9 p q (Nat.le_trans A r); have Xc := cells_core X; have Fc := cells_fabric F; clear g q A r)
     | (go_at_call 59; refine G.mono ?_; rintro e w8 ⟨rfl, z⟩; clear Xc Fc; replace a := below_step a z; replace F := row_keep z F; replace X := row_keep z X; have Xc := cells_core X; have Fc := cells_fabric F; clear z G)
     | fail)
    all_goals
     go_wp2_with fail
     go_meet
     exact ⟨rfl, a, F⟩
   case rest =>
    clear a F X p o;obtain ⟨rfl, a, F⟩ := hcut;generalize wc = u5w at a F ⊢;cases b
    ·have HN : Hid (inI x = false) := in_core_no HX.out HS.out;have I : Hid _ := a;clear E a F;go_wp2;go_ret
     exact ⟨ret_bool HN.out.symm, I.out⟩
    ·have I : Hid _ := aI a F;clear a F;go_wp2;go_roundw
     case rel =>
      refine ⟨k + 1, by omega, by go_num, fun j u' hj hu' => ?_, I.out⟩;by_cases V : j < k
      ·exact E.out j u' V hu'
      ·have : j = k := by omega
       subst this;rw [HX.out] at hu';cases hu'
       exact HS.out
     case measure => simp [intOf]; omega
  ·have IA : k = x.2.2.1.length := by omega
   have HV : Hid _ := s.out fun i u hu => n i u (by have := (List.getElem?_eq_some_iff.1 hu).1; omega) hu;clear n s;go_upto_region 7 with fail
   replace a := a.drew;have Fc := cells_fabric F
   go_region_with (first
    | (go_at_call 60; refine (J.out 5 _ a).mono ?_; rintro e w9 ⟨v, rfl, g⟩; clear Fc; replace a := below_step a g.2; replace F := row_keep g.2 F; obtain ⟨f, d, H, A, r, q⟩ := eventsR.own_rd g.1; simp only [List.cons.injEq, and_true] at H; subst H; have G := bA.out 5 f d w9 a q A r; have Fc := cells_fabric F; clear g q A r)
    | (go_at_call 61; refine G.mono ?_; rintro e w8 ⟨rfl, z⟩; clear Fc; replace a := below_step a z; replace F := row_keep z F; have Fc := cells_fabric F; clear z G)
    | fail)
   all_goals
    have I : Hid _ := a;clear a F Fc;go_wp2;go_ret
    exact ⟨ret_bool HV.out, I.out⟩
theorem implInOrder_any (x : FabricD) (a1 : Option Addr) (c1 : Nat) (b1 : Option Addr) (d1 : Nat) (a2 : Option Addr) (c2 : Nat) (a3 : Option Addr) (c3 : Nat) (b3 : Option Addr) (d3 : Nat) (a4 : Option Addr) (c4 : Nat) (a5 : Option Addr) (c5 : Nat) (w : World) (R : FabRd w x a1 c1 b1 d1 a2 c2 a3 c3 b3 d3 a4 c4 a5 c5) (hh : Hold w) (hbk : fabricM.bk x ≤ 1048576) :
    Calls Tryz.prog 7 #[.agg #[nI x.1.1, nI x.1.2.1, nI x.1.2.2.1, nI x.1.2.2.2, sL a1 x.2.1.1.length c1, sL b1 x.2.1.2.length d1, sL a2 x.2.2.1.length c2, sL a3 x.2.2.2.1.1.length c3, nI x.2.2.2.1.2.1, .bool x.2.2.2.1.2.2.1, sL b3 x.2.2.2.1.2.2.2.length d3, sL a4 x.2.2.2.2.1.length c4, sL a5 x.2.2.2.2.2.length c5]] w fun e w' => e = .returned (.bool (inI x)) ∧ Bl w w' := by
 have g : Hid _ := fun (W : World) (hb : Bl w W) => implFabricOk_any x a1 c1 b1 d1 a2 c2 a3 c3 b3 d3 a4 c4 a5 c5 W (fab_next R hb) (hh.goes hb);have B := Below.refl w.heap.size w;cases f : fabI x
 ·have m : Hid (inI x = false) := by unfold Hid inI; rw [f]; rfl
  rw [f] at g;clear R hh;go_enter Tryz.func7, Tryz.ntmps7;go_upto_region 1 with fail
  generalize a : w.alloc _ = u1w;have F := boxH a;have d := boxB a;have i := boxL a;clear a;replace B := below_step B d;clear d i;obtain ⟨Fc0, Fc1, Fc2, Fc3, Fc4, Fc5, Fc6, Fc7, Fc8, Fc9, Fc10, Fc11, Fc12⟩ := cells_fabric F;have Flt := (ltH F);go_wp2_with fail
  clear Fc0 Fc1 Fc2 Fc3 Fc4 Fc5 Fc6 Fc7 Fc8 Fc9 Fc10 Fc11 Fc12 Flt;refine (g.out _ B).mono ?_;rintro e j ⟨rfl, c⟩;replace B := below_step B c;replace F := row_keep c F;clear c;obtain ⟨Fc0, Fc1, Fc2, Fc3, Fc4, Fc5, Fc6, Fc7, Fc8, Fc9, Fc10, Fc11, Fc12⟩ := cells_fabric F;have Flt := (ltH F);have k : Hid _ := B;clear B F;go_wp2;go_ret
  exact ⟨ret_bool m.out.symm, k.out⟩
 ·have l : Hid _ := fun (W : World) (hb : Bl w W) => inOrder_u x a1 c1 b1 d1 a2 c2 a3 c3 b3 d3 a4 c4 a5 c5 W (fab_next R hb) f hbk;rw [f] at g;clear R hh;generalize inI x = b at l ⊢;go_enter Tryz.func7, Tryz.ntmps7;go_upto_region 1 with fail
  generalize a : w.alloc _ = u1w;have F := boxH a;have d := boxB a;have i := boxL a;clear a;replace B := below_step B d;clear d i;obtain ⟨Fc0, Fc1, Fc2, Fc3, Fc4, Fc5, Fc6, Fc7, Fc8, Fc9, Fc10, Fc11, Fc12⟩ := cells_fabric F;have Flt := (ltH F);go_wp2_with fail
  clear Fc0 Fc1 Fc2 Fc3 Fc4 Fc5 Fc6 Fc7 Fc8 Fc9 Fc10 Fc11 Fc12 Flt;refine (g.out _ B).mono ?_;rintro e j ⟨rfl, c⟩;replace B := below_step B c;replace F := row_keep c F;clear c;obtain ⟨Fc0, Fc1, Fc2, Fc3, Fc4, Fc5, Fc6, Fc7, Fc8, Fc9, Fc10, Fc11, Fc12⟩ := cells_fabric F;have Flt := (ltH F);go_wp2_with fail
  clear Fc0 Fc1 Fc2 Fc3 Fc4 Fc5 Fc6 Fc7 Fc8 Fc9 Fc10 Fc11 Fc12 Flt;refine (l.out _ B).mono ?_;rintro e n ⟨rfl, c⟩;replace B := below_step B c;replace F := row_keep c F;clear c;obtain ⟨Fc0, Fc1, Fc2, Fc3, Fc4, Fc5, Fc6, Fc7, Fc8, Fc9, Fc10, Fc11, Fc12⟩ := cells_fabric F;have Flt := (ltH F);have k : Hid _ := B;clear B F;go_wp2;go_ret
  exact ⟨ret_bool (by simp), k.out⟩
end Go.Proofs.YtglejdilghcbaaaGreatDoor
