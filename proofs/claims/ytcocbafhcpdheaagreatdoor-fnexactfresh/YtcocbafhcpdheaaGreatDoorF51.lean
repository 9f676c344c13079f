import Derived.Test.YtcocbafhcpdheaaGreatDoorF00Box
import Derived.Test.YtcocbafhcpdheaaGreatDoorF50
namespace Go.Proofs.YtcocbafhcpdheaaGreatDoor
set_option maxHeartbeats 16000000
set_option maxRecDepth 20000
open Go.ChangeShapes Go.WideShapes Go.ChangeAt Go.RowKit
set_option linter.unusedVariables false
set_option linter.unusedSimpArgs false
theorem equalI_any (a b : Option Addr) (xs ys : List Int) (c d : Nat) (w : World) (h1 : SlRd intR w a xs) (h2 : SlRd intR w b ys) (hm : xs.length ≤ 1048576) (hn : ys.length ≤ 1048576) :
    Calls Tryz.prog 105 #[.slice a xs.length c, .slice b ys.length d] w fun e w' => e = .returned (.bool (decide (xs = ys))) ∧ Below w.heap.size w w' := by
 by_cases hl : xs.length = ys.length
 ·have HL : Hid _ := hl;rw [← hl];have H1 : Hid (∀ W, Below w.heap.size w W → SlRd intR W a xs) := fun W hb => slrd_next h1 hb;have H2 : Hid (∀ W, Below w.heap.size w W → SlRd intR W b ys) := fun W hb => slrd_next h2 hb;clear h1 h2 hl hn;go_enter Tryz.func105, Tryz.ntmps105;go_wp2;go_loopw [13] (fun i wr => ∃ k : Nat, k ≤ xs.length ∧ i = .int .i64 k ∧ Hid (xs.take k = ys.take k) ∧ Below w.heap.size w wr) (fun i _ => xs.length - (intOf i).toNat)
  case atStart => exact ⟨0, Nat.zero_le _, rfl, by unfold Hid; rfl, Below.refl _ _⟩
  case round =>
   obtain ⟨k, hk, rfl, hsame, BB⟩ := hrel;by_cases hlt : k < xs.length
   ·have hlt' : (k : Int) < (xs.length : Int) := by omega
    have hly : k < ys.length := by have := HL.out; omega
    obtain ⟨p, hp⟩ : ∃ p, xs[k]? = some p := ⟨_, List.getElem?_eq_getElem hlt⟩;obtain ⟨q, hq⟩ : ∃ q, ys[k]? = some q := ⟨_, List.getElem?_eq_getElem hly⟩;obtain ⟨g1, o1, cs1, rfl, ⟨rfl, -⟩, hc1⟩ := slrd_at (H1.out _ BB) hp;obtain ⟨g2, o2, cs2, rfl, ⟨rfl, -⟩, hc2⟩ := slrd_at (H2.out _ BB) hq;have z1 := hc1 0 _ rfl;rw [show o1 + (k * intR.size + 0) = o1 + k from by rw [show intR.size = 1 from rfl]; omega] at z1;have z2 := hc2 0 _ rfl;rw [show o2 + (k * intR.size + 0) = o2 + k from by rw [show intR.size = 1 from rfl]; omega] at z2;have HP : Hid _ := hp;have HQ : Hid _ := hq;clear hc1 hc2 hp hq;by_cases he : p = q
    ·have HE : Hid _ := take_same hsame.out HP.out HQ.out he;have HBB : Hid _ := BB;subst he;clear hsame BB;go_wp2_with fail
     go_quiet (fail)
     go_wp2;go_roundw
     case rel => exact ⟨k + 1, by omega, by go_num, HE, be_drewN HBB.out _⟩
     case measure => simp [intOf]; omega
    ·have HE : Hid (decide (xs = ys) = false) := decide_eq_false fun e => he (by have h3 := HP.out; rw [e, HQ.out] at h3; exact (Option.some.inj h3).symm);have HBB : Hid _ := BB;clear hsame BB;go_wp2_with fail
     go_quiet (fail)
     go_wp2;go_ret
     exact ⟨ret_bool HE.out.symm, be_drewN HBB.out _⟩
   ·have hkl : k = xs.length := by omega
    have HE : Hid (decide (xs = ys) = true) := decide_eq_true (by
     have h3 := hsame.out;rw [List.take_of_length_le (by omega), List.take_of_length_le (by have := HL.out; omega)] at h3
     exact h3)
    clear hsame;go_wp2;go_ret
    exact ⟨ret_bool HE.out.symm, BB⟩
 ·have HE : Hid (decide (xs = ys) = false) := decide_eq_false fun e => hl (by rw [e]);have hl' : ¬ ((xs.length : Int) = (ys.length : Int)) := by omega
  clear h1 h2 hl;go_enter Tryz.func105, Tryz.ntmps105;go_wp2;go_ret
  exact ⟨ret_bool HE.out.symm, Below.refl _ _⟩
theorem fresh_u (x : FabricD) (a1 : Option Addr) (c1 : Nat) (b1 : Option Addr) (d1 : Nat) (a2 : Option Addr) (c2 : Nat) (a3 : Option Addr) (c3 : Nat) (b3 : Option Addr) (d3 : Nat) (a4 : Option Addr) (c4 : Nat) (a5 : Option Addr) (c5 : Nat) (w : World) (R : FabRd w x a1 c1 b1 d1 a2 c2 a3 c3 b3 d3 a4 c4 a5 c5) (hh : HoldT w) (hf : fabI x = true) (hbk : fabricM.bk x ≤ 1048576) :
    Calls Tryz.prog 57 #[.agg #[.int .i64 x.1.1, .int .i64 x.1.2.1, .int .i64 x.1.2.2.1, .int .i64 x.1.2.2.2, .slice a1 x.2.1.1.length c1, .slice b1 x.2.1.2.length d1, .slice a2 x.2.2.1.length c2, .slice a3 x.2.2.2.1.1.length c3, .int .i64 x.2.2.2.1.2.1, .bool x.2.2.2.1.2.2.1, .slice b3 x.2.2.2.1.2.2.2.length d3, .slice a4 x.2.2.2.2.1.length c4, .slice a5 x.2.2.2.2.2.length c5]] w fun e w' => e = .returned (.bool (freI x)) ∧ Below w.heap.size w w' := by
 obtain ⟨⟨hl1, hl16⟩, hbl⟩ := fab_lines hf;have hcl4 : x.2.2.1.length ≤ 4 := by
  obtain ⟨⟨hc1, hc4⟩, hcl, -⟩ := fab_facts hf;omega
 have HOK : Hid (∀ u, u ∈ x.2.2.1 → OkC isL treeB u.1) := fun u hu => fab_core hf hu;have RR : Hid (∀ W, Below w.heap.size w W → SlRd coreR W a2 x.2.2.1) := fun W hb => (fab_next R hb).cores;have HTB : Hid (∀ k : Int, (truthI x k).length ≤ 1048576) := fun k => Nat.le_trans (truth_bkI hf k) hbk;have HBK : Hid _ := hbk;have HC : Hid (∀ (k : Int) W, Below w.heap.size w W → 0 ≤ k → k < x.1.2.2.2 → Calls Tryz.prog 54 #[.agg #[.int .i64 x.1.1, .int .i64 x.1.2.1, .int .i64 x.1.2.2.1, .int .i64 x.1.2.2.2, .slice a1 x.2.1.1.length c1, .slice b1 x.2.1.2.length d1, .slice a2 x.2.2.1.length c2, .slice a3 x.2.2.2.1.1.length c3, .int .i64 x.2.2.2.1.2.1, .bool x.2.2.2.1.2.2.1, .slice b3 x.2.2.2.1.2.2.2.length d3, .slice a4 x.2.2.2.2.1.length c4, .slice a5 x.2.2.2.2.2.length c5], .int .i64 k] W fun e w' => AnsL W (truthI x k) e w') := fun k W hb h0 h1 => truth_u x a1 c1 b1 d1 a2 c2 a3 c3 b3 d3 a4 c4 a5 c5 W (fab_next R hb) (hh.goes hb) hf k h0 h1;have HV : Hid (freI x = (List.range x.1.2.2.2.toNat).all (freshL x)) := by unfold Hid freI; rw [hf, Bool.true_and]
 have B := Below.refl w.heap.size w;clear R hbl hbk hf hh;go_enter Tryz.func57, Tryz.ntmps57;go_wp2;go_step3
 go_upto_region 1 with fail
 generalize hu1w : w.alloc _ = u1w;have F := boxH hu1w;have bz := boxB hu1w;have zF := boxL hu1w;clear hu1w;replace B := below_step B bz;clear bz;clear zF;have HF : Hid _ := F;obtain ⟨Fc0, Fc1, Fc2, Fc3, Fc4, Fc5, Fc6, Fc7, Fc8, Fc9, Fc10, Fc11, Fc12⟩ := cells_fabric F;have Flt := (ltH F);clear F;go_wp2;go_step3
 go_wp2;clear Fc0 Fc1 Fc2 Fc3 Fc4 Fc5 Fc6 Fc7 Fc8 Fc9 Fc10 Fc11 Fc12 Flt;go_loopw [3, 12] (fun r i wr => ∃ j : Nat, (j : Int) ≤ x.1.2.2.2 ∧ r = .bool true ∧ i = .int .i64 j ∧ AllT (freshL x) j ∧ Below w.heap.size w wr ∧ wr.heap[w.heap.size]? = some (.cells #[.int .i64 x.1.1, .int .i64 x.1.2.1, .int .i64 x.1.2.2.1, .int .i64 x.1.2.2.2, .slice a1 x.2.1.1.length c1, .slice b1 x.2.1.2.length d1, .slice a2 x.2.2.1.length c2, .slice a3 x.2.2.2.1.1.length c3, .int .i64 x.2.2.2.1.2.1, .bool x.2.2.2.1.2.2.1, .slice b3 x.2.2.2.1.2.2.2.length d3, .slice a4 x.2.2.2.2.1.length c4, .slice a5 x.2.2.2.2.2.length c5] 50 (0, 0))) (fun _ i _ => x.1.2.2.2.toNat - (intOf i).toNat)
 case atStart => exact ⟨0, by omega, rfl, rfl, fun i hi => by omega, B, HF.out⟩
 case round =>
  clear B HF;obtain ⟨j, hj, rfl, rfl, hno, BB, F⟩ := hrel;by_cases hlt : (j : Int) < x.1.2.2.2
  ·obtain ⟨p0, p1, p2, p3, p4, p5, p6, p7, p8, p9, p10, p11, p12⟩ := cells_fabric F;have HF : Hid _ := F;have HNO : Hid _ := hno;clear F hno;go_wp2_with fail
   clear p0 p1 p2 p3 p4 p5 p6 p7 p8 p9 p10 p11 p12;refine (HC.out j _ BB (by omega) (by omega)).mono ?_;rintro e w5 ⟨ta, tc, rfl, q, M⟩;replace BB := below_step BB M;have F := row_keep M HF.out;have HTD : Hid (∀ W, Below w5.heap.size w5 W → SlRd intR W ta (truthI x j)) := fun W hb => slrd_next q hb;have htm := HTB.out j;have HFC : Hid (∀ u, freshC x j u = (decide ((wayOf u.1 j).2.1 = 0) || decide ((wayOf u.1 j).2.2 = truthI x j))) := fun u => rfl;clear HF M q;generalize truthI x j = tt at HTD htm HFC ⊢;have HF : Hid _ := F;obtain ⟨p0, p1, p2, p3, p4, p5, p6, p7, p8, p9, p10, p11, p12⟩ := cells_fabric F;clear F;go_wp2;clear p0 p1 p2 p3 p4 p5 p6 p7 p8 p9 p10 p11 p12;go_loopw [3, 21] (fun r i wr => ∃ m : Nat, m ≤ x.2.2.1.length ∧ r = .bool true ∧ i = .int .i64 m ∧ YesP (freshC x j) x.2.2.1 m ∧ Below w.heap.size w wr ∧ Below w5.heap.size w5 wr ∧ wr.heap[w.heap.size]? = some (.cells #[.int .i64 x.1.1, .int .i64 x.1.2.1, .int .i64 x.1.2.2.1, .int .i64 x.1.2.2.2, .slice a1 x.2.1.1.length c1, .slice b1 x.2.1.2.length d1, .slice a2 x.2.2.1.length c2, .slice a3 x.2.2.2.1.1.length c3, .int .i64 x.2.2.2.1.2.1, .bool x.2.2.2.1.2.2.1, .slice b3 x.2.2.2.1.2.2.2.length d3, .slice a4 x.2.2.2.2.1.length c4, .slice a5 x.2.2.2.2.2.length c5] 50 (0, 0))) (fun _ i _ => x.2.2.1.length - (intOf i).toNat)
   case atStart => exact ⟨0, Nat.zero_le _, rfl, rfl, fun i v hi => by omega, BB, Below.refl _ _, HF.out⟩
   case round =>
    clear BB HF;obtain ⟨m, hm, rfl, rfl, hyes, BB, B5, F⟩ := hrel;by_cases hlm : m < x.2.2.1.length
    ·have hlm' : (m : Int) < (x.2.2.1.length : Int) := by omega
     obtain ⟨u, hx⟩ : ∃ u, x.2.2.1[m]? = some u := ⟨_, List.getElem?_eq_getElem hlm⟩;have hmem := List.mem_of_getElem? hx;obtain ⟨bb, off, cs, ra, hrdx, hcell⟩ := slrd_at (RR.out _ BB) hx;have HW : Hid (∀ V, Below wr.heap.size wr V → Calls Tryz.prog 77 #[aggV cs, .int .i64 j] V fun e w' => ∃ us, e = .returned (aggV us) ∧ MadeR wayR V w' us (wayOf u.1 j)) := fun V hv => own_u cs u j V (HOK.out u hmem) (rd_next hrdx hv);obtain ⟨ga, gc, gb, gd, ha, hc, ia, ic, ja, jc, rfl⟩ := core_shape hrdx;rw [show aggV _ = .agg _ from rfl] at HW;obtain ⟨x0, x1, x2, x3, x4, x5, x6, x7, x8⟩ := cellsAt9 hcell rfl;subst ra;have hsm : (wayOf u.1 j).2.2.length ≤ 1048576 := Nat.le_trans (wayOf_bk (HOK.out u hmem) j) (Nat.le_trans (core_bk hmem).1 HBK.out);have HCL : Hid _ := (way_rng4 (HOK.out u hmem) j).2;have HX : Hid _ := hx;have HYS : Hid _ := hyes;have HFU : Hid _ := HFC.out u;clear hcell hrdx hx hmem hyes;go_upto_region 9 with fail
     clear x0 x1 x2 x3 x4 x5 x6 x7 x8;generalize hwv : wr.alloc _ = wv;have X := boxH hwv;have BZ := boxB hwv;clear hwv;obtain ⟨x0, x1, x2, x3, x4, x5, x6, x7, x8⟩ := cells_core X;go_wp2_with fail
     clear x0 x1 x2 x3 x4 x5 x6 x7 x8 X;refine (HW.out _ BZ).mono ?_;rintro e w9 ⟨us, rfl, M9⟩;clear HW;have bq := below_step BZ M9.2;have hwr := wayR.own_rd M9.1;obtain ⟨ea, ec, rfl, -, i1, -, -, HWD⟩ := way_rd hwr;rw [show aggV _ = .agg _ from rfl];replace BB := below_step BB bq;replace B5 := below_step B5 bq;replace F := row_keep bq F;clear M9 BZ bq;generalize wayOf u.1 j = y at HWD hwr hsm HFU HCL i1 ⊢;have HWE : Hid _ := And.intro HWD hwr;clear HWD i1 hwr;go_upto_region 10 with fail
     have BZ := box_below w9 (.cells #[.int .i64 y.1, .int .i64 y.2.1, .slice ea y.2.2.length ec] 88);generalize hwz : w9.alloc _ = wz;have Y := boxH hwz;clear hwz;replace BB := below_step BB BZ;replace B5 := below_step B5 BZ;replace F := row_keep BZ F;have HWD : Hid (SlRd intR wz ea y.2.2) := slrd_next HWE.out.1 BZ;have HEM := implEmpty_u [.int .i64 y.1, .int .i64 y.2.1, .slice ea y.2.2.length ec] y wz (rd_next HWE.out.2 BZ);rw [show aggV _ = .agg _ from rfl, HCL.out] at HEM;clear BZ HWE;obtain ⟨y0, y1, y2⟩ := cells_three Y;go_wp2_with fail
     clear y0 y1 y2;refine HEM.mono ?_;rintro e w8 ⟨rfl, bq⟩;replace BB := below_step BB bq;replace B5 := below_step B5 bq;replace F := row_keep bq F;replace Y := row_keep bq Y;have HWF : Hid (SlRd intR w8 ea y.2.2) := slrd_next HWD.out bq;clear bq HWD HEM;have HBF : Hid _ := And.intro BB (And.intro B5 F);clear BB B5 F;cases hs : decide (y.2.1 = 0)
     ·obtain ⟨y0, y1, y2⟩ := cells_three Y;clear Y;go_wp2_with fail
      refine (equalI_any ea ta y.2.2 tt ec tc _ HWF.out (HTD.out _ HBF.out.2.1) hsm htm).mono ?_;rintro e w7 ⟨rfl, b7⟩;have HB7 : Hid _ := And.intro (below_step HBF.out.1 b7) (And.intro (below_step HBF.out.2.1 b7) (row_keep b7 HBF.out.2.2));clear b7 HBF y0 y1 y2;cases hq : decide (y.2.2 = tt)
      ·have HN : Hid (freI x = false) := by
         unfold Hid;rw [HV.out];refine allT_not (j := j) (by omega) ?_;unfold freshL;exact all_not HX.out (by rw [HFU.out, hq, hs]; rfl)
       clear HYS HNO;go_wp2;try rw [Exit.noGoto_ret]
       go_ret
       exact ⟨ret_bool HN.out.symm, HB7.out.1⟩
      ·have HE : Hid _ := yes_step HYS.out HX.out (by rw [HFU.out, hq, Bool.or_true]);clear HYS;go_wp2;go_roundw
       case rel => exact ⟨m + 1, by omega, rfl, by go_num, HE.out, HB7.out⟩
       case measure => simp [intOf]; omega
     ·have HE : Hid _ := yes_step HYS.out HX.out (by rw [HFU.out, hs, Bool.true_or]);clear HYS Y;go_wp2;go_roundw
      case rel => exact ⟨m + 1, by omega, rfl, by go_num, HE.out, HBF.out⟩
      case measure => simp [intOf]; omega
    ·have HE : Hid _ := allT_step (p := freshL x) HNO.out (List.all_eq_true.2 fun u hu => by
       obtain ⟨i, hi⟩ := List.getElem?_of_mem hu
       exact hyes i u (by have := (List.getElem?_eq_some_iff.1 hi).1; omega) hi)
     have hgm : ¬ ((m : Int) < (x.2.2.1.length : Int)) := by omega
     have HBF : Hid _ := And.intro BB F;clear hyes F BB B5 HNO;go_wp2;go_roundw
     case rel => exact ⟨j + 1, by omega, rfl, by go_num, HE.out, HBF.out⟩
     case measure => simp [intOf]; omega
  ·have hjn : j = x.1.2.2.2.toNat := by omega
   have HN : Hid (freI x = true) := by unfold Hid; rw [HV.out, ← hjn]; exact allT_end hno
   clear hno F;go_wp2;try rw [Exit.noGoto_ret]
   go_ret
   exact ⟨ret_bool HN.out.symm, BB⟩
theorem implFresh_any (x : FabricD) (a1 : Option Addr) (c1 : Nat) (b1 : Option Addr) (d1 : Nat) (a2 : Option Addr) (c2 : Nat) (a3 : Option Addr) (c3 : Nat) (b3 : Option Addr) (d3 : Nat) (a4 : Option Addr) (c4 : Nat) (a5 : Option Addr) (c5 : Nat) (w : World) (R : FabRd w x a1 c1 b1 d1 a2 c2 a3 c3 b3 d3 a4 c4 a5 c5) (hh : Hold w) (ht : HoldT w) (hbk : fabricM.bk x ≤ 1048576) :
    Calls Tryz.prog 21 #[.agg #[.int .i64 x.1.1, .int .i64 x.1.2.1, .int .i64 x.1.2.2.1, .int .i64 x.1.2.2.2, .slice a1 x.2.1.1.length c1, .slice b1 x.2.1.2.length d1, .slice a2 x.2.2.1.length c2, .slice a3 x.2.2.2.1.1.length c3, .int .i64 x.2.2.2.1.2.1, .bool x.2.2.2.1.2.2.1, .slice b3 x.2.2.2.1.2.2.2.length d3, .slice a4 x.2.2.2.2.1.length c4, .slice a5 x.2.2.2.2.2.length c5]] w fun e w' => e = .returned (.bool (freI x)) ∧ Below w.heap.size w w' := by
 have H0 : Hid (∀ W, Below w.heap.size w W → Calls Tryz.prog 35 #[.agg #[.int .i64 x.1.1, .int .i64 x.1.2.1, .int .i64 x.1.2.2.1, .int .i64 x.1.2.2.2, .slice a1 x.2.1.1.length c1, .slice b1 x.2.1.2.length d1, .slice a2 x.2.2.1.length c2, .slice a3 x.2.2.2.1.1.length c3, .int .i64 x.2.2.2.1.2.1, .bool x.2.2.2.1.2.2.1, .slice b3 x.2.2.2.1.2.2.2.length d3, .slice a4 x.2.2.2.2.1.length c4, .slice a5 x.2.2.2.2.2.length c5]] W fun e w' => e = .returned (.bool (fabI x)) ∧ Below W.heap.size W w') := fun W hb => implFabricOk_any x a1 c1 b1 d1 a2 c2 a3 c3 b3 d3 a4 c4 a5 c5 W (fab_next R hb) (hh.goes hb);have B := Below.refl w.heap.size w;cases hf : fabI x
 ·have HV : Hid (freI x = false) := by unfold Hid freI; rw [hf]; rfl
  rw [hf] at H0;clear R hh;go_enter Tryz.func21, Tryz.ntmps21;go_upto_region 1 with fail
  generalize hu1w : w.alloc _ = u1w;have F := boxH hu1w;have bz := boxB hu1w;have zF := boxL hu1w;clear hu1w;replace B := below_step B bz;clear bz;clear zF;obtain ⟨Fc0, Fc1, Fc2, Fc3, Fc4, Fc5, Fc6, Fc7, Fc8, Fc9, Fc10, Fc11, Fc12⟩ := cells_fabric F;have Flt := (ltH F);go_wp2_with fail
  clear Fc0 Fc1 Fc2 Fc3 Fc4 Fc5 Fc6 Fc7 Fc8 Fc9 Fc10 Fc11 Fc12 Flt;refine (H0.out _ B).mono ?_;rintro e u2w ⟨rfl, bq⟩;replace B := below_step B bq;replace F := row_keep bq F;clear bq;obtain ⟨Fc0, Fc1, Fc2, Fc3, Fc4, Fc5, Fc6, Fc7, Fc8, Fc9, Fc10, Fc11, Fc12⟩ := cells_fabric F;have Flt := (ltH F);have HB : Hid _ := B;clear B F;go_wp2;go_ret
  exact ⟨ret_bool HV.out.symm, HB.out⟩
 ·have H1 : Hid (∀ W, Below w.heap.size w W → Calls Tryz.prog 57 #[.agg #[.int .i64 x.1.1, .int .i64 x.1.2.1, .int .i64 x.1.2.2.1, .int .i64 x.1.2.2.2, .slice a1 x.2.1.1.length c1, .slice b1 x.2.1.2.length d1, .slice a2 x.2.2.1.length c2, .slice a3 x.2.2.2.1.1.length c3, .int .i64 x.2.2.2.1.2.1, .bool x.2.2.2.1.2.2.1, .slice b3 x.2.2.2.1.2.2.2.length d3, .slice a4 x.2.2.2.2.1.length c4, .slice a5 x.2.2.2.2.2.length c5]] W fun e w' => e = .returned (.bool (freI x)) ∧ Below W.heap.size W w') := fun W hb => fresh_u x a1 c1 b1 d1 a2 c2 a3 c3 b3 d3 a4 c4 a5 c5 W (fab_next R hb) (ht.goes hb) hf hbk;rw [hf] at H0;clear R hh;generalize freI x = q1 at H1 ⊢;go_enter Tryz.func21, Tryz.ntmps21;go_upto_region 1 with fail
  generalize hu1w : w.alloc _ = u1w;have F := boxH hu1w;have bz := boxB hu1w;have zF := boxL hu1w;clear hu1w;replace B := below_step B bz;clear bz;clear zF;obtain ⟨Fc0, Fc1, Fc2, Fc3, Fc4, Fc5, Fc6, Fc7, Fc8, Fc9, Fc10, Fc11, Fc12⟩ := cells_fabric F;have Flt := (ltH F);go_wp2_with fail
  clear Fc0 Fc1 Fc2 Fc3 Fc4 Fc5 Fc6 Fc7 Fc8 Fc9 Fc10 Fc11 Fc12 Flt;refine (H0.out _ B).mono ?_;rintro e u2w ⟨rfl, bq⟩;replace B := below_step B bq;replace F := row_keep bq F;clear bq;obtain ⟨Fc0, Fc1, Fc2, Fc3, Fc4, Fc5, Fc6, Fc7, Fc8, Fc9, Fc10, Fc11, Fc12⟩ := cells_fabric F;have Flt := (ltH F);go_wp2_with fail
  clear Fc0 Fc1 Fc2 Fc3 Fc4 Fc5 Fc6 Fc7 Fc8 Fc9 Fc10 Fc11 Fc12 Flt;refine (H1.out _ B).mono ?_;rintro e u3w ⟨rfl, bq⟩;replace B := below_step B bq;replace F := row_keep bq F;clear bq;cases q1
  ·skip
   obtain ⟨Fc0, Fc1, Fc2, Fc3, Fc4, Fc5, Fc6, Fc7, Fc8, Fc9, Fc10, Fc11, Fc12⟩ := cells_fabric F;have Flt := (ltH F);have HB : Hid _ := B;clear B F;go_wp2;go_ret
   exact ⟨by simp, HB.out⟩
  ·skip
   obtain ⟨Fc0, Fc1, Fc2, Fc3, Fc4, Fc5, Fc6, Fc7, Fc8, Fc9, Fc10, Fc11, Fc12⟩ := cells_fabric F;have Flt := (ltH F);have HB : Hid _ := B;clear B F;go_wp2;go_ret
   exact ⟨by simp, HB.out⟩
theorem specFresh_u (cs : List Value) (x : FabricD) (w : World) (h : fabricR.rd w cs x) (hbk : fabricM.bk x ≤ 1048576) :
    Calls Tryz.prog 20 #[aggV cs] w fun e w' => e = .returned (.bool (freI x)) ∧ Below w.heap.size w w' := by
 obtain ⟨a1, c1, b1, d1, a2, c2, a3, c3, b3, d3, a4, c4, a5, c5, rfl, R⟩ := fab_open h;exact specFresh_any x a1 c1 b1 d1 a2 c2 a3 c3 b3 d3 a4 c4 a5 c5 w R h hbk
theorem implFresh_u (cs : List Value) (x : FabricD) (w : World) (hh : Hold w) (ht : HoldT w) (h : fabricR.rd w cs x) (hbk : fabricM.bk x ≤ 1048576) :
    Calls Tryz.prog 21 #[aggV cs] w fun e w' => e = .returned (.bool (freI x)) ∧ Below w.heap.size w w' := by
 obtain ⟨a1, c1, b1, d1, a2, c2, a3, c3, b3, d3, a4, c4, a5, c5, rfl, R⟩ := fab_open h;exact implFresh_any x a1 c1 b1 d1 a2 c2 a3 c3 b3 d3 a4 c4 a5 c5 w R hh ht hbk
end Go.Proofs.YtcocbafhcpdheaaGreatDoor
