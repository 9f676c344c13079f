import Derived.Test.YtcocbafhcpdheaaGreatDoorP00Box
import Derived.Test.YtcocbafhcpdheaaGreatDoorP50
namespace Go.Proofs.YtcocbafhcpdheaaGreatDoor
set_option maxHeartbeats 4000000
set_option maxRecDepth 20000
open Go.ChangeShapes Go.WideShapes Go.ChangeAt Go.RowKit
set_option linter.unusedVariables false
set_option linter.unusedSimpArgs false
def AllT (p : Nat → Bool) (j : Nat) : Prop := ∀ i, i < j → p i = true
noncomputable def cohI (x : FabricD) : Bool := fabI x && (List.range x.1.2.2.2.toNat).all fun k => togB (statesI x (k : Int))
theorem allT_step {p : Nat → Bool} {j : Nat} (h : AllT p j) (hj : p j = true) : AllT p (j + 1) := fun i hi => by
 by_cases he : i < j
 ·exact h i he
 ·have : i = j := by omega
  rw [this];exact hj
theorem allT_end {p : Nat → Bool} {n : Nat} (h : AllT p n) : (List.range n).all p = true := List.all_eq_true.2 fun i hi => h i (List.mem_range.1 hi)
theorem allT_not {p : Nat → Bool} {n j : Nat} (hj : j < n) (h : p j = false) : (List.range n).all p = false := by
 cases q : (List.range n).all p
 ·rfl
 ·have := List.all_eq_true.1 q j (List.mem_range.2 hj);rw [h] at this;cases this
theorem specCoherent_any (x : FabricD) (a1 : Option Addr) (c1 : Nat) (b1 : Option Addr) (d1 : Nat) (a2 : Option Addr) (c2 : Nat) (a3 : Option Addr) (c3 : Nat) (b3 : Option Addr) (d3 : Nat) (a4 : Option Addr) (c4 : Nat) (a5 : Option Addr) (c5 : Nat) (w : World) (R : FabRd w x a1 c1 b1 d1 a2 c2 a3 c3 b3 d3 a4 c4 a5 c5) (h : fabricR.rd w [.int .i64 x.1.1, .int .i64 x.1.2.1, .int .i64 x.1.2.2.1, .int .i64 x.1.2.2.2, .slice a1 x.2.1.1.length c1, .slice b1 x.2.1.2.length d1, .slice a2 x.2.2.1.length c2, .slice a3 x.2.2.2.1.1.length c3, .int .i64 x.2.2.2.1.2.1, .bool x.2.2.2.1.2.2.1, .slice b3 x.2.2.2.1.2.2.2.length d3, .slice a4 x.2.2.2.2.1.length c4, .slice a5 x.2.2.2.2.2.length c5] x) (hbk : fabricM.bk x ≤ 1048576) :
    Calls Tryz.prog 16 #[.agg #[.int .i64 x.1.1, .int .i64 x.1.2.1, .int .i64 x.1.2.2.1, .int .i64 x.1.2.2.2, .slice a1 x.2.1.1.length c1, .slice b1 x.2.1.2.length d1, .slice a2 x.2.2.1.length c2, .slice a3 x.2.2.2.1.1.length c3, .int .i64 x.2.2.2.1.2.1, .bool x.2.2.2.1.2.2.1, .slice b3 x.2.2.2.1.2.2.2.length d3, .slice a4 x.2.2.2.2.1.length c4, .slice a5 x.2.2.2.2.2.length c5]] w fun e w' => e = .returned (.bool (cohI x)) ∧ Below w.heap.size w w' := by
 have H0 : Hid (∀ W, Below w.heap.size w W → Calls Tryz.prog 49 #[.agg #[.int .i64 x.1.1, .int .i64 x.1.2.1, .int .i64 x.1.2.2.1, .int .i64 x.1.2.2.2, .slice a1 x.2.1.1.length c1, .slice b1 x.2.1.2.length d1, .slice a2 x.2.2.1.length c2, .slice a3 x.2.2.2.1.1.length c3, .int .i64 x.2.2.2.1.2.1, .bool x.2.2.2.1.2.2.1, .slice b3 x.2.2.2.1.2.2.2.length d3, .slice a4 x.2.2.2.2.1.length c4, .slice a5 x.2.2.2.2.2.length c5]] W fun e w' => e = .returned (.bool (fabI x)) ∧ Below W.heap.size W w') := fun W hb => specFab_u [.int .i64 x.1.1, .int .i64 x.1.2.1, .int .i64 x.1.2.2.1, .int .i64 x.1.2.2.2, .slice a1 x.2.1.1.length c1, .slice b1 x.2.1.2.length d1, .slice a2 x.2.2.1.length c2, .slice a3 x.2.2.2.1.1.length c3, .int .i64 x.2.2.2.1.2.1, .bool x.2.2.2.1.2.2.1, .slice b3 x.2.2.2.1.2.2.2.length d3, .slice a4 x.2.2.2.2.1.length c4, .slice a5 x.2.2.2.2.2.length c5] x W (rd_next h hb) hbk;have B := Below.refl w.heap.size w;cases hf : fabI x
 ·have HV : Hid (cohI x = false) := by unfold Hid cohI; rw [hf]; rfl
  rw [hf] at H0;clear R h;go_enter Tryz.func16, Tryz.ntmps16;go_upto_region 1 with fail
  generalize hu1w : w.alloc _ = u1w;have F := boxH hu1w;have bz := boxB hu1w;have zF := boxL hu1w;clear hu1w;replace B := below_step B bz;clear bz;clear zF;obtain ⟨Fc0, Fc1, Fc2, Fc3, Fc4, Fc5, Fc6, Fc7, Fc8, Fc9, Fc10, Fc11, Fc12⟩ := cells_fabric F;have Flt := (ltH F);go_wp2_with fail
  clear Fc0 Fc1 Fc2 Fc3 Fc4 Fc5 Fc6 Fc7 Fc8 Fc9 Fc10 Fc11 Fc12 Flt;refine (H0.out _ B).mono ?_;rintro e u2w ⟨rfl, bq⟩;replace B := below_step B bq;replace F := row_keep bq F;clear bq;obtain ⟨Fc0, Fc1, Fc2, Fc3, Fc4, Fc5, Fc6, Fc7, Fc8, Fc9, Fc10, Fc11, Fc12⟩ := cells_fabric F;have Flt := (ltH F);have HB : Hid _ := B;clear B F;go_wp2;go_ret
  exact ⟨ret_bool HV.out.symm, HB.out⟩
 ·obtain ⟨⟨hl1, hl16⟩, hbl⟩ := fab_lines hf;have hlen : ∀ k : Int, (statesI x k).length ≤ 4 := fun k => by
   obtain ⟨⟨hc1, hc4⟩, hcl, -⟩ := fab_facts hf;rw [states_len];omega
  have HLEN : Hid _ := hlen;have HC : Hid (∀ (k : Int) W, Below w.heap.size w W → Calls Tryz.prog 28 #[.agg #[.int .i64 x.1.1, .int .i64 x.1.2.1, .int .i64 x.1.2.2.1, .int .i64 x.1.2.2.2, .slice a1 x.2.1.1.length c1, .slice b1 x.2.1.2.length d1, .slice a2 x.2.2.1.length c2, .slice a3 x.2.2.2.1.1.length c3, .int .i64 x.2.2.2.1.2.1, .bool x.2.2.2.1.2.2.1, .slice b3 x.2.2.2.1.2.2.2.length d3, .slice a4 x.2.2.2.2.1.length c4, .slice a5 x.2.2.2.2.2.length c5], .int .i64 k] W fun e w' => ∃ v, e = .returned v ∧ MadeR intsR W w' [v] (statesI x k)) := fun k W hb => l17States_u x a1 c1 b1 d1 a2 c2 a3 c3 b3 d3 a4 c4 a5 c5 W (fab_next R hb) hf k;have HV : Hid (cohI x = (List.range x.1.2.2.2.toNat).all fun k => togB (statesI x (k : Int))) := by unfold Hid cohI; rw [hf, Bool.true_and]
  rw [hf] at H0;clear R h hbl hlen;go_enter Tryz.func16, Tryz.ntmps16;go_upto_region 1 with fail
  generalize hu1w : w.alloc _ = u1w;have F := boxH hu1w;have bz := boxB hu1w;have zF := boxL hu1w;clear hu1w;replace B := below_step B bz;clear bz;clear zF;obtain ⟨Fc0, Fc1, Fc2, Fc3, Fc4, Fc5, Fc6, Fc7, Fc8, Fc9, Fc10, Fc11, Fc12⟩ := cells_fabric F;have Flt := (ltH F);go_wp2_with fail
  clear Fc0 Fc1 Fc2 Fc3 Fc4 Fc5 Fc6 Fc7 Fc8 Fc9 Fc10 Fc11 Fc12 Flt;refine (H0.out _ B).mono ?_;rintro e u2w ⟨rfl, bq⟩;replace B := below_step B bq;replace F := row_keep bq F;clear bq;clear H0 hf;go_wp2;go_loopw [3] (fun i wr => ∃ j : Nat, (j : Int) ≤ x.1.2.2.2 ∧ i = .int .i64 j ∧ AllT (fun k => togB (statesI x (k : Int))) j ∧ Below w.heap.size w wr ∧ wr.heap[w.heap.size]? = some (.cells #[.int .i64 x.1.1, .int .i64 x.1.2.1, .int .i64 x.1.2.2.1, .int .i64 x.1.2.2.2, .slice a1 x.2.1.1.length c1, .slice b1 x.2.1.2.length d1, .slice a2 x.2.2.1.length c2, .slice a3 x.2.2.2.1.1.length c3, .int .i64 x.2.2.2.1.2.1, .bool x.2.2.2.1.2.2.1, .slice b3 x.2.2.2.1.2.2.2.length d3, .slice a4 x.2.2.2.2.1.length c4, .slice a5 x.2.2.2.2.2.length c5] 50 (0, 0))) (fun i _ => x.1.2.2.2.toNat - (intOf i).toNat)
  case atStart => exact ⟨0, by omega, rfl, fun i hi => by omega, B, F⟩
  case round =>
   clear B F;obtain ⟨j, hj, rfl, hno, BB, F⟩ := hrel;obtain ⟨p0, p1, p2, p3, p4, p5, p6, p7, p8, p9, p10, p11, p12⟩ := cells_fabric F;by_cases hlt : (j : Int) < x.1.2.2.2
   ·have HF : Hid _ := F;have HNO : Hid _ := hno;clear F hno;go_wp2_with fail
    clear p0 p1 p2 p3 p4 p5 p6 p7 p8 p9 p10 p11 p12;refine (HC.out j _ BB).mono ?_;rintro e w5 ⟨v, rfl, M⟩;obtain ⟨pa, pc, ev, -, -, q⟩ := intsR.own_rd M.1;simp only [List.cons.injEq, and_true] at ev;subst ev;replace BB := below_step BB M.2;have F := row_keep M.2 HF.out;clear HF;have HT := specTogether_any pa (statesI x j) pc w5 (reads_of q) (Nat.le_trans (HLEN.out j) (by decide));clear M q;generalize hs : togB (statesI x (j : Int)) = b at HT;have HB2 : Hid _ := And.intro BB F;clear BB F;go_wp2_with fail
    refine HT.mono ?_;rintro e w6 ⟨rfl, rfl⟩;cases b
    ·have HN : Hid (cohI x = false) := by unfold Hid; rw [HV.out]; exact allT_not (p := fun k => togB (statesI x (k : Int))) (by omega) hs
     go_wp2;go_ret
     exact ⟨ret_bool HN.out.symm, HB2.out.1⟩
    ·have HE : Hid _ := allT_step (p := fun k => togB (statesI x (k : Int))) HNO.out hs;clear HNO hs;go_wp2;go_roundw
     case rel => exact ⟨j + 1, by omega, by go_num, HE.out, HB2.out⟩
     case measure => simp [intOf]; omega
   ·have hjn : j = x.1.2.2.2.toNat := by omega
    have HN : Hid (cohI x = true) := by unfold Hid; rw [HV.out, ← hjn]; exact allT_end hno
    clear hno F;go_wp2;go_ret
    exact ⟨ret_bool HN.out.symm, BB⟩
theorem reads_lt {w : World} {lo hi : Nat} {v : Value} {xs : List Int} {a : Option Addr} {n c : Nat} (h : intsR.own w (rng lo hi) [v] xs) (hv : v = .slice a n c) (hh : hi ≤ w.heap.size) : ∀ p, a = some p → p.block < w.heap.size := by
 intro p hp;obtain ⟨v', rows, S', e, -, hg, -, -⟩ := h;simp only [List.cons.injEq, and_true] at e;subst e hv hp;have := (hg p.block rfl).1;exact Nat.lt_of_lt_of_le this.2 hh
theorem coherent_u (x : FabricD) (a1 : Option Addr) (c1 : Nat) (b1 : Option Addr) (d1 : Nat) (a2 : Option Addr) (c2 : Nat) (a3 : Option Addr) (c3 : Nat) (b3 : Option Addr) (d3 : Nat) (a4 : Option Addr) (c4 : Nat) (a5 : Option Addr) (c5 : Nat) (w : World) (R : FabRd w x a1 c1 b1 d1 a2 c2 a3 c3 b3 d3 a4 c4 a5 c5) (hh : HoldT w) (hf : fabI x = true) :
    Calls Tryz.prog 51 #[.agg #[.int .i64 x.1.1, .int .i64 x.1.2.1, .int .i64 x.1.2.2.1, .int .i64 x.1.2.2.2, .slice a1 x.2.1.1.length c1, .slice b1 x.2.1.2.length d1, .slice a2 x.2.2.1.length c2, .slice a3 x.2.2.2.1.1.length c3, .int .i64 x.2.2.2.1.2.1, .bool x.2.2.2.1.2.2.1, .slice b3 x.2.2.2.1.2.2.2.length d3, .slice a4 x.2.2.2.2.1.length c4, .slice a5 x.2.2.2.2.2.length c5]] w fun e w' => e = .returned (.bool (cohI x)) ∧ Below w.heap.size w w' := by
 obtain ⟨⟨hl1, hl16⟩, hbl⟩ := fab_lines hf;have hlen : ∀ k : Int, (statesI x k).length ≤ 4 := fun k => by
  obtain ⟨⟨hc1, hc4⟩, hcl, -⟩ := fab_facts hf;rw [states_len];omega
 have HLEN : Hid _ := hlen;have HH : Hid (∀ W, Below w.heap.size w W → HoldT W) := fun W hb => hh.goes hb;have HC : Hid (∀ (k : Int) W, Below w.heap.size w W → Calls Tryz.prog 37 #[.agg #[.int .i64 x.1.1, .int .i64 x.1.2.1, .int .i64 x.1.2.2.1, .int .i64 x.1.2.2.2, .slice a1 x.2.1.1.length c1, .slice b1 x.2.1.2.length d1, .slice a2 x.2.2.1.length c2, .slice a3 x.2.2.2.1.1.length c3, .int .i64 x.2.2.2.1.2.1, .bool x.2.2.2.1.2.2.1, .slice b3 x.2.2.2.1.2.2.2.length d3, .slice a4 x.2.2.2.2.1.length c4, .slice a5 x.2.2.2.2.2.length c5], .int .i64 k] W fun e w' => ∃ v, e = .returned v ∧ MadeR intsR W w' [v] (statesI x k)) := fun k W hb => statesOf_u x a1 c1 b1 d1 a2 c2 a3 c3 b3 d3 a4 c4 a5 c5 W (fab_next R hb) hf k;have HV : Hid (cohI x = (List.range x.1.2.2.2.toNat).all fun k => togB (statesI x (k : Int))) := by unfold Hid cohI; rw [hf, Bool.true_and]
 have B := Below.refl w.heap.size w;clear R hbl hlen hf hh;go_enter Tryz.func51, Tryz.ntmps51;go_wp2;go_step3
 go_upto_region 1 with fail
 generalize hu1w : w.alloc _ = u1w;have F := boxH hu1w;have bz := boxB hu1w;have zF := boxL hu1w;clear hu1w;replace B := below_step B bz;clear bz;clear zF;have HF : Hid _ := F;obtain ⟨Fc0, Fc1, Fc2, Fc3, Fc4, Fc5, Fc6, Fc7, Fc8, Fc9, Fc10, Fc11, Fc12⟩ := cells_fabric F;have Flt := (ltH F);clear F;go_wp2;go_step3
 go_wp2;clear Fc0 Fc1 Fc2 Fc3 Fc4 Fc5 Fc6 Fc7 Fc8 Fc9 Fc10 Fc11 Fc12 Flt;go_loopw [3, 8] (fun r i wr => ∃ j : Nat, (j : Int) ≤ x.1.2.2.2 ∧ r = .bool true ∧ i = .int .i64 j ∧ AllT (fun k => togB (statesI x (k : Int))) j ∧ Below w.heap.size w wr ∧ wr.heap[w.heap.size]? = some (.cells #[.int .i64 x.1.1, .int .i64 x.1.2.1, .int .i64 x.1.2.2.1, .int .i64 x.1.2.2.2, .slice a1 x.2.1.1.length c1, .slice b1 x.2.1.2.length d1, .slice a2 x.2.2.1.length c2, .slice a3 x.2.2.2.1.1.length c3, .int .i64 x.2.2.2.1.2.1, .bool x.2.2.2.1.2.2.1, .slice b3 x.2.2.2.1.2.2.2.length d3, .slice a4 x.2.2.2.2.1.length c4, .slice a5 x.2.2.2.2.2.length c5] 50 (0, 0))) (fun _ i _ => x.1.2.2.2.toNat - (intOf i).toNat)
 case atStart => exact ⟨0, by omega, rfl, rfl, fun i hi => by omega, B, HF.out⟩
 case round =>
  clear B HF;obtain ⟨j, hj, rfl, rfl, hno, BB, F⟩ := hrel;by_cases hlt : (j : Int) < x.1.2.2.2
  ·obtain ⟨p0, p1, p2, p3, p4, p5, p6, p7, p8, p9, p10, p11, p12⟩ := cells_fabric F;have HF : Hid _ := F;have HNO : Hid _ := hno;clear F hno;go_wp2_with fail
   clear p0 p1 p2 p3 p4 p5 p6 p7 p8 p9 p10 p11 p12;refine (HC.out j _ BB).mono ?_;rintro e w5 ⟨v, rfl, M⟩;obtain ⟨pa, pc, ev, -, -, q⟩ := intsR.own_rd M.1;simp only [List.cons.injEq, and_true] at ev;have hpb := reads_lt M.1 ev (Nat.le_refl _);subst ev;replace BB := below_step BB M.2;have F := row_keep M.2 HF.out;clear HF;have HT := implTogether_any pa (statesI x j) pc w5 (reads_of q) (HH.out _ BB) hpb (Nat.le_trans (HLEN.out j) (by decide));clear M q hpb;generalize hs : togB (statesI x (j : Int)) = b at HT;have HB2 : Hid _ := And.intro BB F;clear BB F;go_wp2_with fail
   refine HT.mono ?_;rintro e w6 ⟨rfl, bq⟩;have HB3 : Hid _ := And.intro (below_step HB2.out.1 bq) (row_keep bq HB2.out.2);clear HB2 bq HT;cases b
   ·have HN : Hid (cohI x = false) := by unfold Hid; rw [HV.out]; exact allT_not (p := fun k => togB (statesI x (k : Int))) (by omega) hs
    clear HNO hs;go_wp2;try rw [Exit.noGoto_ret]
    go_ret
    exact ⟨ret_bool HN.out.symm, HB3.out.1⟩
   ·have HE : Hid _ := allT_step (p := fun k => togB (statesI x (k : Int))) HNO.out hs;clear HNO hs;go_wp2;go_roundw
    case rel => exact ⟨j + 1, by omega, rfl, by go_num, HE.out, HB3.out⟩
    case measure => simp [intOf]; omega
  ·have hjn : j = x.1.2.2.2.toNat := by omega
   have HN : Hid (cohI x = true) := by unfold Hid; rw [HV.out, ← hjn]; exact allT_end hno
   clear hno F;go_wp2;try rw [Exit.noGoto_ret]
   go_ret
   exact ⟨ret_bool HN.out.symm, BB⟩
theorem implCoherent_any (x : FabricD) (a1 : Option Addr) (c1 : Nat) (b1 : Option Addr) (d1 : Nat) (a2 : Option Addr) (c2 : Nat) (a3 : Option Addr) (c3 : Nat) (b3 : Option Addr) (d3 : Nat) (a4 : Option Addr) (c4 : Nat) (a5 : Option Addr) (c5 : Nat) (w : World) (R : FabRd w x a1 c1 b1 d1 a2 c2 a3 c3 b3 d3 a4 c4 a5 c5) (hh : Hold w) (ht : HoldT w) :
    Calls Tryz.prog 17 #[.agg #[.int .i64 x.1.1, .int .i64 x.1.2.1, .int .i64 x.1.2.2.1, .int .i64 x.1.2.2.2, .slice a1 x.2.1.1.length c1, .slice b1 x.2.1.2.length d1, .slice a2 x.2.2.1.length c2, .slice a3 x.2.2.2.1.1.length c3, .int .i64 x.2.2.2.1.2.1, .bool x.2.2.2.1.2.2.1, .slice b3 x.2.2.2.1.2.2.2.length d3, .slice a4 x.2.2.2.2.1.length c4, .slice a5 x.2.2.2.2.2.length c5]] w fun e w' => e = .returned (.bool (cohI x)) ∧ Below w.heap.size w w' := by
 have H0 : Hid (∀ W, Below w.heap.size w W → Calls Tryz.prog 35 #[.agg #[.int .i64 x.1.1, .int .i64 x.1.2.1, .int .i64 x.1.2.2.1, .int .i64 x.1.2.2.2, .slice a1 x.2.1.1.length c1, .slice b1 x.2.1.2.length d1, .slice a2 x.2.2.1.length c2, .slice a3 x.2.2.2.1.1.length c3, .int .i64 x.2.2.2.1.2.1, .bool x.2.2.2.1.2.2.1, .slice b3 x.2.2.2.1.2.2.2.length d3, .slice a4 x.2.2.2.2.1.length c4, .slice a5 x.2.2.2.2.2.length c5]] W fun e w' => e = .returned (.bool (fabI x)) ∧ Below W.heap.size W w') := fun W hb => implFabricOk_any x a1 c1 b1 d1 a2 c2 a3 c3 b3 d3 a4 c4 a5 c5 W (fab_next R hb) (hh.goes hb);have B := Below.refl w.heap.size w;cases hf : fabI x
 ·have HV : Hid (cohI x = false) := by unfold Hid cohI; rw [hf]; rfl
  rw [hf] at H0;clear R hh;go_enter Tryz.func17, Tryz.ntmps17;go_upto_region 1 with fail
  generalize hu1w : w.alloc _ = u1w;have F := boxH hu1w;have bz := boxB hu1w;have zF := boxL hu1w;clear hu1w;replace B := below_step B bz;clear bz;clear zF;obtain ⟨Fc0, Fc1, Fc2, Fc3, Fc4, Fc5, Fc6, Fc7, Fc8, Fc9, Fc10, Fc11, Fc12⟩ := cells_fabric F;have Flt := (ltH F);go_wp2_with fail
  clear Fc0 Fc1 Fc2 Fc3 Fc4 Fc5 Fc6 Fc7 Fc8 Fc9 Fc10 Fc11 Fc12 Flt;refine (H0.out _ B).mono ?_;rintro e u2w ⟨rfl, bq⟩;replace B := below_step B bq;replace F := row_keep bq F;clear bq;obtain ⟨Fc0, Fc1, Fc2, Fc3, Fc4, Fc5, Fc6, Fc7, Fc8, Fc9, Fc10, Fc11, Fc12⟩ := cells_fabric F;have Flt := (ltH F);have HB : Hid _ := B;clear B F;go_wp2;go_ret
  exact ⟨ret_bool HV.out.symm, HB.out⟩
 ·have H1 : Hid (∀ W, Below w.heap.size w W → Calls Tryz.prog 51 #[.agg #[.int .i64 x.1.1, .int .i64 x.1.2.1, .int .i64 x.1.2.2.1, .int .i64 x.1.2.2.2, .slice a1 x.2.1.1.length c1, .slice b1 x.2.1.2.length d1, .slice a2 x.2.2.1.length c2, .slice a3 x.2.2.2.1.1.length c3, .int .i64 x.2.2.2.1.2.1, .bool x.2.2.2.1.2.2.1, .slice b3 x.2.2.2.1.2.2.2.length d3, .slice a4 x.2.2.2.2.1.length c4, .slice a5 x.2.2.2.2.2.length c5]] W fun e w' => e = .returned (.bool (cohI x)) ∧ Below W.heap.size W w') := fun W hb => coherent_u x a1 c1 b1 d1 a2 c2 a3 c3 b3 d3 a4 c4 a5 c5 W (fab_next R hb) (ht.goes hb) hf;rw [hf] at H0;clear R hh;generalize cohI x = q1 at H1 ⊢;go_enter Tryz.func17, Tryz.ntmps17;go_upto_region 1 with fail
  generalize hu1w : w.alloc _ = u1w;have F := boxH hu1w;have bz := boxB hu1w;have zF := boxL hu1w;clear hu1w;replace B := below_step B bz;clear bz;clear zF;obtain ⟨Fc0, Fc1, Fc2, Fc3, Fc4, Fc5, Fc6, Fc7, Fc8, Fc9, Fc10, Fc11, Fc12⟩ := cells_fabric F;have Flt := (ltH F);go_wp2_with fail
  clear Fc0 Fc1 Fc2 Fc3 Fc4 Fc5 Fc6 Fc7 Fc8 Fc9 Fc10 Fc11 Fc12 Flt;refine (H0.out _ B).mono ?_;rintro e u2w ⟨rfl, bq⟩;replace B := below_step B bq;replace F := row_keep bq F;clear bq;obtain ⟨Fc0, Fc1, Fc2, Fc3, Fc4, Fc5, Fc6, Fc7, Fc8, Fc9, Fc10, Fc11, Fc12⟩ := cells_fabric F;have Flt := (ltH F);go_wp2_with fail
  clear Fc0 Fc1 Fc2 Fc3 Fc4 Fc5 Fc6 Fc7 Fc8 Fc9 Fc10 Fc11 Fc12 Flt;refine (H1.out _ B).mono ?_;rintro e u3w ⟨rfl, bq⟩;replace B := below_step B bq;replace F := row_keep bq F;clear bq;cases q1
  ·skip
   obtain ⟨Fc0, Fc1, Fc2, Fc3, Fc4, Fc5, Fc6, Fc7, Fc8, Fc9, Fc10, Fc11, Fc12⟩ := cells_fabric F;have Flt := (ltH F);have HB : Hid _ := B;clear B F;go_wp2;go_ret
   exact ⟨by simp, HB.out⟩
  ·skip
   obtain ⟨Fc0, Fc1, Fc2, Fc3, Fc4, Fc5, Fc6, Fc7, Fc8, Fc9, Fc10, Fc11, Fc12⟩ := cells_fabric F;have Flt := (ltH F);have HB : Hid _ := B;clear B F;go_wp2;go_ret
   exact ⟨by simp, HB.out⟩
theorem specCoherent_u (cs : List Value) (x : FabricD) (w : World) (h : fabricR.rd w cs x) (hbk : fabricM.bk x ≤ 1048576) :
    Calls Tryz.prog 16 #[aggV cs] w fun e w' => e = .returned (.bool (cohI x)) ∧ Below w.heap.size w w' := by
 obtain ⟨a1, c1, b1, d1, a2, c2, a3, c3, b3, d3, a4, c4, a5, c5, rfl, R⟩ := fab_open h;exact specCoherent_any x a1 c1 b1 d1 a2 c2 a3 c3 b3 d3 a4 c4 a5 c5 w R h hbk
theorem implCoherent_u (cs : List Value) (x : FabricD) (w : World) (hh : Hold w) (ht : HoldT w) (h : fabricR.rd w cs x) (hbk : fabricM.bk x ≤ 1048576) :
    Calls Tryz.prog 17 #[aggV cs] w fun e w' => e = .returned (.bool (cohI x)) ∧ Below w.heap.size w w' := by
 obtain ⟨a1, c1, b1, d1, a2, c2, a3, c3, b3, d3, a4, c4, a5, c5, rfl, R⟩ := fab_open h;exact implCoherent_any x a1 c1 b1 d1 a2 c2 a3 c3 b3 d3 a4 c4 a5 c5 w R hh ht
end Go.Proofs.YtcocbafhcpdheaaGreatDoor
