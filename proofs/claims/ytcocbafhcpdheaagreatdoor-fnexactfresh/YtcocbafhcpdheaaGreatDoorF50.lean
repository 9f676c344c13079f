import Derived.Test.YtcocbafhcpdheaaGreatDoorF00Box
import Derived.Test.YtcocbafhcpdheaaGreatDoorF49
namespace Go.Proofs.YtcocbafhcpdheaaGreatDoor
set_option maxHeartbeats 16000000
set_option maxRecDepth 20000
open Go.ChangeShapes Go.WideShapes Go.ChangeAt Go.RowKit
set_option linter.unusedVariables false
set_option linter.unusedSimpArgs false
theorem take_same {xs ys : List Int} {k : Nat} {a b : Int} (h : xs.take k = ys.take k) (hx : xs[k]? = some a) (hy : ys[k]? = some b) (he : a = b) : xs.take (k + 1) = ys.take (k + 1) := by
 rw [List.take_add_one, List.take_add_one, h, hx, hy, he]
def freshC (x : FabricD) (k : Int) (u : CoreD) : Bool := decide ((wayOf u.1 k).2.1 = 0) || decide ((wayOf u.1 k).2.2 = truthI x k)
def freshL (x : FabricD) (k : Nat) : Bool := x.2.2.1.all (freshC x k)
noncomputable def freI (x : FabricD) : Bool := fabI x && (List.range x.1.2.2.2.toNat).all (freshL x)
def YesP {α : Type} (p : α → Bool) (xs : List α) (j : Nat) : Prop := ∀ i v, i < j → xs[i]? = some v → p v = true
theorem yes_step {α : Type} {p : α → Bool} {xs : List α} {k : Nat} {u : α} (hno : YesP p xs k) (hx : xs[k]? = some u) (hb : p u = true) : YesP p xs (k + 1) := fun j v hj hv => by
 by_cases he : j < k
 ·exact hno j v he hv
 ·have : j = k := by omega
  subst this;rw [hx] at hv;cases hv;exact hb
theorem l1Same_any (a b : Option Addr) (xs ys : List Int) (c d : Nat) (w : World) (h1 : SlRd intR w a xs) (h2 : SlRd intR w b ys) (hm : xs.length ≤ 1048576) (hn : ys.length ≤ 1048576) :
    Calls Tryz.prog 56 #[.slice a xs.length c, .slice b ys.length d] w fun e w' => e = .returned (.bool (decide (xs = ys))) ∧ Below w.heap.size w w' := by
 by_cases hl : xs.length = ys.length
 ·have HL : Hid _ := hl;rw [← hl];have H1 : Hid (∀ W, Below w.heap.size w W → SlRd intR W a xs) := fun W hb => slrd_next h1 hb;have H2 : Hid (∀ W, Below w.heap.size w W → SlRd intR W b ys) := fun W hb => slrd_next h2 hb;clear h1 h2 hl hn;go_enter Tryz.func56, Tryz.ntmps56;go_wp2;go_loopw [5] (fun i wr => ∃ k : Nat, k ≤ xs.length ∧ i = .int .i64 k ∧ Hid (xs.take k = ys.take k) ∧ Below w.heap.size w wr) (fun i _ => xs.length - (intOf i).toNat)
  case atStart => exact ⟨0, Nat.zero_le _, rfl, by unfold Hid; rfl, Below.refl _ _⟩
  case round =>
   obtain ⟨k, hk, rfl, hsame, BB⟩ := hrel;by_cases hlt : k < xs.length
   ·have hlt' : (k : Int) < (xs.length : Int) := by omega
    have hly : k < ys.length := by have := HL.out; omega
    obtain ⟨p, hp⟩ : ∃ p, xs[k]? = some p := ⟨_, List.getElem?_eq_getElem hlt⟩;obtain ⟨q, hq⟩ : ∃ q, ys[k]? = some q := ⟨_, List.getElem?_eq_getElem hly⟩;obtain ⟨g1, o1, cs1, rfl, ⟨rfl, -⟩, hc1⟩ := slrd_at (H1.out _ BB) hp;obtain ⟨g2, o2, cs2, rfl, ⟨rfl, -⟩, hc2⟩ := slrd_at (H2.out _ BB) hq;have z1 := hc1 0 _ rfl;rw [show o1 + (k * intR.size + 0) = o1 + k from by rw [show intR.size = 1 from rfl]; omega] at z1;have z2 := hc2 0 _ rfl;rw [show o2 + (k * intR.size + 0) = o2 + k from by rw [show intR.size = 1 from rfl]; omega] at z2;have HP : Hid _ := hp;have HQ : Hid _ := hq;clear hc1 hc2 hp hq;by_cases he : p = q
    ·have HE : Hid _ := take_same hsame.out HP.out HQ.out he;have HBB : Hid _ := BB;subst he;clear hsame BB;go_wp2_with fail
     go_quiet (fail)
     go_wp2;go_roundw
     case rel => exact ⟨k + 1, by omega, by go_num, HE, be_drewN HBB.out _⟩
     case measure => simp [intOf]; omega
    ·have HE : Hid (decide (xs = ys) = false) := decide_eq_false fun e => he (by have h3 := HP.out; rw [e, HQ.out] at h3; exact (Option.some.inj h3).symm);have HBB : Hid _ := BB;clear hsame BB;go_wp2_with fail
     go_quiet (fail)
     go_wp2;go_ret
     exact ⟨ret_bool HE.out.symm, be_drewN HBB.out _⟩
   ·have hkl : k = xs.length := by omega
    have HE : Hid (decide (xs = ys) = true) := decide_eq_true (by
     have h3 := hsame.out;rw [List.take_of_length_le (by omega), List.take_of_length_le (by have := HL.out; omega)] at h3
     exact h3)
    clear hsame;go_wp2;go_ret
    exact ⟨ret_bool HE.out.symm, BB⟩
 ·have HE : Hid (decide (xs = ys) = false) := decide_eq_false fun e => hl (by rw [e]);have hl' : ¬ ((xs.length : Int) = (ys.length : Int)) := by omega
  clear h1 h2 hl;go_enter Tryz.func56, Tryz.ntmps56;go_wp2;go_ret
  exact ⟨ret_bool HE.out.symm, Below.refl _ _⟩
theorem rest_bk (x : FabricD) (o k : Int) : (restT x o k).length ≤ fabricM.bk x := by
 unfold restT;split
 ·rename_i m hm
  exact net_bk (List.mem_of_find?_eq_some hm)
 ·rw [List.getD_eq_getElem?_getD];cases h : x.2.1.1[k.toNat]? with
  | none => exact Nat.zero_le _
  | some d => exact mem_bk (List.mem_of_getElem? h)
theorem truth_bk {x : FabricD} (hf : fabI x = true) (k : Int) : (truthI x k).length ≤ fabricM.bk x := by
 unfold truthI;split
 ·rename_i u hu
  have hm := List.mem_of_find?_eq_some hu;exact Nat.le_trans (wayOf_bk (fab_core hf hm) k) (core_bk hm).1
 ·unfold heldT;split
  ·split
   ·rename_i u hu
    split
    ·exact (core_bk (List.mem_of_getElem? hu)).2
    ·exact rest_bk x _ k
   ·exact Nat.zero_le _
  ·exact rest_bk x _ k
theorem specFresh_any (x : FabricD) (a1 : Option Addr) (c1 : Nat) (b1 : Option Addr) (d1 : Nat) (a2 : Option Addr) (c2 : Nat) (a3 : Option Addr) (c3 : Nat) (b3 : Option Addr) (d3 : Nat) (a4 : Option Addr) (c4 : Nat) (a5 : Option Addr) (c5 : Nat) (w : World) (R : FabRd w x a1 c1 b1 d1 a2 c2 a3 c3 b3 d3 a4 c4 a5 c5) (h : fabricR.rd w [.int .i64 x.1.1, .int .i64 x.1.2.1, .int .i64 x.1.2.2.1, .int .i64 x.1.2.2.2, .slice a1 x.2.1.1.length c1, .slice b1 x.2.1.2.length d1, .slice a2 x.2.2.1.length c2, .slice a3 x.2.2.2.1.1.length c3, .int .i64 x.2.2.2.1.2.1, .bool x.2.2.2.1.2.2.1, .slice b3 x.2.2.2.1.2.2.2.length d3, .slice a4 x.2.2.2.2.1.length c4, .slice a5 x.2.2.2.2.2.length c5] x) (hbk : fabricM.bk x ≤ 1048576) :
    Calls Tryz.prog 20 #[.agg #[.int .i64 x.1.1, .int .i64 x.1.2.1, .int .i64 x.1.2.2.1, .int .i64 x.1.2.2.2, .slice a1 x.2.1.1.length c1, .slice b1 x.2.1.2.length d1, .slice a2 x.2.2.1.length c2, .slice a3 x.2.2.2.1.1.length c3, .int .i64 x.2.2.2.1.2.1, .bool x.2.2.2.1.2.2.1, .slice b3 x.2.2.2.1.2.2.2.length d3, .slice a4 x.2.2.2.2.1.length c4, .slice a5 x.2.2.2.2.2.length c5]] w fun e w' => e = .returned (.bool (freI x)) ∧ Below w.heap.size w w' := by
 have H0 : Hid (∀ W, Below w.heap.size w W → Calls Tryz.prog 49 #[.agg #[.int .i64 x.1.1, .int .i64 x.1.2.1, .int .i64 x.1.2.2.1, .int .i64 x.1.2.2.2, .slice a1 x.2.1.1.length c1, .slice b1 x.2.1.2.length d1, .slice a2 x.2.2.1.length c2, .slice a3 x.2.2.2.1.1.length c3, .int .i64 x.2.2.2.1.2.1, .bool x.2.2.2.1.2.2.1, .slice b3 x.2.2.2.1.2.2.2.length d3, .slice a4 x.2.2.2.2.1.length c4, .slice a5 x.2.2.2.2.2.length c5]] W fun e w' => e = .returned (.bool (fabI x)) ∧ Below W.heap.size W w') := fun W hb => specFab_u [.int .i64 x.1.1, .int .i64 x.1.2.1, .int .i64 x.1.2.2.1, .int .i64 x.1.2.2.2, .slice a1 x.2.1.1.length c1, .slice b1 x.2.1.2.length d1, .slice a2 x.2.2.1.length c2, .slice a3 x.2.2.2.1.1.length c3, .int .i64 x.2.2.2.1.2.1, .bool x.2.2.2.1.2.2.1, .slice b3 x.2.2.2.1.2.2.2.length d3, .slice a4 x.2.2.2.2.1.length c4, .slice a5 x.2.2.2.2.2.length c5] x W (rd_next h hb) hbk;have B := Below.refl w.heap.size w;cases hf : fabI x
 ·have HV : Hid (freI x = false) := by unfold Hid freI; rw [hf]; rfl
  rw [hf] at H0;clear R h;go_enter Tryz.func20, Tryz.ntmps20;go_upto_region 1 with fail
  have F := heap_at w (.cells #[.int .i64 x.1.1, .int .i64 x.1.2.1, .int .i64 x.1.2.2.1, .int .i64 x.1.2.2.2, .slice a1 x.2.1.1.length c1, .slice b1 x.2.1.2.length d1, .slice a2 x.2.2.1.length c2, .slice a3 x.2.2.2.1.1.length c3, .int .i64 x.2.2.2.1.2.1, .bool x.2.2.2.1.2.2.1, .slice b3 x.2.2.2.1.2.2.2.length d3, .slice a4 x.2.2.2.2.1.length c4, .slice a5 x.2.2.2.2.2.length c5] 50);have bz := box_below w (.cells #[.int .i64 x.1.1, .int .i64 x.1.2.1, .int .i64 x.1.2.2.1, .int .i64 x.1.2.2.2, .slice a1 x.2.1.1.length c1, .slice b1 x.2.1.2.length d1, .slice a2 x.2.2.1.length c2, .slice a3 x.2.2.2.1.1.length c3, .int .i64 x.2.2.2.1.2.1, .bool x.2.2.2.1.2.2.1, .slice b3 x.2.2.2.1.2.2.2.length d3, .slice a4 x.2.2.2.2.1.length c4, .slice a5 x.2.2.2.2.2.length c5] 50);have zF := alloc_len w (.cells #[.int .i64 x.1.1, .int .i64 x.1.2.1, .int .i64 x.1.2.2.1, .int .i64 x.1.2.2.2, .slice a1 x.2.1.1.length c1, .slice b1 x.2.1.2.length d1, .slice a2 x.2.2.1.length c2, .slice a3 x.2.2.2.1.1.length c3, .int .i64 x.2.2.2.1.2.1, .bool x.2.2.2.1.2.2.1, .slice b3 x.2.2.2.1.2.2.2.length d3, .slice a4 x.2.2.2.2.1.length c4, .slice a5 x.2.2.2.2.2.length c5] 50);replace B := below_step B bz;clear bz;generalize w.alloc (.cells #[.int .i64 x.1.1, .int .i64 x.1.2.1, .int .i64 x.1.2.2.1, .int .i64 x.1.2.2.2, .slice a1 x.2.1.1.length c1, .slice b1 x.2.1.2.length d1, .slice a2 x.2.2.1.length c2, .slice a3 x.2.2.2.1.1.length c3, .int .i64 x.2.2.2.1.2.1, .bool x.2.2.2.1.2.2.1, .slice b3 x.2.2.2.1.2.2.2.length d3, .slice a4 x.2.2.2.2.1.length c4, .slice a5 x.2.2.2.2.2.length c5] 50) = u1w at B F zF ⊢;clear zF;obtain ⟨Fc0, Fc1, Fc2, Fc3, Fc4, Fc5, Fc6, Fc7, Fc8, Fc9, Fc10, Fc11, Fc12⟩ := cells_fabric F;have Flt := (ltH F);go_wp2_with fail
  clear Fc0 Fc1 Fc2 Fc3 Fc4 Fc5 Fc6 Fc7 Fc8 Fc9 Fc10 Fc11 Fc12 Flt;refine (H0.out _ B).mono ?_;rintro e u2w ⟨rfl, bq⟩;replace B := below_step B bq;replace F := row_keep bq F;clear bq;obtain ⟨Fc0, Fc1, Fc2, Fc3, Fc4, Fc5, Fc6, Fc7, Fc8, Fc9, Fc10, Fc11, Fc12⟩ := cells_fabric F;have Flt := (ltH F);have HB : Hid _ := B;clear B F;go_wp2;go_ret
  exact ⟨ret_bool HV.out.symm, HB.out⟩
 ·obtain ⟨⟨hl1, hl16⟩, hbl⟩ := fab_lines hf;have hcl4 : x.2.2.1.length ≤ 4 := by
   obtain ⟨⟨hc1, hc4⟩, hcl, -⟩ := fab_facts hf;omega
  have HOK : Hid (∀ u, u ∈ x.2.2.1 → OkC isL treeB u.1) := fun u hu => fab_core hf hu;have RR : Hid (∀ W, Below w.heap.size w W → SlRd coreR W a2 x.2.2.1) := fun W hb => (fab_next R hb).cores;have HTB : Hid (∀ k : Int, (truthI x k).length ≤ 1048576) := fun k => Nat.le_trans (truth_bk hf k) hbk;have HBK : Hid _ := hbk;have HC : Hid (∀ (k : Int) W, Below w.heap.size w W → 0 ≤ k → k < x.1.2.2.2 → Calls Tryz.prog 52 #[.agg #[.int .i64 x.1.1, .int .i64 x.1.2.1, .int .i64 x.1.2.2.1, .int .i64 x.1.2.2.2, .slice a1 x.2.1.1.length c1, .slice b1 x.2.1.2.length d1, .slice a2 x.2.2.1.length c2, .slice a3 x.2.2.2.1.1.length c3, .int .i64 x.2.2.2.1.2.1, .bool x.2.2.2.1.2.2.1, .slice b3 x.2.2.2.1.2.2.2.length d3, .slice a4 x.2.2.2.2.1.length c4, .slice a5 x.2.2.2.2.2.length c5], .int .i64 k] W fun e w' => ∃ v, e = .returned v ∧ MadeR intsR W w' [v] (truthI x k)) := fun k W hb h0 h1 => l17Truth_u x a1 c1 b1 d1 a2 c2 a3 c3 b3 d3 a4 c4 a5 c5 W (fab_next R hb) hf hbk k h0 h1;have HV : Hid (freI x = (List.range x.1.2.2.2.toNat).all (freshL x)) := by unfold Hid freI; rw [hf, Bool.true_and]
  rw [hf] at H0;clear R h hbl hbk;go_enter Tryz.func20, Tryz.ntmps20;go_upto_region 1 with fail
  have F := heap_at w (.cells #[.int .i64 x.1.1, .int .i64 x.1.2.1, .int .i64 x.1.2.2.1, .int .i64 x.1.2.2.2, .slice a1 x.2.1.1.length c1, .slice b1 x.2.1.2.length d1, .slice a2 x.2.2.1.length c2, .slice a3 x.2.2.2.1.1.length c3, .int .i64 x.2.2.2.1.2.1, .bool x.2.2.2.1.2.2.1, .slice b3 x.2.2.2.1.2.2.2.length d3, .slice a4 x.2.2.2.2.1.length c4, .slice a5 x.2.2.2.2.2.length c5] 50);have bz := box_below w (.cells #[.int .i64 x.1.1, .int .i64 x.1.2.1, .int .i64 x.1.2.2.1, .int .i64 x.1.2.2.2, .slice a1 x.2.1.1.length c1, .slice b1 x.2.1.2.length d1, .slice a2 x.2.2.1.length c2, .slice a3 x.2.2.2.1.1.length c3, .int .i64 x.2.2.2.1.2.1, .bool x.2.2.2.1.2.2.1, .slice b3 x.2.2.2.1.2.2.2.length d3, .slice a4 x.2.2.2.2.1.length c4, .slice a5 x.2.2.2.2.2.length c5] 50);have zF := alloc_len w (.cells #[.int .i64 x.1.1, .int .i64 x.1.2.1, .int .i64 x.1.2.2.1, .int .i64 x.1.2.2.2, .slice a1 x.2.1.1.length c1, .slice b1 x.2.1.2.length d1, .slice a2 x.2.2.1.length c2, .slice a3 x.2.2.2.1.1.length c3, .int .i64 x.2.2.2.1.2.1, .bool x.2.2.2.1.2.2.1, .slice b3 x.2.2.2.1.2.2.2.length d3, .slice a4 x.2.2.2.2.1.length c4, .slice a5 x.2.2.2.2.2.length c5] 50);replace B := below_step B bz;clear bz;generalize w.alloc (.cells #[.int .i64 x.1.1, .int .i64 x.1.2.1, .int .i64 x.1.2.2.1, .int .i64 x.1.2.2.2, .slice a1 x.2.1.1.length c1, .slice b1 x.2.1.2.length d1, .slice a2 x.2.2.1.length c2, .slice a3 x.2.2.2.1.1.length c3, .int .i64 x.2.2.2.1.2.1, .bool x.2.2.2.1.2.2.1, .slice b3 x.2.2.2.1.2.2.2.length d3, .slice a4 x.2.2.2.2.1.length c4, .slice a5 x.2.2.2.2.2.length c5] 50) = u1w at B F zF ⊢;clear zF;obtain ⟨Fc0, Fc1, Fc2, Fc3, Fc4, Fc5, Fc6, Fc7, Fc8, Fc9, Fc10, Fc11, Fc12⟩ := cells_fabric F;have Flt := (ltH F);go_wp2_with fail
  clear Fc0 Fc1 Fc2 Fc3 Fc4 Fc5 Fc6 Fc7 Fc8 Fc9 Fc10 Fc11 Fc12 Flt;refine (H0.out _ B).mono ?_;rintro e u2w ⟨rfl, bq⟩;replace B := below_step B bq;replace F := row_keep bq F;clear bq;clear H0 hf;go_wp2;go_loopw [3] (fun i wr => ∃ j : Nat, (j : Int) ≤ x.1.2.2.2 ∧ i = .int .i64 j ∧ AllT (freshL x) j ∧ Below w.heap.size w wr ∧ wr.heap[w.heap.size]? = some (.cells #[.int .i64 x.1.1, .int .i64 x.1.2.1, .int .i64 x.1.2.2.1, .int .i64 x.1.2.2.2, .slice a1 x.2.1.1.length c1, .slice b1 x.2.1.2.length d1, .slice a2 x.2.2.1.length c2, .slice a3 x.2.2.2.1.1.length c3, .int .i64 x.2.2.2.1.2.1, .bool x.2.2.2.1.2.2.1, .slice b3 x.2.2.2.1.2.2.2.length d3, .slice a4 x.2.2.2.2.1.length c4, .slice a5 x.2.2.2.2.2.length c5] 50 (0, 0))) (fun i _ => x.1.2.2.2.toNat - (intOf i).toNat)
  case atStart => exact ⟨0, by omega, rfl, fun i hi => by omega, B, F⟩
  case round =>
   clear B F;obtain ⟨j, hj, rfl, hno, BB, F⟩ := hrel;obtain ⟨p0, p1, p2, p3, p4, p5, p6, p7, p8, p9, p10, p11, p12⟩ := cells_fabric F;by_cases hlt : (j : Int) < x.1.2.2.2
   ·have HF : Hid _ := F;have HNO : Hid _ := hno;clear F hno;go_wp2_with fail
    clear p0 p1 p2 p3 p4 p5 p6 p7 p8 p9 p10 p11 p12;refine (HC.out j _ BB (by omega) (by omega)).mono ?_;rintro e w5 ⟨v, rfl, M⟩;obtain ⟨ta, tc, ev, -, -, q⟩ := intsR.own_rd M.1;simp only [List.cons.injEq, and_true] at ev;subst ev;replace BB := below_step BB M.2;have F := row_keep M.2 HF.out;have HTD : Hid (∀ W, Below w5.heap.size w5 W → SlRd intR W ta (truthI x j)) := fun W hb => slrd_next q hb;have htm := HTB.out j;have HFC : Hid (∀ u, freshC x j u = (decide ((wayOf u.1 j).2.1 = 0) || decide ((wayOf u.1 j).2.2 = truthI x j))) := fun u => rfl;clear HF M q;generalize truthI x j = tt at HTD htm HFC ⊢;go_wp2;go_loopw [5] (fun i wr => ∃ m : Nat, m ≤ x.2.2.1.length ∧ i = .int .i64 m ∧ YesP (freshC x j) x.2.2.1 m ∧ Below w.heap.size w wr ∧ Below w5.heap.size w5 wr ∧ wr.heap[w.heap.size]? = some (.cells #[.int .i64 x.1.1, .int .i64 x.1.2.1, .int .i64 x.1.2.2.1, .int .i64 x.1.2.2.2, .slice a1 x.2.1.1.length c1, .slice b1 x.2.1.2.length d1, .slice a2 x.2.2.1.length c2, .slice a3 x.2.2.2.1.1.length c3, .int .i64 x.2.2.2.1.2.1, .bool x.2.2.2.1.2.2.1, .slice b3 x.2.2.2.1.2.2.2.length d3, .slice a4 x.2.2.2.2.1.length c4, .slice a5 x.2.2.2.2.2.length c5] 50 (0, 0))) (fun i _ => x.2.2.1.length - (intOf i).toNat)
    case atStart => exact ⟨0, Nat.zero_le _, rfl, fun i v hi => by omega, BB, Below.refl _ _, F⟩
    case round =>
     clear BB F;obtain ⟨m, hm, rfl, hyes, BB, B5, F⟩ := hrel;obtain ⟨p0, p1, p2, p3, p4, p5, p6, p7, p8, p9, p10, p11, p12⟩ := cells_fabric F;by_cases hlm : m < x.2.2.1.length
     ·have hlm' : (m : Int) < (x.2.2.1.length : Int) := by omega
      obtain ⟨u, hx⟩ : ∃ u, x.2.2.1[m]? = some u := ⟨_, List.getElem?_eq_getElem hlm⟩;have hmem := List.mem_of_getElem? hx;obtain ⟨bb, off, cs, ra, hrdx, hcell⟩ := slrd_at (RR.out w (Below.refl _ _)) hx;have HW := l17Has_u cs u j w wr (HOK.out u hmem) hrdx BB;obtain ⟨ga, gc, gb, gd, ha, hc, ia, ic, ja, jc, rfl⟩ := core_shape hrdx;rw [show aggV [.slice ga u.1.1.length gc, .slice gb u.1.2.length gd, .slice ha u.2.1.length hc, .int .i64 u.2.2.1, .int .i64 u.2.2.2.1, .int .i64 u.2.2.2.2.1.1, .int .i64 u.2.2.2.2.1.2.1, .slice ia u.2.2.2.2.1.2.2.length ic, .slice ja u.2.2.2.2.2.length jc] = .agg #[.slice ga u.1.1.length gc, .slice gb u.1.2.length gd, .slice ha u.2.1.length hc, .int .i64 u.2.2.1, .int .i64 u.2.2.2.1, .int .i64 u.2.2.2.2.1.1, .int .i64 u.2.2.2.2.1.2.1, .slice ia u.2.2.2.2.1.2.2.length ic, .slice ja u.2.2.2.2.2.length jc] from rfl] at HW;replace hcell := fun i v h => cell_keep BB (hcell i v h) (cell_lt (hcell i v h));obtain ⟨x0, x1, x2, x3, x4, x5, x6, x7, x8⟩ := cellsAt9 hcell rfl;subst ra;have hsm : (wayOf u.1 j).2.2.length ≤ 1048576 := Nat.le_trans (wayOf_bk (HOK.out u hmem) j) (Nat.le_trans (core_bk hmem).1 HBK.out);have HX : Hid _ := hx;have HYS : Hid _ := hyes;have HF : Hid _ := F;have HFU : Hid _ := HFC.out u;clear hcell hrdx hx hmem hyes F;go_wp2_with fail
      clear x0 x1 x2 x3 x4 x5 x6 x7 x8 p0 p1 p2 p3 p4 p5 p6 p7 p8 p9 p10 p11 p12;refine HW.mono ?_;rintro e w9 ⟨us, rfl, hr, bq⟩;clear HW;have hr1 := hr w9 (below_step BB bq);obtain ⟨ea, ec, rfl, -, i1, -, -, -⟩ := way_rd hr1;rw [show aggV [.int .i64 (wayOf u.1 j).1, .int .i64 (wayOf u.1 j).2.1, .slice ea (wayOf u.1 j).2.2.length ec] = .agg #[.int .i64 (wayOf u.1 j).1, .int .i64 (wayOf u.1 j).2.1, .slice ea (wayOf u.1 j).2.2.length ec] from rfl];have HWD : Hid (∀ W', Below w.heap.size w W' → SlRd intR W' ea (wayOf u.1 j).2.2) := fun W' hb => by
       obtain ⟨ea', ec', e9, -, -, -, -, q⟩ := way_rd (hr W' hb);simp only [List.cons.injEq, and_true, Value.slice.injEq] at e9;obtain ⟨-, -, rfl, -⟩ := e9;exact q
      replace BB := below_step BB bq;replace B5 := below_step B5 bq;have F := row_keep bq HF.out;clear hr hr1 bq HF;generalize wayOf u.1 j = y at HWD hsm HFU i1 ⊢;go_upto_region 11 with fail
      have BZ := box_below w9 (.cells #[.int .i64 y.1, .int .i64 y.2.1, .slice ea y.2.2.length ec] 88);have Y := heap_at w9 (.cells #[.int .i64 y.1, .int .i64 y.2.1, .slice ea y.2.2.length ec] 88);generalize w9.alloc (.cells #[.int .i64 y.1, .int .i64 y.2.1, .slice ea y.2.2.length ec] 88) = wz at BZ Y ⊢;replace BB := below_step BB BZ;replace B5 := below_step B5 BZ;replace F := row_keep BZ F;obtain ⟨y0, y1, y2⟩ := cells_three Y;have HBF : Hid _ := And.intro BB (And.intro B5 F);clear Y BZ BB B5 F;by_cases hs : y.2.1 = 0
      ·have HE : Hid _ := yes_step HYS.out HX.out (by rw [HFU.out, decide_eq_true hs, Bool.true_or]);clear HYS;go_wp2;go_roundw
       case rel => exact ⟨m + 1, by omega, by go_num, HE.out, HBF.out⟩
       case measure => simp [intOf]; omega
      ·go_wp2_with fail
       refine (l1Same_any ea ta y.2.2 tt ec tc _ (HWD.out _ HBF.out.1) (HTD.out _ HBF.out.2.1) hsm htm).mono ?_;rintro e w7 ⟨rfl, b7⟩;have HB7 : Hid _ := And.intro (below_step HBF.out.1 b7) (And.intro (below_step HBF.out.2.1 b7) (row_keep b7 HBF.out.2.2));clear b7 HBF y0 y1 y2;cases hq : decide (y.2.2 = tt)
       ·have HN : Hid (freI x = false) := by
          unfold Hid;rw [HV.out];refine allT_not (j := j) (by omega) ?_;unfold freshL;exact all_not HX.out (by rw [HFU.out, hq, decide_eq_false hs]; rfl)
        clear HYS HNO;go_wp2;go_ret
        exact ⟨ret_bool HN.out.symm, HB7.out.1⟩
       ·have HE : Hid _ := yes_step HYS.out HX.out (by rw [HFU.out, hq, Bool.or_true]);clear HYS;go_wp2;go_roundw
        case rel => exact ⟨m + 1, by omega, by go_num, HE.out, HB7.out⟩
        case measure => simp [intOf]; omega
     ·have HE : Hid _ := allT_step (p := freshL x) HNO.out (List.all_eq_true.2 fun u hu => by
        obtain ⟨i, hi⟩ := List.getElem?_of_mem hu
        exact hyes i u (by have := (List.getElem?_eq_some_iff.1 hi).1; omega) hi)
      have hgm : ¬ ((m : Int) < (x.2.2.1.length : Int)) := by omega
      have HBF : Hid _ := And.intro BB F;clear hyes F BB B5 HNO;go_wp2;go_roundw
      case rel => exact ⟨j + 1, by omega, by go_num, HE.out, HBF.out⟩
      case measure => simp [intOf]; omega
   ·have hjn : j = x.1.2.2.2.toNat := by omega
    have HN : Hid (freI x = true) := by unfold Hid; rw [HV.out, ← hjn]; exact allT_end hno
    clear hno F;go_wp2;go_ret
    exact ⟨ret_bool HN.out.symm, BB⟩
end Go.Proofs.YtcocbafhcpdheaaGreatDoor
