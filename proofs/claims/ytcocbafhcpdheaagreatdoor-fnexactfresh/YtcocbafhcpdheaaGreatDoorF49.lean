import Derived.Test.YtcocbafhcpdheaaGreatDoorF00Box
import Derived.Test.YtcocbafhcpdheaaGreatDoorF48
namespace Go.Proofs.YtcocbafhcpdheaaGreatDoor
set_option maxHeartbeats 16000000
set_option maxRecDepth 20000
open Go.ChangeShapes Go.WideShapes Go.ChangeAt Go.RowKit
set_option linter.unusedVariables false
set_option linter.unusedSimpArgs false
def AnsD (w : World) (d : Option (List Int)) (e : Ending) (w' : World) : Prop := ∃ (a : Option Addr) (cap : Nat), e = .returned (.tuple #[.slice a (d.getD []).length cap, .bool d.isSome]) ∧ SlRd intR w' a (d.getD []) ∧ Below w.heap.size w w'
def AnsL (w : World) (d : List Int) (e : Ending) (w' : World) : Prop := ∃ (a : Option Addr) (cap : Nat), e = .returned (.slice a d.length cap) ∧ SlRd intR w' a d ∧ Below w.heap.size w w'
theorem aloneL (l s : Int) (n : Nat) (ad : Option Addr) (cpw : Nat) (w : World) (hh : HoldT w) (hs : betw s 0 3 = true) : Calls Tryz.prog 101 #[.agg #[.int .i64 l, .int .i64 s, .slice ad n cpw]] w fun e w' => e = .returned (.bool (decide (2 ≤ s))) ∧ Below w.heap.size w w' := by
 have B := box_below w (.cells #[.int .i64 l, .int .i64 s, .slice ad n cpw] 88);have hl := hh.lt;obtain ⟨c0, c1, c2, c3, c4, c5, c6, c7, c8, c9, c10, c11⟩ := (hh.goes B).cells;rcases state4 hs with rfl | rfl | rfl | rfl
 all_goals
  clear hs;have HB : Hid _ := B;clear B;go_enter Tryz.func101, Tryz.ntmps101;go_wp2;go_ret
  exact ⟨rfl, HB.out⟩
theorem brings_u (m : MsgD) (na : Option Addr) (nc : Nat) (o k : Int) (w : World) (hl : m.2.2.2.2.2.1.length ≤ 9223372036854775807) :
    Calls Tryz.prog 201 #[.agg #[.int .i64 m.1, .int .i64 m.2.1, .int .i64 m.2.2.1, .int .i64 m.2.2.2.1, .int .i64 m.2.2.2.2.1, .slice na m.2.2.2.2.2.1.length nc, .int .i64 m.2.2.2.2.2.2], .int .i64 o, .int .i64 k] w fun e w' => e = .returned (.bool (msgT o k m)) ∧ Below w.heap.size w w' := by
 have B := box_below w (.cells #[.int .i64 m.1, .int .i64 m.2.1, .int .i64 m.2.2.1, .int .i64 m.2.2.2.1, .int .i64 m.2.2.2.2.1, .slice na m.2.2.2.2.2.1.length nc, .int .i64 m.2.2.2.2.2.2] 119);have Y := heap_at w (.cells #[.int .i64 m.1, .int .i64 m.2.1, .int .i64 m.2.2.1, .int .i64 m.2.2.2.1, .int .i64 m.2.2.2.2.1, .slice na m.2.2.2.2.2.1.length nc, .int .i64 m.2.2.2.2.2.2] 119);go_enter Tryz.func201, Tryz.ntmps201;go_upto_region 1 with fail
 generalize w.alloc (.cells #[.int .i64 m.1, .int .i64 m.2.1, .int .i64 m.2.2.1, .int .i64 m.2.2.2.1, .int .i64 m.2.2.2.2.1, .slice na m.2.2.2.2.2.1.length nc, .int .i64 m.2.2.2.2.2.2] 119) = w1 at B Y ⊢;obtain ⟨y0, y1, y2, y3, y4, y5, y6⟩ := cells_7 Y;have HB : Hid _ := B;clear Y B;by_cases h1 : m.2.1 = o
 ·by_cases h4 : m.2.2.2.2.1 = k
  ·by_cases h5 : (m.2.2.2.2.2.1.length : Int) = 0
   ·by_cases h8 : m.2.2.2.1 = 8
    ·skip
     go_wp2;go_ret
     exact ⟨ret_bool (by rw [msgT_eq]; first | (simp [h1, h4, h5, h8]; done) | (rw [bne_iff_ne.2 h5, decide_eq_true h5]; simp [h1, h4, h5, h8])), HB.out⟩
    ·by_cases h3 : m.2.2.2.1 = 3
     ·skip
      go_wp2;go_ret
      exact ⟨ret_bool (by rw [msgT_eq]; first | (simp [h1, h4, h5, h8, h3]; done) | (rw [bne_iff_ne.2 h5, decide_eq_true h5]; simp [h1, h4, h5, h8, h3])), HB.out⟩
     ·skip
      go_wp2;go_ret
      exact ⟨ret_bool (by rw [msgT_eq]; first | (simp [h1, h4, h5, h8, h3]; done) | (rw [bne_iff_ne.2 h5, decide_eq_true h5]; simp [h1, h4, h5, h8, h3])), HB.out⟩
   ·by_cases h8 : m.2.2.2.1 = 8
    ·skip
     go_wp2;go_ret
     exact ⟨ret_bool (by rw [msgT_eq]; first | (simp [h1, h4, h5, h8]; done) | (rw [bne_iff_ne.2 h5, decide_eq_true h5]; simp [h1, h4, h5, h8])), HB.out⟩
    ·by_cases h3 : m.2.2.2.1 = 3
     ·skip
      go_wp2;go_ret
      exact ⟨ret_bool (by rw [msgT_eq]; first | (simp [h1, h4, h5, h8, h3]; done) | (rw [bne_iff_ne.2 h5, decide_eq_true h5]; simp [h1, h4, h5, h8, h3])), HB.out⟩
     ·skip
      go_wp2;go_ret
      exact ⟨ret_bool (by rw [msgT_eq]; first | (simp [h1, h4, h5, h8, h3]; done) | (rw [bne_iff_ne.2 h5, decide_eq_true h5]; simp [h1, h4, h5, h8, h3])), HB.out⟩
  ·skip
   go_wp2;go_ret
   exact ⟨ret_bool (by rw [msgT_eq]; first | (simp [h1, h4]; done) | (rw [bne_iff_ne.2 h5, decide_eq_true h5]; simp [h1, h4])), HB.out⟩
 ·skip
  go_wp2;go_ret
  exact ⟨ret_bool (by rw [msgT_eq]; first | (simp [h1]; done) | (rw [bne_iff_ne.2 h5, decide_eq_true h5]; simp [h1])), HB.out⟩
theorem onWay_u (x : FabricD) (a1 : Option Addr) (c1 : Nat) (b1 : Option Addr) (d1 : Nat) (a2 : Option Addr) (c2 : Nat) (a3 : Option Addr) (c3 : Nat) (b3 : Option Addr) (d3 : Nat) (a4 : Option Addr) (c4 : Nat) (a5 : Option Addr) (c5 : Nat) (w : World) (R : FabRd w x a1 c1 b1 d1 a2 c2 a3 c3 b3 d3 a4 c4 a5 c5) (o k : Int) :
    Calls Tryz.prog 155 #[.agg #[.int .i64 x.1.1, .int .i64 x.1.2.1, .int .i64 x.1.2.2.1, .int .i64 x.1.2.2.2, .slice a1 x.2.1.1.length c1, .slice b1 x.2.1.2.length d1, .slice a2 x.2.2.1.length c2, .slice a3 x.2.2.2.1.1.length c3, .int .i64 x.2.2.2.1.2.1, .bool x.2.2.2.1.2.2.1, .slice b3 x.2.2.2.1.2.2.2.length d3, .slice a4 x.2.2.2.2.1.length c4, .slice a5 x.2.2.2.2.2.length c5], .int .i64 o, .int .i64 k] w fun e w' => AnsD w (wayT x o k) e w' := by
 have RR : Hid (∀ W, Below w.heap.size w W → SlRd msgR W a4 x.2.2.2.2.1) := fun W hb => (fab_next R hb).net;have hnl : x.2.2.2.2.1.length ≤ 9223372036854775807 := R.netl;have B := Below.refl w.heap.size w;clear R;go_enter Tryz.func155, Tryz.ntmps155;go_upto_region 1 with fail
 have F := heap_at w (.cells #[.int .i64 x.1.1, .int .i64 x.1.2.1, .int .i64 x.1.2.2.1, .int .i64 x.1.2.2.2, .slice a1 x.2.1.1.length c1, .slice b1 x.2.1.2.length d1, .slice a2 x.2.2.1.length c2, .slice a3 x.2.2.2.1.1.length c3, .int .i64 x.2.2.2.1.2.1, .bool x.2.2.2.1.2.2.1, .slice b3 x.2.2.2.1.2.2.2.length d3, .slice a4 x.2.2.2.2.1.length c4, .slice a5 x.2.2.2.2.2.length c5] 50);have bz := box_below w (.cells #[.int .i64 x.1.1, .int .i64 x.1.2.1, .int .i64 x.1.2.2.1, .int .i64 x.1.2.2.2, .slice a1 x.2.1.1.length c1, .slice b1 x.2.1.2.length d1, .slice a2 x.2.2.1.length c2, .slice a3 x.2.2.2.1.1.length c3, .int .i64 x.2.2.2.1.2.1, .bool x.2.2.2.1.2.2.1, .slice b3 x.2.2.2.1.2.2.2.length d3, .slice a4 x.2.2.2.2.1.length c4, .slice a5 x.2.2.2.2.2.length c5] 50);have zF := alloc_len w (.cells #[.int .i64 x.1.1, .int .i64 x.1.2.1, .int .i64 x.1.2.2.1, .int .i64 x.1.2.2.2, .slice a1 x.2.1.1.length c1, .slice b1 x.2.1.2.length d1, .slice a2 x.2.2.1.length c2, .slice a3 x.2.2.2.1.1.length c3, .int .i64 x.2.2.2.1.2.1, .bool x.2.2.2.1.2.2.1, .slice b3 x.2.2.2.1.2.2.2.length d3, .slice a4 x.2.2.2.2.1.length c4, .slice a5 x.2.2.2.2.2.length c5] 50);replace B := below_step B bz;clear bz;generalize w.alloc (.cells #[.int .i64 x.1.1, .int .i64 x.1.2.1, .int .i64 x.1.2.2.1, .int .i64 x.1.2.2.2, .slice a1 x.2.1.1.length c1, .slice b1 x.2.1.2.length d1, .slice a2 x.2.2.1.length c2, .slice a3 x.2.2.2.1.1.length c3, .int .i64 x.2.2.2.1.2.1, .bool x.2.2.2.1.2.2.1, .slice b3 x.2.2.2.1.2.2.2.length d3, .slice a4 x.2.2.2.2.1.length c4, .slice a5 x.2.2.2.2.2.length c5] 50) = u1w at B F zF ⊢;clear zF;obtain ⟨Fc0, Fc1, Fc2, Fc3, Fc4, Fc5, Fc6, Fc7, Fc8, Fc9, Fc10, Fc11, Fc12⟩ := cells_fabric F;have Flt := (ltH F);clear F;go_wp2;clear Fc0 Fc1 Fc2 Fc3 Fc4 Fc5 Fc6 Fc7 Fc8 Fc9 Fc10 Fc11 Fc12 Flt;go_loopw [13] (fun i wr => ∃ j : Nat, j ≤ x.2.2.2.2.1.length ∧ i = .int .i64 j ∧ NoP (msgT o k) x.2.2.2.2.1 j ∧ Below w.heap.size w wr) (fun i _ => x.2.2.2.2.1.length - (intOf i).toNat)
 case atStart => exact ⟨0, Nat.zero_le _, rfl, fun i v hi => by omega, B⟩
 case round =>
  clear B;obtain ⟨j, hj, rfl, hno, BB⟩ := hrel;by_cases hlt : j < x.2.2.2.2.1.length
  ·have hlt' : (j : Int) < (x.2.2.2.2.1.length : Int) := by omega
   obtain ⟨m, hx⟩ : ∃ m, x.2.2.2.2.1[j]? = some m := ⟨_, List.getElem?_eq_getElem hlt⟩;obtain ⟨bb, off, cs, ra, hrdx, hcell⟩ := slrd_at (RR.out _ BB) hx;obtain ⟨na, nc, rfl, l1, l2, HMD⟩ := msg_at hrdx;obtain ⟨x0, x1, x2, x3, x4, x5, x6⟩ := cellsAt7 hcell rfl;subst ra;have hml2 : m.2.2.2.2.2.1.length ≤ 9223372036854775807 := Nat.le_trans l1 l2;have HX : Hid _ := hx;have HNO : Hid _ := hno;have HMR : Hid _ := HMD;clear hcell hrdx hx hno HMD l1 l2;go_upto_region 4 with fail
   clear x0 x1 x2 x3 x4 x5 x6;have BZ := box_below wr (.cells #[.int .i64 m.1, .int .i64 m.2.1, .int .i64 m.2.2.1, .int .i64 m.2.2.2.1, .int .i64 m.2.2.2.2.1, .slice na m.2.2.2.2.2.1.length nc, .int .i64 m.2.2.2.2.2.2] 119);have Y := heap_at wr (.cells #[.int .i64 m.1, .int .i64 m.2.1, .int .i64 m.2.2.1, .int .i64 m.2.2.2.1, .int .i64 m.2.2.2.2.1, .slice na m.2.2.2.2.2.1.length nc, .int .i64 m.2.2.2.2.2.2] 119);generalize wr.alloc (.cells #[.int .i64 m.1, .int .i64 m.2.1, .int .i64 m.2.2.1, .int .i64 m.2.2.2.1, .int .i64 m.2.2.2.2.1, .slice na m.2.2.2.2.2.1.length nc, .int .i64 m.2.2.2.2.2.2] 119) = wz at BZ Y ⊢;replace BB := below_step BB BZ;have HMD : Hid (SlRd intR wz na m.2.2.2.2.2.1) := slrd_next HMR.out BZ;obtain ⟨y0, y1, y2, y3, y4, y5, y6⟩ := cells_7 Y;clear BZ HMR;go_wp2_with fail
   clear y0 y1 y2 y3 y4 y5 y6;refine (brings_u m na nc o k wz hml2).mono ?_;rintro e w9 ⟨rfl, bq⟩;replace BB := below_step BB bq;replace Y := row_keep bq Y;have HMR : Hid (SlRd intR w9 na m.2.2.2.2.2.1) := slrd_next HMD.out bq;clear bq HMD;cases hq : msgT o k m
   ·have HE : Hid _ := no_step HNO.out HX.out hq;have HBF : Hid _ := BB;clear Y BB HNO;go_wp2;go_roundw
    case rel => exact ⟨j + 1, by omega, by go_num, HE.out, HBF.out⟩
    case measure => simp [intOf]; omega
   ·have HTW : Hid (wayT x o k = some m.2.2.2.2.2.1) := by unfold Hid wayT; rw [find_at HX.out hq HNO.out]; rfl
    have HBB : Hid _ := BB;obtain ⟨y0, y1, y2, y3, y4, y5, y6⟩ := cells_7 Y;clear Y BB HNO;go_wp2;refine bodyPost_ret (v := .tuple #[.slice na m.2.2.2.2.2.1.length nc, .bool true]) (by simp [results, Tryz.results155, go_sem]) rfl ⟨na, nc, by rw [HTW.out]; rfl, by rw [HTW.out]; exact HMR.out, HBB.out⟩
  ·have HN : Hid (wayT x o k = none) := by unfold Hid wayT; rw [find_no fun i v hv => hno i v (by have := (List.getElem?_eq_some_iff.1 hv).1; omega) hv]; rfl
   have hge : ¬ ((j : Int) < (x.2.2.2.2.1.length : Int)) := by omega
   clear hno;go_wp2;refine bodyPost_ret (v := .tuple #[.slice none 0 0, .bool false]) (by simp [results, Tryz.results155, go_sem]) rfl ⟨none, 0, by rw [HN.out]; rfl, by rw [HN.out]; exact .inl rfl, BB⟩
theorem ofOwner_u (x : FabricD) (a1 : Option Addr) (c1 : Nat) (b1 : Option Addr) (d1 : Nat) (a2 : Option Addr) (c2 : Nat) (a3 : Option Addr) (c3 : Nat) (b3 : Option Addr) (d3 : Nat) (a4 : Option Addr) (c4 : Nat) (a5 : Option Addr) (c5 : Nat) (w : World) (R : FabRd w x a1 c1 b1 d1 a2 c2 a3 c3 b3 d3 a4 c4 a5 c5) (hh : HoldT w) (kn on : Nat) (en : EntryD) (u : CoreD) (hen : x.2.1.2[kn]? = some en) (ho : en.1 = (on : Int)) (hu : x.2.2.1[on]? = some u) (hr : betw u.2.2.2.2.1.2.1 0 3 = true) (hb16 : x.2.1.2.length ≤ 16) (hc4 : x.2.2.1.length ≤ 4) :
    Calls Tryz.prog 102 #[.agg #[.int .i64 x.1.1, .int .i64 x.1.2.1, .int .i64 x.1.2.2.1, .int .i64 x.1.2.2.2, .slice a1 x.2.1.1.length c1, .slice b1 x.2.1.2.length d1, .slice a2 x.2.2.1.length c2, .slice a3 x.2.2.2.1.1.length c3, .int .i64 x.2.2.2.1.2.1, .bool x.2.2.2.1.2.2.1, .slice b3 x.2.2.2.1.2.2.2.length d3, .slice a4 x.2.2.2.2.1.length c4, .slice a5 x.2.2.2.2.2.length c5], .int .i64 kn] w fun e w' => AnsD w (ownT x on kn u) e w' := by
 have H1 : Hid (∀ W, Below w.heap.size w W → Calls Tryz.prog 155 #[.agg #[.int .i64 x.1.1, .int .i64 x.1.2.1, .int .i64 x.1.2.2.1, .int .i64 x.1.2.2.2, .slice a1 x.2.1.1.length c1, .slice b1 x.2.1.2.length d1, .slice a2 x.2.2.1.length c2, .slice a3 x.2.2.2.1.1.length c3, .int .i64 x.2.2.2.1.2.1, .bool x.2.2.2.1.2.2.1, .slice b3 x.2.2.2.1.2.2.2.length d3, .slice a4 x.2.2.2.2.1.length c4, .slice a5 x.2.2.2.2.2.length c5], .int .i64 on, .int .i64 kn] W fun e w' => AnsD W (wayT x on kn) e w') := fun W hb => onWay_u x a1 c1 b1 d1 a2 c2 a3 c3 b3 d3 a4 c4 a5 c5 W (fab_next R hb) on kn;have HH : Hid (∀ W, Below w.heap.size w W → HoldT W) := fun W hb => hh.goes hb;have RB : Hid (∀ W, Below w.heap.size w W → SlRd entR W b1 x.2.1.2) := fun W hb => (fab_next R hb).book;have RC : Hid (∀ W, Below w.heap.size w W → SlRd coreR W a2 x.2.2.1) := fun W hb => (fab_next R hb).cores;have hkb : kn < x.2.1.2.length := (List.getElem?_eq_some_iff.1 hen).1;have hkb' : (kn : Int) < (x.2.1.2.length : Int) := by omega
 have hol : on < x.2.2.1.length := (List.getElem?_eq_some_iff.1 hu).1;have hol' : (on : Int) < (x.2.2.1.length : Int) := by omega
 have B := Below.refl w.heap.size w;clear R hh;go_enter Tryz.func102, Tryz.ntmps102;go_upto_region 1 with fail
 have F := heap_at w (.cells #[.int .i64 x.1.1, .int .i64 x.1.2.1, .int .i64 x.1.2.2.1, .int .i64 x.1.2.2.2, .slice a1 x.2.1.1.length c1, .slice b1 x.2.1.2.length d1, .slice a2 x.2.2.1.length c2, .slice a3 x.2.2.2.1.1.length c3, .int .i64 x.2.2.2.1.2.1, .bool x.2.2.2.1.2.2.1, .slice b3 x.2.2.2.1.2.2.2.length d3, .slice a4 x.2.2.2.2.1.length c4, .slice a5 x.2.2.2.2.2.length c5] 50);have bz := box_below w (.cells #[.int .i64 x.1.1, .int .i64 x.1.2.1, .int .i64 x.1.2.2.1, .int .i64 x.1.2.2.2, .slice a1 x.2.1.1.length c1, .slice b1 x.2.1.2.length d1, .slice a2 x.2.2.1.length c2, .slice a3 x.2.2.2.1.1.length c3, .int .i64 x.2.2.2.1.2.1, .bool x.2.2.2.1.2.2.1, .slice b3 x.2.2.2.1.2.2.2.length d3, .slice a4 x.2.2.2.2.1.length c4, .slice a5 x.2.2.2.2.2.length c5] 50);have zF := alloc_len w (.cells #[.int .i64 x.1.1, .int .i64 x.1.2.1, .int .i64 x.1.2.2.1, .int .i64 x.1.2.2.2, .slice a1 x.2.1.1.length c1, .slice b1 x.2.1.2.length d1, .slice a2 x.2.2.1.length c2, .slice a3 x.2.2.2.1.1.length c3, .int .i64 x.2.2.2.1.2.1, .bool x.2.2.2.1.2.2.1, .slice b3 x.2.2.2.1.2.2.2.length d3, .slice a4 x.2.2.2.2.1.length c4, .slice a5 x.2.2.2.2.2.length c5] 50);replace B := below_step B bz;clear bz;generalize w.alloc (.cells #[.int .i64 x.1.1, .int .i64 x.1.2.1, .int .i64 x.1.2.2.1, .int .i64 x.1.2.2.2, .slice a1 x.2.1.1.length c1, .slice b1 x.2.1.2.length d1, .slice a2 x.2.2.1.length c2, .slice a3 x.2.2.2.1.1.length c3, .int .i64 x.2.2.2.1.2.1, .bool x.2.2.2.1.2.2.1, .slice b3 x.2.2.2.1.2.2.2.length d3, .slice a4 x.2.2.2.2.1.length c4, .slice a5 x.2.2.2.2.2.length c5] 50) = u1w at B F zF ⊢;clear zF;obtain ⟨be, oe, ce, rae, hrde, hcelle⟩ := slrd_at (RB.out _ B) hen;obtain ⟨ga, gc, rfl⟩ := ent_shape hrde;have e0 := hcelle 0 _ rfl;rw [show oe + (kn * entR.size + 0) = oe + kn * 8 from rfl, ho] at e0;subst rae;obtain ⟨Fc0, Fc1, Fc2, Fc3, Fc4, Fc5, Fc6, Fc7, Fc8, Fc9, Fc10, Fc11, Fc12⟩ := cells_fabric F;have Flt := (ltH F);clear hcelle hrde hen;go_upto_region 2 with fail
 clear e0 Fc0 Fc1 Fc2 Fc3 Fc4 Fc5 Fc6 Fc7 Fc8 Fc9 Fc10 Fc11 Fc12 Flt;obtain ⟨bb, off, cs, ra, hrdx, hcell⟩ := slrd_at (RC.out _ B) hu;obtain ⟨ga, gc, gb, gd, ha, hc, ia, ic, ja, jc, rfl⟩ := core_shape hrdx;have HMM : Hid _ := core_held hrdx;obtain ⟨x0, x1, x2, x3, x4, x5, x6, x7, x8⟩ := cellsAt9 hcell rfl;subst ra;obtain ⟨Fc0, Fc1, Fc2, Fc3, Fc4, Fc5, Fc6, Fc7, Fc8, Fc9, Fc10, Fc11, Fc12⟩ := cells_fabric F;have Flt := (ltH F);clear hcell hrdx hu;go_upto_region 3 with fail
 clear x0 x1 x2 x3 x4 x5 x6 x7 x8 Fc0 Fc1 Fc2 Fc3 Fc4 Fc5 Fc6 Fc7 Fc8 Fc9 Fc10 Fc11 Fc12 Flt;have BZ := box_below u1w (.cells #[.int .i64 u.2.2.2.2.1.1, .int .i64 u.2.2.2.2.1.2.1, .slice ia u.2.2.2.2.1.2.2.length ic] 88);have Y := heap_at u1w (.cells #[.int .i64 u.2.2.2.2.1.1, .int .i64 u.2.2.2.2.1.2.1, .slice ia u.2.2.2.2.1.2.2.length ic] 88);generalize u1w.alloc (.cells #[.int .i64 u.2.2.2.2.1.1, .int .i64 u.2.2.2.2.1.2.1, .slice ia u.2.2.2.2.1.2.2.length ic] 88) = wz at BZ Y ⊢;replace B := below_step B BZ;replace F := row_keep BZ F;have HMD : Hid (SlRd intR wz ia u.2.2.2.2.1.2.2) := slrd_next HMM.out BZ;clear HMM BZ;obtain ⟨y0, y1, y2⟩ := cells_three Y;by_cases hl : u.2.2.2.2.1.1 = (kn : Int)
 ·go_wp2_with fail
  clear y0 y1 y2;refine (aloneL _ u.2.2.2.2.1.2.1 _ ia ic wz (HH.out _ B) hr).mono ?_;rintro e w9 ⟨rfl, bq⟩;replace B := below_step B bq;replace F := row_keep bq F;replace Y := row_keep bq Y;have HMR : Hid (SlRd intR w9 ia u.2.2.2.2.1.2.2) := slrd_next HMD.out bq;clear bq HMD;cases h2 : decide (2 ≤ u.2.2.2.2.1.2.1)
  ·have HV : Hid (ownT x on kn u = wayT x on kn) := by unfold Hid ownT heldB; rw [h2, decide_eq_true hl]; rfl
   clear Y;obtain ⟨Fc0, Fc1, Fc2, Fc3, Fc4, Fc5, Fc6, Fc7, Fc8, Fc9, Fc10, Fc11, Fc12⟩ := cells_fabric F;have Flt := (ltH F);go_wp2_with fail
   clear Fc0 Fc1 Fc2 Fc3 Fc4 Fc5 Fc6 Fc7 Fc8 Fc9 Fc10 Fc11 Fc12 Flt;refine (H1.out _ B).mono ?_;rintro e w7 ⟨pa, pc, rfl, hs, bq⟩;have HB : Hid _ := And.intro hs (below_step B bq);clear hs bq B F;go_wp2;refine bodyPost_ret (v := .tuple #[.slice pa ((wayT x on kn).getD []).length pc, .bool (wayT x on kn).isSome]) (by simp [results, Tryz.results102, go_sem]) rfl ⟨pa, pc, by rw [HV.out], by rw [HV.out]; exact HB.out.1, HB.out.2⟩
  ·have HV : Hid (ownT x on kn u = some u.2.2.2.2.1.2.2) := by unfold Hid ownT heldB; rw [h2, decide_eq_true hl]; rfl
   obtain ⟨y0, y1, y2⟩ := cells_three Y;have HB : Hid _ := B;clear Y B F;go_wp2;refine bodyPost_ret (v := .tuple #[.slice ia u.2.2.2.2.1.2.2.length ic, .bool true]) (by simp [results, Tryz.results102, go_sem]) rfl ⟨ia, ic, by rw [HV.out]; rfl, by rw [HV.out]; exact HMR.out, HB.out⟩
 ·have HV : Hid (ownT x on kn u = wayT x on kn) := by unfold Hid ownT heldB; rw [decide_eq_false hl]; rfl
  clear Y;obtain ⟨Fc0, Fc1, Fc2, Fc3, Fc4, Fc5, Fc6, Fc7, Fc8, Fc9, Fc10, Fc11, Fc12⟩ := cells_fabric F;have Flt := (ltH F);go_wp2_with fail
  clear Fc0 Fc1 Fc2 Fc3 Fc4 Fc5 Fc6 Fc7 Fc8 Fc9 Fc10 Fc11 Fc12 Flt y0 y1 y2;refine (H1.out _ B).mono ?_;rintro e w7 ⟨pa, pc, rfl, hs, bq⟩;have HB : Hid _ := And.intro hs (below_step B bq);clear hs bq B F;go_wp2;refine bodyPost_ret (v := .tuple #[.slice pa ((wayT x on kn).getD []).length pc, .bool (wayT x on kn).isSome]) (by simp [results, Tryz.results102, go_sem]) rfl ⟨pa, pc, by rw [HV.out], by rw [HV.out]; exact HB.out.1, HB.out.2⟩
theorem rest_bkI (x : FabricD) (o k : Int) : (restT x o k).length ≤ fabricM.bk x := by
 unfold restT;split
 ·rename_i m hm
  exact net_bk (List.mem_of_find?_eq_some hm)
 ·rw [List.getD_eq_getElem?_getD];cases h : x.2.1.1[k.toNat]? with
  | none => exact Nat.zero_le _
  | some d => exact mem_bk (List.mem_of_getElem? h)
theorem truth_bkI {x : FabricD} (hf : fabI x = true) (k : Int) : (truthI x k).length ≤ fabricM.bk x := by
 unfold truthI;split
 ·rename_i u hu
  have hm := List.mem_of_find?_eq_some hu;exact Nat.le_trans (wayOf_bk (fab_core hf hm) k) (core_bk hm).1
 ·unfold heldT;split
  ·split
   ·rename_i u hu
    split
    ·exact (core_bk (List.mem_of_getElem? hu)).2
    ·exact rest_bkI x _ k
   ·exact Nat.zero_le _
  ·exact rest_bkI x _ k
theorem truth_u (x : FabricD) (a1 : Option Addr) (c1 : Nat) (b1 : Option Addr) (d1 : Nat) (a2 : Option Addr) (c2 : Nat) (a3 : Option Addr) (c3 : Nat) (b3 : Option Addr) (d3 : Nat) (a4 : Option Addr) (c4 : Nat) (a5 : Option Addr) (c5 : Nat) (w : World) (R : FabRd w x a1 c1 b1 d1 a2 c2 a3 c3 b3 d3 a4 c4 a5 c5) (hh : HoldT w) (hf : fabI x = true) (k : Int) (hk0 : 0 ≤ k) (hk1 : k < x.1.2.2.2) :
    Calls Tryz.prog 54 #[.agg #[.int .i64 x.1.1, .int .i64 x.1.2.1, .int .i64 x.1.2.2.1, .int .i64 x.1.2.2.2, .slice a1 x.2.1.1.length c1, .slice b1 x.2.1.2.length d1, .slice a2 x.2.2.1.length c2, .slice a3 x.2.2.2.1.1.length c3, .int .i64 x.2.2.2.1.2.1, .bool x.2.2.2.1.2.2.1, .slice b3 x.2.2.2.1.2.2.2.length d3, .slice a4 x.2.2.2.2.1.length c4, .slice a5 x.2.2.2.2.2.length c5], .int .i64 k] w fun e w' => AnsL w (truthI x k) e w' := by
 have RR : Hid (∀ W, Below w.heap.size w W → FabRd W x a1 c1 b1 d1 a2 c2 a3 c3 b3 d3 a4 c4 a5 c5) := fun W hb => fab_next R hb;have HH : Hid (∀ W, Below w.heap.size w W → HoldT W) := fun W hb => hh.goes hb;have HOK : Hid (∀ u, u ∈ x.2.2.1 → OkC isL treeB u.1) := fun u hu => fab_core hf hu;have HRN : Hid (∀ u, u ∈ x.2.2.1 → betw u.2.2.2.2.1.2.1 0 3 = true) := fun u hu => held_rng (fab_coreB hf hu);obtain ⟨⟨hc1, hc4⟩, hcl, -⟩ := fab_facts hf;obtain ⟨⟨hl1, hl16⟩, hbl⟩ := fab_lines hf;have hml := fab_mem hf;have HBO : Hid (∀ e, e ∈ x.2.1.2 → -1 ≤ e.1 ∧ e.1 < (x.2.2.1.length : Int)) := fun e he => ⟨fab_owner hf he, by have := fab_book hf he; omega⟩;have HNO1 : Hid _ := held_no hf;obtain ⟨kn, rfl⟩ : ∃ kn : Nat, k = kn := ⟨k.toNat, by omega⟩;have hkb : kn < x.2.1.2.length := by omega
 have hkb' : (kn : Int) < (x.2.1.2.length : Int) := by omega
 have hkm : kn < x.2.1.1.length := by omega
 have hkm' : (kn : Int) < (x.2.1.1.length : Int) := by omega
 have hb16 : x.2.1.2.length ≤ 16 := by omega
 have hcl4 : x.2.2.1.length ≤ 4 := by omega
 have B := Below.refl w.heap.size w;clear R hf hk1 hml hcl hbl hc1 hc4 hl1 hl16 hh;go_enter Tryz.func54, Tryz.ntmps54;go_upto_region 1 with fail
 have F := heap_at w (.cells #[.int .i64 x.1.1, .int .i64 x.1.2.1, .int .i64 x.1.2.2.1, .int .i64 x.1.2.2.2, .slice a1 x.2.1.1.length c1, .slice b1 x.2.1.2.length d1, .slice a2 x.2.2.1.length c2, .slice a3 x.2.2.2.1.1.length c3, .int .i64 x.2.2.2.1.2.1, .bool x.2.2.2.1.2.2.1, .slice b3 x.2.2.2.1.2.2.2.length d3, .slice a4 x.2.2.2.2.1.length c4, .slice a5 x.2.2.2.2.2.length c5] 50);have bz := box_below w (.cells #[.int .i64 x.1.1, .int .i64 x.1.2.1, .int .i64 x.1.2.2.1, .int .i64 x.1.2.2.2, .slice a1 x.2.1.1.length c1, .slice b1 x.2.1.2.length d1, .slice a2 x.2.2.1.length c2, .slice a3 x.2.2.2.1.1.length c3, .int .i64 x.2.2.2.1.2.1, .bool x.2.2.2.1.2.2.1, .slice b3 x.2.2.2.1.2.2.2.length d3, .slice a4 x.2.2.2.2.1.length c4, .slice a5 x.2.2.2.2.2.length c5] 50);have zF := alloc_len w (.cells #[.int .i64 x.1.1, .int .i64 x.1.2.1, .int .i64 x.1.2.2.1, .int .i64 x.1.2.2.2, .slice a1 x.2.1.1.length c1, .slice b1 x.2.1.2.length d1, .slice a2 x.2.2.1.length c2, .slice a3 x.2.2.2.1.1.length c3, .int .i64 x.2.2.2.1.2.1, .bool x.2.2.2.1.2.2.1, .slice b3 x.2.2.2.1.2.2.2.length d3, .slice a4 x.2.2.2.2.1.length c4, .slice a5 x.2.2.2.2.2.length c5] 50);replace B := below_step B bz;clear bz;generalize w.alloc (.cells #[.int .i64 x.1.1, .int .i64 x.1.2.1, .int .i64 x.1.2.2.1, .int .i64 x.1.2.2.2, .slice a1 x.2.1.1.length c1, .slice b1 x.2.1.2.length d1, .slice a2 x.2.2.1.length c2, .slice a3 x.2.2.2.1.1.length c3, .int .i64 x.2.2.2.1.2.1, .bool x.2.2.2.1.2.2.1, .slice b3 x.2.2.2.1.2.2.2.length d3, .slice a4 x.2.2.2.2.1.length c4, .slice a5 x.2.2.2.2.2.length c5] 50) = u1w at B F zF ⊢;clear zF;have HF : Hid _ := F;obtain ⟨Fc0, Fc1, Fc2, Fc3, Fc4, Fc5, Fc6, Fc7, Fc8, Fc9, Fc10, Fc11, Fc12⟩ := cells_fabric F;have Flt := (ltH F);clear F;go_wp2;clear Fc0 Fc1 Fc2 Fc3 Fc4 Fc5 Fc6 Fc7 Fc8 Fc9 Fc10 Fc11 Fc12 Flt;go_loopw [13] (fun i wr => ∃ j : Nat, j ≤ x.2.2.1.length ∧ i = .int .i64 j ∧ NoP (dirtyC kn) x.2.2.1 j ∧ Below w.heap.size w wr ∧ wr.heap[w.heap.size]? = some (.cells #[.int .i64 x.1.1, .int .i64 x.1.2.1, .int .i64 x.1.2.2.1, .int .i64 x.1.2.2.2, .slice a1 x.2.1.1.length c1, .slice b1 x.2.1.2.length d1, .slice a2 x.2.2.1.length c2, .slice a3 x.2.2.2.1.1.length c3, .int .i64 x.2.2.2.1.2.1, .bool x.2.2.2.1.2.2.1, .slice b3 x.2.2.2.1.2.2.2.length d3, .slice a4 x.2.2.2.2.1.length c4, .slice a5 x.2.2.2.2.2.length c5] 50 (0, 0))) (fun i _ => x.2.2.1.length - (intOf i).toNat)
 case atStart => exact ⟨0, Nat.zero_le _, rfl, fun i v hi => by omega, B, HF.out⟩
 case round =>
  clear B HF;obtain ⟨j, hj, rfl, hno, BB, F⟩ := hrel;by_cases hlt : j < x.2.2.1.length
  ·have hlt' : (j : Int) < (x.2.2.1.length : Int) := by omega
   obtain ⟨u, hx⟩ : ∃ u, x.2.2.1[j]? = some u := ⟨_, List.getElem?_eq_getElem hlt⟩;have hmem := List.mem_of_getElem? hx;obtain ⟨bb, off, cs, ra, hrdx, hcell⟩ := slrd_at (RR.out _ BB).cores hx;have HC : Hid (∀ V, Below wr.heap.size wr V → Calls Tryz.prog 77 #[aggV cs, .int .i64 kn] V fun e w' => ∃ us, e = .returned (aggV us) ∧ MadeR wayR V w' us (wayOf u.1 kn)) := fun V hv => own_u cs u kn V (HOK.out u hmem) (rd_next hrdx hv);obtain ⟨ga, gc, gb, gd, ha, hc, ia, ic, ja, jc, rfl⟩ := core_shape hrdx;rw [show aggV [.slice ga u.1.1.length gc, .slice gb u.1.2.length gd, .slice ha u.2.1.length hc, .int .i64 u.2.2.1, .int .i64 u.2.2.2.1, .int .i64 u.2.2.2.2.1.1, .int .i64 u.2.2.2.2.1.2.1, .slice ia u.2.2.2.2.1.2.2.length ic, .slice ja u.2.2.2.2.2.length jc] = .agg #[.slice ga u.1.1.length gc, .slice gb u.1.2.length gd, .slice ha u.2.1.length hc, .int .i64 u.2.2.1, .int .i64 u.2.2.2.1, .int .i64 u.2.2.2.2.1.1, .int .i64 u.2.2.2.2.1.2.1, .slice ia u.2.2.2.2.1.2.2.length ic, .slice ja u.2.2.2.2.2.length jc] from rfl] at HC;obtain ⟨x0, x1, x2, x3, x4, x5, x6, x7, x8⟩ := cellsAt9 hcell rfl;subst ra;have HRG : Hid _ := (way_rng4 (HOK.out u hmem) kn).1;have HX : Hid _ := hx;have HNO : Hid _ := hno;have X := heap_at wr (.cells #[.slice ga u.1.1.length gc, .slice gb u.1.2.length gd, .slice ha u.2.1.length hc, .int .i64 u.2.2.1, .int .i64 u.2.2.2.1, .int .i64 u.2.2.2.2.1.1, .int .i64 u.2.2.2.2.1.2.1, .slice ia u.2.2.2.2.1.2.2.length ic, .slice ja u.2.2.2.2.2.length jc] 95);have BZ := box_below wr (.cells #[.slice ga u.1.1.length gc, .slice gb u.1.2.length gd, .slice ha u.2.1.length hc, .int .i64 u.2.2.1, .int .i64 u.2.2.2.1, .int .i64 u.2.2.2.2.1.1, .int .i64 u.2.2.2.2.1.2.1, .slice ia u.2.2.2.2.1.2.2.length ic, .slice ja u.2.2.2.2.2.length jc] 95);clear hcell hrdx hx hmem hno;go_upto_region 4 with fail
   clear x0 x1 x2 x3 x4 x5 x6 x7 x8;generalize wr.alloc (.cells #[.slice ga u.1.1.length gc, .slice gb u.1.2.length gd, .slice ha u.2.1.length hc, .int .i64 u.2.2.1, .int .i64 u.2.2.2.1, .int .i64 u.2.2.2.2.1.1, .int .i64 u.2.2.2.2.1.2.1, .slice ia u.2.2.2.2.1.2.2.length ic, .slice ja u.2.2.2.2.2.length jc] 95) = wv at X BZ ⊢;obtain ⟨x0, x1, x2, x3, x4, x5, x6, x7, x8⟩ := cells_core X;go_wp2_with fail
   clear x0 x1 x2 x3 x4 x5 x6 x7 x8 X;refine (HC.out _ BZ).mono ?_;rintro e w9 ⟨us, rfl, M9⟩;clear HC;have bq := below_step BZ M9.2;obtain ⟨ea, ec, rfl, -, i1, -, -, HWD⟩ := way_rd (wayR.own_rd M9.1);rw [show aggV [.int .i64 (wayOf u.1 kn).1, .int .i64 (wayOf u.1 kn).2.1, .slice ea (wayOf u.1 kn).2.2.length ec] = .agg #[.int .i64 (wayOf u.1 kn).1, .int .i64 (wayOf u.1 kn).2.1, .slice ea (wayOf u.1 kn).2.2.length ec] from rfl];replace BB := below_step BB bq;replace F := row_keep bq F;clear M9 BZ bq;have HTR : Hid (dirtyC kn u = true → truthI x kn = (wayOf u.1 kn).2.2) := fun hd => by unfold truthI; rw [find_at HX.out hd HNO.out]
   have HDS : Hid (dirtyC kn u = decide (2 ≤ (wayOf u.1 kn).2.1)) := rfl;generalize wayOf u.1 kn = y at HWD HTR HDS HRG i1 ⊢;have HWE : Hid _ := HWD;clear HWD i1;go_upto_region 5 with fail
   have BZ := box_below w9 (.cells #[.int .i64 y.1, .int .i64 y.2.1, .slice ea y.2.2.length ec] 88);have Y := heap_at w9 (.cells #[.int .i64 y.1, .int .i64 y.2.1, .slice ea y.2.2.length ec] 88);generalize w9.alloc (.cells #[.int .i64 y.1, .int .i64 y.2.1, .slice ea y.2.2.length ec] 88) = wz at BZ Y ⊢;replace BB := below_step BB BZ;replace F := row_keep BZ F;have HWD : Hid (SlRd intR wz ea y.2.2) := slrd_next HWE.out BZ;clear BZ HWE;obtain ⟨y0, y1, y2⟩ := cells_three Y;go_wp2_with fail
   clear y0 y1 y2;refine (aloneL _ y.2.1 _ ea ec wz (HH.out _ BB) HRG.out).mono ?_;rintro e w8 ⟨rfl, bq⟩;replace BB := below_step BB bq;replace F := row_keep bq F;replace Y := row_keep bq Y;have HWF : Hid (SlRd intR w8 ea y.2.2) := slrd_next HWD.out bq;clear bq HWD HRG;cases hd : decide (2 ≤ y.2.1)
   ·have HE : Hid _ := no_step HNO.out HX.out (by rw [HDS.out, hd]);have HBF : Hid _ := And.intro BB F;clear F HNO HTR HDS Y BB;go_wp2;go_roundw
    case rel => exact ⟨j + 1, by omega, by go_num, HE.out, HBF.out⟩
    case measure => simp [intOf]; omega
   ·have HTV : Hid (truthI x kn = y.2.2) := HTR.out (by rw [HDS.out, hd]);have HBB : Hid _ := BB;obtain ⟨y0, y1, y2⟩ := cells_three Y;clear F HNO HTR HDS Y BB;go_wp2;go_ret
    exact ⟨ea, ec, by rw [HTV.out]; first | done | rfl, by rw [HTV.out]; exact HWF.out, HBB.out⟩
  ·have HD : Hid (x.2.2.1.find? (dirtyC kn) = none) := find_no fun i v hv => hno i v (by have := (List.getElem?_eq_some_iff.1 hv).1; omega) hv;have hge : ¬ ((j : Int) < (x.2.2.1.length : Int)) := by omega
   obtain ⟨en, hen⟩ : ∃ en, x.2.1.2[kn]? = some en := ⟨_, List.getElem?_eq_getElem hkb⟩;have HTR : Hid (truthI x kn = heldT x en.1 kn) := by
    unfold Hid truthI ownerI;rw [HD.out, Int.toNat_natCast, hen]
   obtain ⟨how1, how⟩ := HBO.out en (List.mem_of_getElem? hen);obtain ⟨be, oe, ce, rae, hrde, hcelle⟩ := slrd_at (RR.out _ BB).book hen;obtain ⟨ga, gc, rfl⟩ := ent_shape hrde;have e0 := hcelle 0 _ rfl;rw [show oe + (kn * entR.size + 0) = oe + kn * 8 from rfl] at e0;have HEN : Hid _ := hen;clear hno hcelle hrde hen HD hlt hj HBO;by_cases ho : en.1 = -1
   ·have HTV : Hid (truthI x kn = x.2.1.1.getD (kn : Int).toNat []) := by unfold Hid; rw [HTR.out, ho]; exact HNO1.out kn
    subst rae;obtain ⟨Fc0, Fc1, Fc2, Fc3, Fc4, Fc5, Fc6, Fc7, Fc8, Fc9, Fc10, Fc11, Fc12⟩ := cells_fabric F;have Flt := (ltH F);go_upto_region 12 with fail
    clear e0 Fc0 Fc1 Fc2 Fc3 Fc4 Fc5 Fc6 Fc7 Fc8 Fc9 Fc10 Fc11 Fc12 Flt;obtain ⟨d, hd⟩ : ∃ d, x.2.1.1[kn]? = some d := ⟨_, List.getElem?_eq_getElem hkm⟩;have HTW : Hid (truthI x kn = d) := by
     unfold Hid;rw [HTV.out, Int.toNat_natCast, List.getD_eq_getElem?_getD, hd];rfl
    obtain ⟨bm, om, cm, ram, ⟨aj, cj, rfl, -, -, hrdm⟩, hcellm⟩ := slrd_at (house_mem (RR.out _ BB)).1 hd;have m0 := hcellm 0 _ rfl;rw [show om + (kn * intsR.size + 0) = om + kn from by rw [show intsR.size = 1 from rfl]; omega] at m0;subst ram;obtain ⟨Fc0, Fc1, Fc2, Fc3, Fc4, Fc5, Fc6, Fc7, Fc8, Fc9, Fc10, Fc11, Fc12⟩ := cells_fabric F;have Flt := (ltH F);have HMM : Hid _ := hrdm;have HBB : Hid _ := BB;clear hcellm hrdm hd F BB;go_wp2;go_ret
    exact ⟨aj, cj, by rw [HTW.out]; first | done | rfl, by rw [HTW.out]; exact HMM.out, HBB.out⟩
   ·obtain ⟨on, hon⟩ : ∃ on : Nat, en.1 = on := ⟨en.1.toNat, by omega⟩;obtain ⟨u, hu⟩ : ∃ u, x.2.2.1[on]? = some u := ⟨_, List.getElem?_eq_getElem (by omega)⟩;have HTO : Hid (truthI x kn = (ownT x on kn u).getD (x.2.1.1.getD (kn : Int).toNat [])) := by unfold Hid; rw [HTR.out, hon]; exact held_own hu
    have H1 : Hid (∀ W, Below w.heap.size w W → Calls Tryz.prog 102 #[.agg #[.int .i64 x.1.1, .int .i64 x.1.2.1, .int .i64 x.1.2.2.1, .int .i64 x.1.2.2.2, .slice a1 x.2.1.1.length c1, .slice b1 x.2.1.2.length d1, .slice a2 x.2.2.1.length c2, .slice a3 x.2.2.2.1.1.length c3, .int .i64 x.2.2.2.1.2.1, .bool x.2.2.2.1.2.2.1, .slice b3 x.2.2.2.1.2.2.2.length d3, .slice a4 x.2.2.2.2.1.length c4, .slice a5 x.2.2.2.2.2.length c5], .int .i64 kn] W fun e w' => AnsD W (ownT x on kn u) e w') := fun W hb => ofOwner_u x a1 c1 b1 d1 a2 c2 a3 c3 b3 d3 a4 c4 a5 c5 W (RR.out W hb) (HH.out W hb) kn on en u HEN.out hon hu (HRN.out u (List.mem_of_getElem? hu)) hb16 hcl4;generalize ownT x on kn u = od at HTO H1;clear HTR hu;subst rae;obtain ⟨Fc0, Fc1, Fc2, Fc3, Fc4, Fc5, Fc6, Fc7, Fc8, Fc9, Fc10, Fc11, Fc12⟩ := cells_fabric F;have Flt := (ltH F);go_wp2_with fail
    clear e0 Fc0 Fc1 Fc2 Fc3 Fc4 Fc5 Fc6 Fc7 Fc8 Fc9 Fc10 Fc11 Fc12 Flt;refine (H1.out _ BB).mono ?_;rintro e w7 ⟨pa, pc, rfl, hs, bq⟩;replace BB := below_step BB bq;replace F := row_keep bq F;clear bq H1;cases od with
    | some d =>
     have HTV : Hid (truthI x kn = d) := HTO.out;have HS : Hid (SlRd intR w7 pa d) := hs;have HBB : Hid _ := BB;clear hs BB F;rw [show (some d).getD [] = d from rfl, show (some d).isSome = true from rfl];go_wp2;go_ret
     exact ⟨pa, pc, by rw [HTV.out]; first | done | rfl, by rw [HTV.out]; exact HS.out, HBB.out⟩
    | none =>
     have HTV : Hid (truthI x kn = x.2.1.1.getD (kn : Int).toNat []) := HTO.out;clear hs;rw [show (none : Option (List Int)).getD [] = [] from rfl, show (none : Option (List Int)).isSome = false from rfl];go_upto_region 12 with fail
     obtain ⟨d, hd⟩ : ∃ d, x.2.1.1[kn]? = some d := ⟨_, List.getElem?_eq_getElem hkm⟩;have HTW : Hid (truthI x kn = d) := by
      unfold Hid;rw [HTV.out, Int.toNat_natCast, List.getD_eq_getElem?_getD, hd];rfl
     obtain ⟨bm, om, cm, ram, ⟨aj, cj, rfl, -, -, hrdm⟩, hcellm⟩ := slrd_at (house_mem (RR.out _ BB)).1 hd;have m0 := hcellm 0 _ rfl;rw [show om + (kn * intsR.size + 0) = om + kn from by rw [show intsR.size = 1 from rfl]; omega] at m0;subst ram;obtain ⟨Fc0, Fc1, Fc2, Fc3, Fc4, Fc5, Fc6, Fc7, Fc8, Fc9, Fc10, Fc11, Fc12⟩ := cells_fabric F;have Flt := (ltH F);have HMM : Hid _ := hrdm;have HBB : Hid _ := BB;clear hcellm hrdm hd F BB;go_wp2;go_ret
     exact ⟨aj, cj, by rw [HTW.out]; first | done | rfl, by rw [HTW.out]; exact HMM.out, HBB.out⟩
open Go.ChangeShapes Go.WideShapes Go.RowKit
open Go.Maps (Keyed)
abbrev Crowd (w : World) (b n : Nat) (f : Value → Option Int) : Prop := MapV Tryz.prog 194 2 w b n f
theorem Crowd.at {w : World} {b n : Nat} {f : Value → Option Int} (h : Crowd w b n f) (x y z : Bool) {c : Int} (e : (f (hk x y z)).getD 0 = c) :
    (Instr.lookup 192 (.map (some b)) (hk x y z) false).run Tryz.prog w = .ok (.int .i64 c) w := by
 obtain ⟨l, hl⟩ := hk_key x y z;have := MapV.look h holdKeyed Tryz.underlying192 Tryz.underlying2 (zero2 _) hl;rwa [e] at this
def AllT (p : Nat → Bool) (j : Nat) : Prop := ∀ i, i < j → p i = true
theorem allT_step {p : Nat → Bool} {j : Nat} (h : AllT p j) (hj : p j = true) : AllT p (j + 1) := fun i hi => by
 by_cases he : i < j
 ·exact h i he
 ·have : i = j := by omega
  rw [this];exact hj
theorem allT_end {p : Nat → Bool} {n : Nat} (h : AllT p n) : (List.range n).all p = true := List.all_eq_true.2 fun i hi => h i (List.mem_range.1 hi)
theorem allT_not {p : Nat → Bool} {n j : Nat} (hj : j < n) (h : p j = false) : (List.range n).all p = false := by
 cases q : (List.range n).all p
 ·rfl
 ·have := List.all_eq_true.1 q j (List.mem_range.2 hj);rw [h] at this;cases this
end Go.Proofs.YtcocbafhcpdheaaGreatDoor
