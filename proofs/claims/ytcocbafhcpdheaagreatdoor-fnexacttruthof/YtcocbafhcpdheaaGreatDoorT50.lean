import Derived.Test.YtcocbafhcpdheaaGreatDoorT00Box
import Derived.Test.YtcocbafhcpdheaaGreatDoorT49
namespace Go.Proofs.YtcocbafhcpdheaaGreatDoor
set_option maxHeartbeats 4000000
set_option maxRecDepth 20000
open Go.ChangeShapes Go.WideShapes Go.ChangeAt Go.RowKit
set_option linter.unusedVariables false
set_option linter.unusedSimpArgs false
def AnsD (w : World) (d : Option (List Int)) (e : Ending) (w' : World) : Prop := ∃ (a : Option Addr) (cap : Nat), e = .returned (.tuple #[.slice a (d.getD []).length cap, .bool d.isSome]) ∧ zA4 zAG w' a (d.getD []) ∧ Below w.heap.size w w'
def AnsL (w : World) (d : List Int) (e : Ending) (w' : World) : Prop := ∃ (a : Option Addr) (cap : Nat), e = .returned (.slice a d.length cap) ∧ zA4 zAG w' a d ∧ Below w.heap.size w w'
theorem aloneL (l s : Int) (n : Nat) (ad : Option Addr) (cpw : Nat) (w : World) (hh : HoldT w) (hs : zA8 s 0 3 = true) : Calls Tryz.prog 101 #[.agg #[.int .i64 l, .int .i64 s, .slice ad n cpw]] w fun e w' => e = .returned (.bool (decide (2 ≤ s))) ∧ Below w.heap.size w w' := by
 have B := zAf w (.cells #[.int .i64 l, .int .i64 s, .slice ad n cpw] 88);have hl := hh.lt;obtain ⟨c0, c1, c2, c3, c4, c5, c6, c7, c8, c9, c10, c11⟩ := (hh.goes B).cells;rcases state4 hs with rfl | rfl | rfl | rfl
 all_goals
  clear hs;have HB : Hid _ := B;clear B;go_enter Tryz.func101, Tryz.ntmps101;go_wp2;go_ret
  exact ⟨rfl, HB.out⟩
theorem brings_u (m : zDy) (na : Option Addr) (nc : Nat) (o k : Int) (w : World) (hl : m.2.2.2.2.2.1.length ≤ 9223372036854775807) :
    Calls Tryz.prog 201 #[.agg #[.int .i64 m.1, .int .i64 m.2.1, .int .i64 m.2.2.1, .int .i64 m.2.2.2.1, .int .i64 m.2.2.2.2.1, .slice na m.2.2.2.2.2.1.length nc, .int .i64 m.2.2.2.2.2.2], .int .i64 o, .int .i64 k] w fun e w' => e = .returned (.bool (zHc o k m)) ∧ Below w.heap.size w w' := by
 have B := zAf w (.cells #[.int .i64 m.1, .int .i64 m.2.1, .int .i64 m.2.2.1, .int .i64 m.2.2.2.1, .int .i64 m.2.2.2.2.1, .slice na m.2.2.2.2.2.1.length nc, .int .i64 m.2.2.2.2.2.2] 119);have Y := zAn w (.cells #[.int .i64 m.1, .int .i64 m.2.1, .int .i64 m.2.2.1, .int .i64 m.2.2.2.1, .int .i64 m.2.2.2.2.1, .slice na m.2.2.2.2.2.1.length nc, .int .i64 m.2.2.2.2.2.2] 119);go_enter Tryz.func201, Tryz.ntmps201;go_upto_region 1 with fail
 generalize w.alloc (.cells #[.int .i64 m.1, .int .i64 m.2.1, .int .i64 m.2.2.1, .int .i64 m.2.2.2.1, .int .i64 m.2.2.2.2.1, .slice na m.2.2.2.2.2.1.length nc, .int .i64 m.2.2.2.2.2.2] 119) = w1 at B Y ⊢;obtain ⟨y0, y1, y2, y3, y4, y5, y6⟩ := zAQ Y;have HB : Hid _ := B;clear Y B;by_cases h1 : m.2.1 = o
 ·by_cases h4 : m.2.2.2.2.1 = k
  ·by_cases h5 : (m.2.2.2.2.2.1.length : Int) = 0
   ·by_cases h8 : m.2.2.2.1 = 8
    ·skip
     go_wp2;go_ret
     exact ⟨zAl (by rw [zE3]; first | (simp [h1, h4, h5, h8]; done) | (rw [bne_iff_ne.2 h5, decide_eq_true h5]; simp [h1, h4, h5, h8])), HB.out⟩
    ·by_cases h3 : m.2.2.2.1 = 3
     ·skip
      go_wp2;go_ret
      exact ⟨zAl (by rw [zE3]; first | (simp [h1, h4, h5, h8, h3]; done) | (rw [bne_iff_ne.2 h5, decide_eq_true h5]; simp [h1, h4, h5, h8, h3])), HB.out⟩
     ·skip
      go_wp2;go_ret
      exact ⟨zAl (by rw [zE3]; first | (simp [h1, h4, h5, h8, h3]; done) | (rw [bne_iff_ne.2 h5, decide_eq_true h5]; simp [h1, h4, h5, h8, h3])), HB.out⟩
   ·by_cases h8 : m.2.2.2.1 = 8
    ·skip
     go_wp2;go_ret
     exact ⟨zAl (by rw [zE3]; first | (simp [h1, h4, h5, h8]; done) | (rw [bne_iff_ne.2 h5, decide_eq_true h5]; simp [h1, h4, h5, h8])), HB.out⟩
    ·by_cases h3 : m.2.2.2.1 = 3
     ·skip
      go_wp2;go_ret
      exact ⟨zAl (by rw [zE3]; first | (simp [h1, h4, h5, h8, h3]; done) | (rw [bne_iff_ne.2 h5, decide_eq_true h5]; simp [h1, h4, h5, h8, h3])), HB.out⟩
     ·skip
      go_wp2;go_ret
      exact ⟨zAl (by rw [zE3]; first | (simp [h1, h4, h5, h8, h3]; done) | (rw [bne_iff_ne.2 h5, decide_eq_true h5]; simp [h1, h4, h5, h8, h3])), HB.out⟩
  ·skip
   go_wp2;go_ret
   exact ⟨zAl (by rw [zE3]; first | (simp [h1, h4]; done) | (rw [bne_iff_ne.2 h5, decide_eq_true h5]; simp [h1, h4])), HB.out⟩
 ·skip
  go_wp2;go_ret
  exact ⟨zAl (by rw [zE3]; first | (simp [h1]; done) | (rw [bne_iff_ne.2 h5, decide_eq_true h5]; simp [h1])), HB.out⟩
theorem onWay_u (x : zA2) (a1 : Option Addr) (c1 : Nat) (b1 : Option Addr) (d1 : Nat) (a2 : Option Addr) (c2 : Nat) (a3 : Option Addr) (c3 : Nat) (b3 : Option Addr) (d3 : Nat) (a4 : Option Addr) (c4 : Nat) (a5 : Option Addr) (c5 : Nat) (w : World) (R : FabRd w x a1 c1 b1 d1 a2 c2 a3 c3 b3 d3 a4 c4 a5 c5) (o k : Int) :
    Calls Tryz.prog 155 #[.agg #[.int .i64 x.1.1, .int .i64 x.1.2.1, .int .i64 x.1.2.2.1, .int .i64 x.1.2.2.2, .slice a1 x.2.1.1.length c1, .slice b1 x.2.1.2.length d1, .slice a2 x.2.2.1.length c2, .slice a3 x.2.2.2.1.1.length c3, .int .i64 x.2.2.2.1.2.1, .bool x.2.2.2.1.2.2.1, .slice b3 x.2.2.2.1.2.2.2.length d3, .slice a4 x.2.2.2.2.1.length c4, .slice a5 x.2.2.2.2.2.length c5], .int .i64 o, .int .i64 k] w fun e w' => AnsD w (zJR x o k) e w' := by
 have RR : Hid (∀ W, Below w.heap.size w W → zA4 zBL W a4 x.2.2.2.2.1) := fun W hb => (zBP R hb).net;have hnl : x.2.2.2.2.1.length ≤ 9223372036854775807 := R.netl;have B := Below.refl w.heap.size w;clear R;go_enter Tryz.func155, Tryz.ntmps155;go_upto_region 1 with fail
 have F := zAn w (.cells #[.int .i64 x.1.1, .int .i64 x.1.2.1, .int .i64 x.1.2.2.1, .int .i64 x.1.2.2.2, .slice a1 x.2.1.1.length c1, .slice b1 x.2.1.2.length d1, .slice a2 x.2.2.1.length c2, .slice a3 x.2.2.2.1.1.length c3, .int .i64 x.2.2.2.1.2.1, .bool x.2.2.2.1.2.2.1, .slice b3 x.2.2.2.1.2.2.2.length d3, .slice a4 x.2.2.2.2.1.length c4, .slice a5 x.2.2.2.2.2.length c5] 50);have bz := zAf w (.cells #[.int .i64 x.1.1, .int .i64 x.1.2.1, .int .i64 x.1.2.2.1, .int .i64 x.1.2.2.2, .slice a1 x.2.1.1.length c1, .slice b1 x.2.1.2.length d1, .slice a2 x.2.2.1.length c2, .slice a3 x.2.2.2.1.1.length c3, .int .i64 x.2.2.2.1.2.1, .bool x.2.2.2.1.2.2.1, .slice b3 x.2.2.2.1.2.2.2.length d3, .slice a4 x.2.2.2.2.1.length c4, .slice a5 x.2.2.2.2.2.length c5] 50);have zF := zAv w (.cells #[.int .i64 x.1.1, .int .i64 x.1.2.1, .int .i64 x.1.2.2.1, .int .i64 x.1.2.2.2, .slice a1 x.2.1.1.length c1, .slice b1 x.2.1.2.length d1, .slice a2 x.2.2.1.length c2, .slice a3 x.2.2.2.1.1.length c3, .int .i64 x.2.2.2.1.2.1, .bool x.2.2.2.1.2.2.1, .slice b3 x.2.2.2.1.2.2.2.length d3, .slice a4 x.2.2.2.2.1.length c4, .slice a5 x.2.2.2.2.2.length c5] 50);replace B := zAa B bz;clear bz;generalize w.alloc (.cells #[.int .i64 x.1.1, .int .i64 x.1.2.1, .int .i64 x.1.2.2.1, .int .i64 x.1.2.2.2, .slice a1 x.2.1.1.length c1, .slice b1 x.2.1.2.length d1, .slice a2 x.2.2.1.length c2, .slice a3 x.2.2.2.1.1.length c3, .int .i64 x.2.2.2.1.2.1, .bool x.2.2.2.1.2.2.1, .slice b3 x.2.2.2.1.2.2.2.length d3, .slice a4 x.2.2.2.2.1.length c4, .slice a5 x.2.2.2.2.2.length c5] 50) = u1w at B F zF ⊢;clear zF;obtain ⟨Fc0, Fc1, Fc2, Fc3, Fc4, Fc5, Fc6, Fc7, Fc8, Fc9, Fc10, Fc11, Fc12⟩ := zAd F;have Flt := (ltH F);clear F;go_wp2;clear Fc0 Fc1 Fc2 Fc3 Fc4 Fc5 Fc6 Fc7 Fc8 Fc9 Fc10 Fc11 Fc12 Flt;go_loopw [13] (fun i wr => ∃ j : Nat, j ≤ x.2.2.2.2.1.length ∧ i = .int .i64 j ∧ NoP (zHc o k) x.2.2.2.2.1 j ∧ Below w.heap.size w wr) (fun i _ => x.2.2.2.2.1.length - (intOf i).toNat)
 case atStart => exact ⟨0, Nat.zero_le _, rfl, fun i v hi => by omega, B⟩
 case round =>
  clear B;obtain ⟨j, hj, rfl, hno, BB⟩ := hrel;by_cases hlt : j < x.2.2.2.2.1.length
  ·have hlt' : (j : Int) < (x.2.2.2.2.1.length : Int) := by omega
   obtain ⟨m, hx⟩ : ∃ m, x.2.2.2.2.1[j]? = some m := ⟨_, List.getElem?_eq_getElem hlt⟩;obtain ⟨bb, off, cs, ra, hrdx, hcell⟩ := zAy (RR.out _ BB) hx;obtain ⟨na, nc, rfl, l1, l2, HMD⟩ := msg_at hrdx;obtain ⟨x0, x1, x2, x3, x4, x5, x6⟩ := cellsAt7 hcell rfl;subst ra;have hml2 : m.2.2.2.2.2.1.length ≤ 9223372036854775807 := Nat.le_trans l1 l2;have HX : Hid _ := hx;have HNO : Hid _ := hno;have HMR : Hid _ := HMD;clear hcell hrdx hx hno HMD l1 l2;go_upto_region 4 with fail
   clear x0 x1 x2 x3 x4 x5 x6;have BZ := zAf wr (.cells #[.int .i64 m.1, .int .i64 m.2.1, .int .i64 m.2.2.1, .int .i64 m.2.2.2.1, .int .i64 m.2.2.2.2.1, .slice na m.2.2.2.2.2.1.length nc, .int .i64 m.2.2.2.2.2.2] 119);have Y := zAn wr (.cells #[.int .i64 m.1, .int .i64 m.2.1, .int .i64 m.2.2.1, .int .i64 m.2.2.2.1, .int .i64 m.2.2.2.2.1, .slice na m.2.2.2.2.2.1.length nc, .int .i64 m.2.2.2.2.2.2] 119);generalize wr.alloc (.cells #[.int .i64 m.1, .int .i64 m.2.1, .int .i64 m.2.2.1, .int .i64 m.2.2.2.1, .int .i64 m.2.2.2.2.1, .slice na m.2.2.2.2.2.1.length nc, .int .i64 m.2.2.2.2.2.2] 119) = wz at BZ Y ⊢;replace BB := zAa BB BZ;have HMD : Hid (zA4 zAG wz na m.2.2.2.2.2.1) := zAm HMR.out BZ;obtain ⟨y0, y1, y2, y3, y4, y5, y6⟩ := zAQ Y;clear BZ HMR;go_wp2_with fail
   clear y0 y1 y2 y3 y4 y5 y6;refine (brings_u m na nc o k wz hml2).mono ?_;rintro e w9 ⟨rfl, bq⟩;replace BB := zAa BB bq;replace Y := zAb bq Y;have HMR : Hid (zA4 zAG w9 na m.2.2.2.2.2.1) := zAm HMD.out bq;clear bq HMD;cases hq : zHc o k m
   ·have HE : Hid _ := zI7 HNO.out HX.out hq;have HBF : Hid _ := BB;clear Y BB HNO;go_wp2;go_roundw
    case rel => exact ⟨j + 1, by omega, by go_num, HE.out, HBF.out⟩
    case measure => simp [intOf]; omega
   ·have HTW : Hid (zJR x o k = some m.2.2.2.2.2.1) := by unfold Hid zJR; rw [zGV HX.out hq HNO.out]; rfl
    have HBB : Hid _ := BB;obtain ⟨y0, y1, y2, y3, y4, y5, y6⟩ := zAQ Y;clear Y BB HNO;go_wp2;refine bodyPost_ret (v := .tuple #[.slice na m.2.2.2.2.2.1.length nc, .bool true]) (by simp [results, Tryz.results155, go_sem]) rfl ⟨na, nc, by rw [HTW.out]; rfl, by rw [HTW.out]; exact HMR.out, HBB.out⟩
  ·have HN : Hid (zJR x o k = none) := by unfold Hid zJR; rw [zGW fun i v hv => hno i v (by have := (List.getElem?_eq_some_iff.1 hv).1; omega) hv]; rfl
   have hge : ¬ ((j : Int) < (x.2.2.2.2.1.length : Int)) := by omega
   clear hno;go_wp2;refine bodyPost_ret (v := .tuple #[.slice none 0 0, .bool false]) (by simp [results, Tryz.results155, go_sem]) rfl ⟨none, 0, by rw [HN.out]; rfl, by rw [HN.out]; exact .inl rfl, BB⟩
theorem zPa (x : zA2) (a1 : Option Addr) (c1 : Nat) (b1 : Option Addr) (d1 : Nat) (a2 : Option Addr) (c2 : Nat) (a3 : Option Addr) (c3 : Nat) (b3 : Option Addr) (d3 : Nat) (a4 : Option Addr) (c4 : Nat) (a5 : Option Addr) (c5 : Nat) (w : World) (R : FabRd w x a1 c1 b1 d1 a2 c2 a3 c3 b3 d3 a4 c4 a5 c5) (hh : HoldT w) (kn on : Nat) (en : zAW) (u : zBi) (hen : x.2.1.2[kn]? = some en) (ho : en.1 = (on : Int)) (hu : x.2.2.1[on]? = some u) (hr : zA8 u.2.2.2.2.1.2.1 0 3 = true) (hb16 : x.2.1.2.length ≤ 16) (hc4 : x.2.2.1.length ≤ 4) :
    Calls Tryz.prog 102 #[.agg #[.int .i64 x.1.1, .int .i64 x.1.2.1, .int .i64 x.1.2.2.1, .int .i64 x.1.2.2.2, .slice a1 x.2.1.1.length c1, .slice b1 x.2.1.2.length d1, .slice a2 x.2.2.1.length c2, .slice a3 x.2.2.2.1.1.length c3, .int .i64 x.2.2.2.1.2.1, .bool x.2.2.2.1.2.2.1, .slice b3 x.2.2.2.1.2.2.2.length d3, .slice a4 x.2.2.2.2.1.length c4, .slice a5 x.2.2.2.2.2.length c5], .int .i64 kn] w fun e w' => AnsD w (zOT x on kn u) e w' := by
 have H1 : Hid (∀ W, Below w.heap.size w W → Calls Tryz.prog 155 #[.agg #[.int .i64 x.1.1, .int .i64 x.1.2.1, .int .i64 x.1.2.2.1, .int .i64 x.1.2.2.2, .slice a1 x.2.1.1.length c1, .slice b1 x.2.1.2.length d1, .slice a2 x.2.2.1.length c2, .slice a3 x.2.2.2.1.1.length c3, .int .i64 x.2.2.2.1.2.1, .bool x.2.2.2.1.2.2.1, .slice b3 x.2.2.2.1.2.2.2.length d3, .slice a4 x.2.2.2.2.1.length c4, .slice a5 x.2.2.2.2.2.length c5], .int .i64 on, .int .i64 kn] W fun e w' => AnsD W (zJR x on kn) e w') := fun W hb => onWay_u x a1 c1 b1 d1 a2 c2 a3 c3 b3 d3 a4 c4 a5 c5 W (zBP R hb) on kn;have HH : Hid (∀ W, Below w.heap.size w W → HoldT W) := fun W hb => hh.goes hb;have RB : Hid (∀ W, Below w.heap.size w W → zA4 zBT W b1 x.2.1.2) := fun W hb => (zBP R hb).book;have RC : Hid (∀ W, Below w.heap.size w W → zA4 zAB W a2 x.2.2.1) := fun W hb => (zBP R hb).cores;have hkb : kn < x.2.1.2.length := (List.getElem?_eq_some_iff.1 hen).1;have hkb' : (kn : Int) < (x.2.1.2.length : Int) := by omega
 have hol : on < x.2.2.1.length := (List.getElem?_eq_some_iff.1 hu).1;have hol' : (on : Int) < (x.2.2.1.length : Int) := by omega
 have B := Below.refl w.heap.size w;clear R hh;go_enter Tryz.func102, Tryz.ntmps102;go_upto_region 1 with fail
 have F := zAn w (.cells #[.int .i64 x.1.1, .int .i64 x.1.2.1, .int .i64 x.1.2.2.1, .int .i64 x.1.2.2.2, .slice a1 x.2.1.1.length c1, .slice b1 x.2.1.2.length d1, .slice a2 x.2.2.1.length c2, .slice a3 x.2.2.2.1.1.length c3, .int .i64 x.2.2.2.1.2.1, .bool x.2.2.2.1.2.2.1, .slice b3 x.2.2.2.1.2.2.2.length d3, .slice a4 x.2.2.2.2.1.length c4, .slice a5 x.2.2.2.2.2.length c5] 50);have bz := zAf w (.cells #[.int .i64 x.1.1, .int .i64 x.1.2.1, .int .i64 x.1.2.2.1, .int .i64 x.1.2.2.2, .slice a1 x.2.1.1.length c1, .slice b1 x.2.1.2.length d1, .slice a2 x.2.2.1.length c2, .slice a3 x.2.2.2.1.1.length c3, .int .i64 x.2.2.2.1.2.1, .bool x.2.2.2.1.2.2.1, .slice b3 x.2.2.2.1.2.2.2.length d3, .slice a4 x.2.2.2.2.1.length c4, .slice a5 x.2.2.2.2.2.length c5] 50);have zF := zAv w (.cells #[.int .i64 x.1.1, .int .i64 x.1.2.1, .int .i64 x.1.2.2.1, .int .i64 x.1.2.2.2, .slice a1 x.2.1.1.length c1, .slice b1 x.2.1.2.length d1, .slice a2 x.2.2.1.length c2, .slice a3 x.2.2.2.1.1.length c3, .int .i64 x.2.2.2.1.2.1, .bool x.2.2.2.1.2.2.1, .slice b3 x.2.2.2.1.2.2.2.length d3, .slice a4 x.2.2.2.2.1.length c4, .slice a5 x.2.2.2.2.2.length c5] 50);replace B := zAa B bz;clear bz;generalize w.alloc (.cells #[.int .i64 x.1.1, .int .i64 x.1.2.1, .int .i64 x.1.2.2.1, .int .i64 x.1.2.2.2, .slice a1 x.2.1.1.length c1, .slice b1 x.2.1.2.length d1, .slice a2 x.2.2.1.length c2, .slice a3 x.2.2.2.1.1.length c3, .int .i64 x.2.2.2.1.2.1, .bool x.2.2.2.1.2.2.1, .slice b3 x.2.2.2.1.2.2.2.length d3, .slice a4 x.2.2.2.2.1.length c4, .slice a5 x.2.2.2.2.2.length c5] 50) = u1w at B F zF ⊢;clear zF;obtain ⟨be, oe, ce, rae, hrde, hcelle⟩ := zAy (RB.out _ B) hen;obtain ⟨ga, gc, rfl⟩ := zDK hrde;have e0 := hcelle 0 _ rfl;rw [show oe + (kn * zBT.size + 0) = oe + kn * 8 from rfl, ho] at e0;subst rae;obtain ⟨Fc0, Fc1, Fc2, Fc3, Fc4, Fc5, Fc6, Fc7, Fc8, Fc9, Fc10, Fc11, Fc12⟩ := zAd F;have Flt := (ltH F);clear hcelle hrde hen;go_upto_region 2 with fail
 clear e0 Fc0 Fc1 Fc2 Fc3 Fc4 Fc5 Fc6 Fc7 Fc8 Fc9 Fc10 Fc11 Fc12 Flt;obtain ⟨bb, off, cs, ra, hrdx, hcell⟩ := zAy (RC.out _ B) hu;obtain ⟨ga, gc, gb, gd, ha, hc, ia, ic, ja, jc, rfl⟩ := zBd hrdx;have HMM : Hid _ := zJP hrdx;obtain ⟨x0, x1, x2, x3, x4, x5, x6, x7, x8⟩ := cellsAt9 hcell rfl;subst ra;obtain ⟨Fc0, Fc1, Fc2, Fc3, Fc4, Fc5, Fc6, Fc7, Fc8, Fc9, Fc10, Fc11, Fc12⟩ := zAd F;have Flt := (ltH F);clear hcell hrdx hu;go_upto_region 3 with fail
 clear x0 x1 x2 x3 x4 x5 x6 x7 x8 Fc0 Fc1 Fc2 Fc3 Fc4 Fc5 Fc6 Fc7 Fc8 Fc9 Fc10 Fc11 Fc12 Flt;have BZ := zAf u1w (.cells #[.int .i64 u.2.2.2.2.1.1, .int .i64 u.2.2.2.2.1.2.1, .slice ia u.2.2.2.2.1.2.2.length ic] 88);have Y := zAn u1w (.cells #[.int .i64 u.2.2.2.2.1.1, .int .i64 u.2.2.2.2.1.2.1, .slice ia u.2.2.2.2.1.2.2.length ic] 88);generalize u1w.alloc (.cells #[.int .i64 u.2.2.2.2.1.1, .int .i64 u.2.2.2.2.1.2.1, .slice ia u.2.2.2.2.1.2.2.length ic] 88) = wz at BZ Y ⊢;replace B := zAa B BZ;replace F := zAb BZ F;have HMD : Hid (zA4 zAG wz ia u.2.2.2.2.1.2.2) := zAm HMM.out BZ;clear HMM BZ;obtain ⟨y0, y1, y2⟩ := zAJ Y;by_cases hl : u.2.2.2.2.1.1 = (kn : Int)
 ·go_wp2_with fail
  clear y0 y1 y2;refine (aloneL _ u.2.2.2.2.1.2.1 _ ia ic wz (HH.out _ B) hr).mono ?_;rintro e w9 ⟨rfl, bq⟩;replace B := zAa B bq;replace F := zAb bq F;replace Y := zAb bq Y;have HMR : Hid (zA4 zAG w9 ia u.2.2.2.2.1.2.2) := zAm HMD.out bq;clear bq HMD;cases h2 : decide (2 ≤ u.2.2.2.2.1.2.1)
  ·have HV : Hid (zOT x on kn u = zJR x on kn) := by unfold Hid zOT zGg; rw [h2, decide_eq_true hl]; rfl
   clear Y;obtain ⟨Fc0, Fc1, Fc2, Fc3, Fc4, Fc5, Fc6, Fc7, Fc8, Fc9, Fc10, Fc11, Fc12⟩ := zAd F;have Flt := (ltH F);go_wp2_with fail
   clear Fc0 Fc1 Fc2 Fc3 Fc4 Fc5 Fc6 Fc7 Fc8 Fc9 Fc10 Fc11 Fc12 Flt;refine (H1.out _ B).mono ?_;rintro e w7 ⟨pa, pc, rfl, hs, bq⟩;have HB : Hid _ := And.intro hs (zAa B bq);clear hs bq B F;go_wp2;refine bodyPost_ret (v := .tuple #[.slice pa ((zJR x on kn).getD []).length pc, .bool (zJR x on kn).isSome]) (by simp [results, Tryz.results102, go_sem]) rfl ⟨pa, pc, by rw [HV.out], by rw [HV.out]; exact HB.out.1, HB.out.2⟩
  ·have HV : Hid (zOT x on kn u = some u.2.2.2.2.1.2.2) := by unfold Hid zOT zGg; rw [h2, decide_eq_true hl]; rfl
   obtain ⟨y0, y1, y2⟩ := zAJ Y;have HB : Hid _ := B;clear Y B F;go_wp2;refine bodyPost_ret (v := .tuple #[.slice ia u.2.2.2.2.1.2.2.length ic, .bool true]) (by simp [results, Tryz.results102, go_sem]) rfl ⟨ia, ic, by rw [HV.out]; rfl, by rw [HV.out]; exact HMR.out, HB.out⟩
 ·have HV : Hid (zOT x on kn u = zJR x on kn) := by unfold Hid zOT zGg; rw [decide_eq_false hl]; rfl
  clear Y;obtain ⟨Fc0, Fc1, Fc2, Fc3, Fc4, Fc5, Fc6, Fc7, Fc8, Fc9, Fc10, Fc11, Fc12⟩ := zAd F;have Flt := (ltH F);go_wp2_with fail
  clear Fc0 Fc1 Fc2 Fc3 Fc4 Fc5 Fc6 Fc7 Fc8 Fc9 Fc10 Fc11 Fc12 Flt y0 y1 y2;refine (H1.out _ B).mono ?_;rintro e w7 ⟨pa, pc, rfl, hs, bq⟩;have HB : Hid _ := And.intro hs (zAa B bq);clear hs bq B F;go_wp2;refine bodyPost_ret (v := .tuple #[.slice pa ((zJR x on kn).getD []).length pc, .bool (zJR x on kn).isSome]) (by simp [results, Tryz.results102, go_sem]) rfl ⟨pa, pc, by rw [HV.out], by rw [HV.out]; exact HB.out.1, HB.out.2⟩
end Go.Proofs.YtcocbafhcpdheaaGreatDoor
