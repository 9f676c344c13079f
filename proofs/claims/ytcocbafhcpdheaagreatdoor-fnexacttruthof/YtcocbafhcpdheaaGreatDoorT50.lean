import Derived.Test.YtcocbafhcpdheaaGreatDoorT00Box
import Derived.Test.YtcocbafhcpdheaaGreatDoorT49
namespace Go.Proofs.YtcocbafhcpdheaaGreatDoor
set_option maxHeartbeats 4000000
set_option maxRecDepth 20000
open Go.ChangeShapes Go.WideShapes Go.ChangeAt Go.RowKit
set_option linter.unusedVariables false
set_option linter.unusedSimpArgs false
def AnsD (w : World) (d : Option (List Int)) (e : Ending) (w' : World) : Prop := ∃ (a : Option Addr) (cap : Nat), e = .returned (.tuple #[.slice a (d.getD []).length cap, .bool d.isSome]) ∧ zA4 zAG w' a (d.getD []) ∧ Below w.heap.size w w'
def AnsL (w : World) (d : List Int) (e : Ending) (w' : World) : Prop := ∃ (a : Option Addr) (cap : Nat), e = .returned (.slice a d.length cap) ∧ zA4 zAG w' a d ∧ Below w.heap.size w w'
theorem aloneL (l s : Int) (n : Nat) (ad : Option Addr) (cpw : Nat) (w : World) (hh : HoldT w) (hs : zA8 s 0 3 = true) : Calls Tryz.prog 101 #[.agg #[.int .i64 l, .int .i64 s, .slice ad n cpw]] w fun e w' => e = .returned (.bool (decide (2 ≤ s))) ∧ Below w.heap.size w w' := by
 have B := zAf w (.cells #[.int .i64 l, .int .i64 s, .slice ad n cpw] 88);have hl := hh.lt;obtain ⟨c0, c1, c2, c3, c4, c5, c6, c7, c8, c9, a, c⟩ := (hh.goes B).cells;rcases state4 hs with rfl | rfl | rfl | rfl
 all_goals
  clear hs;have b : Hid _ := B;clear B;go_enter Tryz.func101, Tryz.ntmps101;go_wp2;go_ret
  exact ⟨rfl, b.out⟩
theorem brings_u (m : zDy) (na : Option Addr) (nc : Nat) (o k : Int) (w : World) (hl : m.2.2.2.2.2.1.length ≤ 9223372036854775807) :
    Calls Tryz.prog 201 #[.agg #[.int .i64 m.1, .int .i64 m.2.1, .int .i64 m.2.2.1, .int .i64 m.2.2.2.1, .int .i64 m.2.2.2.2.1, .slice na m.2.2.2.2.2.1.length nc, .int .i64 m.2.2.2.2.2.2], .int .i64 o, .int .i64 k] w fun e w' => e = .returned (.bool (zHc o k m)) ∧ Below w.heap.size w w' := by
 have B := zAf w (.cells #[.int .i64 m.1, .int .i64 m.2.1, .int .i64 m.2.2.1, .int .i64 m.2.2.2.1, .int .i64 m.2.2.2.2.1, .slice na m.2.2.2.2.2.1.length nc, .int .i64 m.2.2.2.2.2.2] 119);go_enter Tryz.func201, Tryz.ntmps201;go_upto_region 1 with fail
 generalize i : w.alloc _ = w1;have Y := boxH i;clear i;obtain ⟨y0, y1, y2, y3, y4, y5, y6⟩ := zAQ Y;have g : Hid _ := B;clear Y B;by_cases b : m.2.1 = o
 ·by_cases c : m.2.2.2.2.1 = k
  ·by_cases a : (m.2.2.2.2.2.1.length : Int) = 0
   ·by_cases d : m.2.2.2.1 = 8
    ·skip
     go_wp2;go_ret
     exact ⟨zAl (by rw [zE3]; first | (simp [b, c, a, d]; done) | (rw [bne_iff_ne.2 a, decide_eq_true a]; simp [b, c, a, d])), g.out⟩
    ·by_cases f : m.2.2.2.1 = 3
     ·skip
      go_wp2;go_ret
      exact ⟨zAl (by rw [zE3]; first | (simp [b, c, a, d, f]; done) | (rw [bne_iff_ne.2 a, decide_eq_true a]; simp [b, c, a, d, f])), g.out⟩
     ·skip
      go_wp2;go_ret
      exact ⟨zAl (by rw [zE3]; first | (simp [b, c, a, d, f]; done) | (rw [bne_iff_ne.2 a, decide_eq_true a]; simp [b, c, a, d, f])), g.out⟩
   ·by_cases d : m.2.2.2.1 = 8
    ·skip
     go_wp2;go_ret
     exact ⟨zAl (by rw [zE3]; first | (simp [b, c, a, d]; done) | (rw [bne_iff_ne.2 a, decide_eq_true a]; simp [b, c, a, d])), g.out⟩
    ·by_cases f : m.2.2.2.1 = 3
     ·skip
      go_wp2;go_ret
      exact ⟨zAl (by rw [zE3]; first | (simp [b, c, a, d, f]; done) | (rw [bne_iff_ne.2 a, decide_eq_true a]; simp [b, c, a, d, f])), g.out⟩
     ·skip
      go_wp2;go_ret
      exact ⟨zAl (by rw [zE3]; first | (simp [b, c, a, d, f]; done) | (rw [bne_iff_ne.2 a, decide_eq_true a]; simp [b, c, a, d, f])), g.out⟩
  ·skip
   go_wp2;go_ret
   exact ⟨zAl (by rw [zE3]; first | (simp [b, c]; done) | (rw [bne_iff_ne.2 a, decide_eq_true a]; simp [b, c])), g.out⟩
 ·skip
  go_wp2;go_ret
  exact ⟨zAl (by rw [zE3]; first | (simp [b]; done) | (rw [bne_iff_ne.2 a, decide_eq_true a]; simp [b])), g.out⟩
theorem onWay_u (x : zA2) (a1 : Option Addr) (c1 : Nat) (b1 : Option Addr) (d1 : Nat) (a2 : Option Addr) (c2 : Nat) (a3 : Option Addr) (c3 : Nat) (b3 : Option Addr) (d3 : Nat) (a4 : Option Addr) (c4 : Nat) (a5 : Option Addr) (c5 : Nat) (w : World) (R : FabRd w x a1 c1 b1 d1 a2 c2 a3 c3 b3 d3 a4 c4 a5 c5) (o k : Int) :
    Calls Tryz.prog 155 #[.agg #[.int .i64 x.1.1, .int .i64 x.1.2.1, .int .i64 x.1.2.2.1, .int .i64 x.1.2.2.2, .slice a1 x.2.1.1.length c1, .slice b1 x.2.1.2.length d1, .slice a2 x.2.2.1.length c2, .slice a3 x.2.2.2.1.1.length c3, .int .i64 x.2.2.2.1.2.1, .bool x.2.2.2.1.2.2.1, .slice b3 x.2.2.2.1.2.2.2.length d3, .slice a4 x.2.2.2.2.1.length c4, .slice a5 x.2.2.2.2.2.length c5], .int .i64 o, .int .i64 k] w fun e w' => AnsD w (zJR x o k) e w' := by
 have RR : Hid (∀ W, Below w.heap.size w W → zA4 zBL W a4 x.2.2.2.2.1) := fun W hb => (zBP R hb).net;have mA : x.2.2.2.2.1.length ≤ 9223372036854775807 := R.netl;have B := Below.refl w.heap.size w;clear R;go_enter Tryz.func155, Tryz.ntmps155;go_upto_region 1 with fail
 generalize a : w.alloc _ = u1w;have F := boxH a;have U := boxB a;have zF := boxL a;clear a;replace B := zAa B U;clear U;clear zF;obtain ⟨Fc0, Fc1, Fc2, Fc3, Fc4, Fc5, Fc6, Fc7, Fc8, Fc9, Fc10, Fc11, Fc12⟩ := zAd F;have Flt := (ltH F);clear F;go_wp2;clear Fc0 Fc1 Fc2 Fc3 Fc4 Fc5 Fc6 Fc7 Fc8 Fc9 Fc10 Fc11 Fc12 Flt;go_loopw [13] (fun i wr => ∃ j : Nat, j ≤ x.2.2.2.2.1.length ∧ i = .int .i64 j ∧ NoP (zHc o k) x.2.2.2.2.1 j ∧ Below w.heap.size w wr) (fun i _ => x.2.2.2.2.1.length - (intOf i).toNat)
 case atStart => exact ⟨0, Nat.zero_le _, rfl, fun i v hi => by omega, B⟩
 case round =>
  clear B;obtain ⟨j, hj, rfl, l, d⟩ := hrel;by_cases A : j < x.2.2.2.2.1.length
  ·have L : (j : Int) < (x.2.2.2.2.1.length : Int) := by omega
   obtain ⟨m, C⟩ : ∃ m, x.2.2.2.2.1[j]? = some m := ⟨_, List.getElem?_eq_getElem A⟩;obtain ⟨bb, nA, cs, ra, n, c⟩ := zAy (RR.out _ d) C;obtain ⟨p, y, rfl, O, M, b⟩ := msg_at n;obtain ⟨x0, x1, x2, x3, x4, x5, x6⟩ := cellsAt7 c rfl;subst ra;have r : m.2.2.2.2.2.1.length ≤ 9223372036854775807 := Nat.le_trans O M;have S : Hid _ := C;have f : Hid _ := l;have g : Hid _ := b;clear c n C l b O M;go_upto_region 4 with fail
   clear x0 x1 x2 x3 x4 x5 x6;have G := zAf wr (.cells #[.int .i64 m.1, .int .i64 m.2.1, .int .i64 m.2.2.1, .int .i64 m.2.2.2.1, .int .i64 m.2.2.2.2.1, .slice p m.2.2.2.2.2.1.length y, .int .i64 m.2.2.2.2.2.2] 119);generalize s : wr.alloc _ = wz;have Y := boxH s;clear s;replace d := zAa d G;have b : Hid (zA4 zAG wz p m.2.2.2.2.2.1) := zAm g.out G;obtain ⟨K, V, X, N, H, J, T⟩ := zAQ Y;clear G g;go_wp2_with fail
   clear K V X N H J T;refine (brings_u m p y o k wz r).mono ?_;rintro e w9 ⟨rfl, z⟩;replace d := zAa d z;replace Y := zAb z Y;have g : Hid (zA4 zAG w9 p m.2.2.2.2.2.1) := zAm b.out z;clear z b;cases Z : zHc o k m
   ·have HE : Hid _ := zI7 f.out S.out Z;have D : Hid _ := d;clear Y d f;go_wp2;go_roundw
    case rel => exact ⟨j + 1, by omega, by go_num, HE.out, D.out⟩
    case measure => simp [intOf]; omega
   ·have q : Hid (zJR x o k = some m.2.2.2.2.2.1) := by unfold Hid zJR; rw [zGV S.out Z f.out]; rfl
    have E : Hid _ := d;obtain ⟨K, V, X, N, H, J, T⟩ := zAQ Y;clear Y d f;go_wp2;refine bodyPost_ret (v := .tuple #[.slice p m.2.2.2.2.2.1.length y, .bool true]) (by simp [results, Tryz.results155, go_sem]) rfl ⟨p, y, by rw [q.out]; rfl, by rw [q.out]; exact g.out, E.out⟩
  ·have I : Hid (zJR x o k = none) := by unfold Hid zJR; rw [zGW fun i v hv => l i v (by have := (List.getElem?_eq_some_iff.1 hv).1; omega) hv]; rfl
   have eA : ¬ ((j : Int) < (x.2.2.2.2.1.length : Int)) := by omega
   clear l;go_wp2;refine bodyPost_ret (v := .tuple #[.slice none 0 0, .bool false]) (by simp [results, Tryz.results155, go_sem]) rfl ⟨none, 0, by rw [I.out]; rfl, by rw [I.out]; exact .inl rfl, d⟩
theorem zPa (x : zA2) (a1 : Option Addr) (c1 : Nat) (b1 : Option Addr) (d1 : Nat) (a2 : Option Addr) (c2 : Nat) (a3 : Option Addr) (c3 : Nat) (b3 : Option Addr) (d3 : Nat) (a4 : Option Addr) (c4 : Nat) (a5 : Option Addr) (c5 : Nat) (w : World) (R : FabRd w x a1 c1 b1 d1 a2 c2 a3 c3 b3 d3 a4 c4 a5 c5) (hh : HoldT w) (kn on : Nat) (en : zAW) (u : zBi) (hen : x.2.1.2[kn]? = some en) (ho : en.1 = (on : Int)) (hu : x.2.2.1[on]? = some u) (hr : zA8 u.2.2.2.2.1.2.1 0 3 = true) (hb16 : x.2.1.2.length ≤ 16) (hc4 : x.2.2.1.length ≤ 4) :
    Calls Tryz.prog 102 #[.agg #[.int .i64 x.1.1, .int .i64 x.1.2.1, .int .i64 x.1.2.2.1, .int .i64 x.1.2.2.2, .slice a1 x.2.1.1.length c1, .slice b1 x.2.1.2.length d1, .slice a2 x.2.2.1.length c2, .slice a3 x.2.2.2.1.1.length c3, .int .i64 x.2.2.2.1.2.1, .bool x.2.2.2.1.2.2.1, .slice b3 x.2.2.2.1.2.2.2.length d3, .slice a4 x.2.2.2.2.1.length c4, .slice a5 x.2.2.2.2.2.length c5], .int .i64 kn] w fun e w' => AnsD w (zOT x on kn u) e w' := by
 have K : Hid _ := fun (W : World) (hb : Below w.heap.size w W) => onWay_u x a1 c1 b1 d1 a2 c2 a3 c3 b3 d3 a4 c4 a5 c5 W (zBP R hb) on kn;have HH : Hid (∀ W, Below w.heap.size w W → HoldT W) := fun W hb => hh.goes hb;have T : Hid (∀ W, Below w.heap.size w W → zA4 zBT W b1 x.2.1.2) := fun W hb => (zBP R hb).book;have RC : Hid (∀ W, Below w.heap.size w W → zA4 zAB W a2 x.2.2.1) := fun W hb => (zBP R hb).cores;have iA : kn < x.2.1.2.length := (List.getElem?_eq_some_iff.1 hen).1;have I : (kn : Int) < (x.2.1.2.length : Int) := by omega
 have fA : on < x.2.2.1.length := (List.getElem?_eq_some_iff.1 hu).1;have H : (on : Int) < (x.2.2.1.length : Int) := by omega
 have B := Below.refl w.heap.size w;clear R hh;go_enter Tryz.func102, Tryz.ntmps102;go_upto_region 1 with fail
 generalize b : w.alloc _ = u1w;have F := boxH b;have M := boxB b;have O := boxL b;clear b;replace B := a B M;clear M;clear O;obtain ⟨be, N, ce, C, i, c⟩ := zAy (T.out _ B) hen;obtain ⟨ga, gc, rfl⟩ := zDK i;have L := c 0 _ rfl;rw [show N + (kn * zBT.size + 0) = N + kn * 8 from rfl, ho] at L;subst C;obtain ⟨Fc0, Fc1, Fc2, Fc3, Fc4, Fc5, Fc6, Fc7, Fc8, Fc9, Fc10, Fc11, Fc12⟩ := zAd F;have Flt := (ltH F);clear c i hen;go_upto_region 2 with fail
 clear L Fc0 Fc1 Fc2 Fc3 Fc4 Fc5 Fc6 Fc7 Fc8 Fc9 Fc10 Fc11 Fc12 Flt;obtain ⟨bb, bA, cs, V, g, f⟩ := zAy (RC.out _ B) hu;obtain ⟨ga, gc, gb, gd, ha, hc, l, y, ja, jc, rfl⟩ := zBd g;have n : Hid _ := zJP g;obtain ⟨x0, x1, X, x3, x4, Z, x6, x7, U⟩ := cellsAt9 f rfl;subst V;obtain ⟨Fc0, Fc1, Fc2, Fc3, Fc4, Fc5, Fc6, Fc7, Fc8, Fc9, Fc10, Fc11, Fc12⟩ := zAd F;have Flt := (ltH F);clear f g hu;go_upto_region 3 with fail
 clear x0 x1 X x3 x4 Z x6 x7 U Fc0 Fc1 Fc2 Fc3 Fc4 Fc5 Fc6 Fc7 Fc8 Fc9 Fc10 Fc11 Fc12 Flt;have s := zAf u1w (.cells #[.int .i64 u.2.2.2.2.1.1, .int .i64 u.2.2.2.2.1.2.1, .slice l u.2.2.2.2.1.2.2.length y] 88);generalize q : u1w.alloc _ = wz;have Y := boxH q;clear q;replace B := a B s;replace F := zAb s F;have m : Hid (zA4 zAG wz l u.2.2.2.2.1.2.2) := zAm n.out s;clear n s;obtain ⟨z, E, D⟩ := zAJ Y;by_cases G : u.2.2.2.2.1.1 = (kn : Int)
 ·go_wp2_with fail
  clear z E D;refine (aloneL _ u.2.2.2.2.1.2.1 _ l y wz (HH.out _ B) hr).mono ?_;rintro e S ⟨rfl, d⟩;replace B := a B d;replace F := zAb d F;replace Y := zAb d Y;have A : Hid (zA4 zAG S l u.2.2.2.2.1.2.2) := zAm m.out d;clear d m;cases J : decide (2 ≤ u.2.2.2.2.1.2.1)
  ·have j : Hid (zOT x on kn u = zJR x on kn) := by unfold Hid zOT zGg; rw [J, decide_eq_true G]; rfl
   clear Y;obtain ⟨Fc0, Fc1, Fc2, Fc3, Fc4, Fc5, Fc6, Fc7, Fc8, Fc9, Fc10, Fc11, Fc12⟩ := zAd F;have Flt := (ltH F);go_wp2_with fail
   clear Fc0 Fc1 Fc2 Fc3 Fc4 Fc5 Fc6 Fc7 Fc8 Fc9 Fc10 Fc11 Fc12 Flt;refine (K.out _ B).mono ?_;rintro e w7 ⟨r, o, rfl, p, d⟩;have k : Hid _ := And.intro p (a B d);clear p d B F;go_wp2;refine bodyPost_ret (v := .tuple #[.slice r ((zJR x on kn).getD []).length o, .bool (zJR x on kn).isSome]) (by simp [results, Tryz.results102, go_sem]) rfl ⟨r, o, by rw [j.out], by rw [j.out]; exact k.out.1, k.out.2⟩
  ·have j : Hid (zOT x on kn u = some u.2.2.2.2.1.2.2) := by unfold Hid zOT zGg; rw [J, decide_eq_true G]; rfl
   obtain ⟨z, E, D⟩ := zAJ Y;have k : Hid _ := B;clear Y B F;go_wp2;refine bodyPost_ret (v := .tuple #[.slice l u.2.2.2.2.1.2.2.length y, .bool true]) (by simp [results, Tryz.results102, go_sem]) rfl ⟨l, y, by rw [j.out]; rfl, by rw [j.out]; exact A.out, k.out⟩
 ·have j : Hid (zOT x on kn u = zJR x on kn) := by unfold Hid zOT zGg; rw [decide_eq_false G]; rfl
  clear Y;obtain ⟨Fc0, Fc1, Fc2, Fc3, Fc4, Fc5, Fc6, Fc7, Fc8, Fc9, Fc10, Fc11, Fc12⟩ := zAd F;have Flt := (ltH F);go_wp2_with fail
  clear Fc0 Fc1 Fc2 Fc3 Fc4 Fc5 Fc6 Fc7 Fc8 Fc9 Fc10 Fc11 Fc12 Flt z E D;refine (K.out _ B).mono ?_;rintro e w7 ⟨r, o, rfl, p, d⟩;have k : Hid _ := And.intro p (a B d);clear p d B F;go_wp2;refine bodyPost_ret (v := .tuple #[.slice r ((zJR x on kn).getD []).length o, .bool (zJR x on kn).isSome]) (by simp [results, Tryz.results102, go_sem]) rfl ⟨r, o, by rw [j.out], by rw [j.out]; exact k.out.1, k.out.2⟩
end Go.Proofs.YtcocbafhcpdheaaGreatDoor
