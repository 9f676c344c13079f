import Derived.Test.YtcocbafhcpdheaaGreatDoorT00Box
import Derived.Test.YtcocbafhcpdheaaGreatDoorT35
namespace Go.Proofs.YtcocbafhcpdheaaGreatDoor
set_option maxHeartbeats 4000000
set_option maxRecDepth 20000
open Go.ChangeShapes Go.WideShapes Go.ChangeAt Go.RowKit
set_option linter.unusedVariables false
def holdE (x : zAW) : List Int := if zDD x then hoI x.1 x.2.1 else []
def zJC (c : Int) (x : zAW) : Bool := zCJ c x.2.2.2.2.1 && (holdE x).all (zCj c)
theorem hold_in (x : zAW) : ∀ k ∈ holdE x, zAN k := (zME x).2
theorem zMM (c s y l k : Int) (g : Nat) (w : World) (hc : zBe c s y l = 0) (G : w.heap[g]? = some (.cells #[.int .i64 c, .int .i64 s, .int .i64 y, .int .i64 l] 39 (0, 0))) :
    Calls Tryz.prog 168 #[.int .i64 k, .pointer (some ⟨g, 0, none⟩)] w fun e w' => e = .returned (.bool (!zCj c k)) ∧ Below w.heap.size w w' := by
 have H1 := zGF c s y l k w hc;generalize zCj c k = q at H1 ⊢;obtain ⟨y0, y1, y2, y3⟩ := zA5 G;clear hc G;go_enter Tryz.func168, Tryz.ntmps168;go_wp2_with fail
 refine H1.mono ?_;rintro e w1 ⟨rfl, b1⟩;clear y0 y1 y2 y3;go_wp2;go_ret
 exact ⟨rfl, b1⟩
theorem idxFnI (c s y l : Int) (g : Nat) (a : Option Addr) (xs : List Int) (cap : Nat) (w : World) (hc : zBe c s y l = 0) (G : w.heap[g]? = some (.cells #[.int .i64 c, .int .i64 s, .int .i64 y, .int .i64 l] 39 (0, 0))) (h : zA4 zAG w a xs) (hm : xs.length ≤ maxLen) :
    Calls Tryz.prog 208 #[.slice a xs.length cap, .func (.func 168) #[] #[.pointer (some ⟨g, 0, none⟩)]] w fun e w' => e = .returned (.int .i64 (zDW (zCj c) xs)) ∧ Below w.heap.size w w' := by
 have hm' : xs.length ≤ 9223372036854775807 := hm;have H0 : Hid (∀ W, Below w.heap.size w W → zA4 zAG W a xs) := fun W hb => zAq h fun k hk => hb.block k hk;have HPP : Hid (∀ k W, Below w.heap.size w W → Calls Tryz.prog 168 #[.int .i64 k, .pointer (some ⟨g, 0, none⟩)] W fun e w' => e = .returned (.bool (!zCj c k)) ∧ Below W.heap.size W w') := fun k W hb => zMM c s y l k g W hc (zAb hb G);clear h hm hc G;go_enter Tryz.func208, Tryz.ntmps208;go_wp2;go_loopw [8] (fun i wr => ∃ k : Nat, k ≤ xs.length ∧ i = .int .i64 k ∧ (∀ j v, j < k → xs[j]? = some v → zCj c v = true) ∧ Below w.heap.size w wr) (fun i _ => xs.length - (intOf i).toNat)
 case atStart => exact ⟨0, Nat.zero_le _, rfl, fun j v hj => by omega, Below.refl _ _⟩
 case round =>
  obtain ⟨k, hk, rfl, hno, BB⟩ := hrel;by_cases hlt : k < xs.length
  ·have hlt' : (k : Int) < (xs.length : Int) := by omega
   obtain ⟨x, hx⟩ : ∃ x, xs[k]? = some x := ⟨_, List.getElem?_eq_getElem hlt⟩;obtain ⟨b, off, cs, rfl, ⟨rfl, -⟩, hcell⟩ := zAy (H0.out _ BB) hx;have HC := HPP.out x wr BB;have x0 := hcell 0 _ rfl;rw [show off + (k * zAG.size + 0) = off + k from by rw [show zAG.size = 1 from rfl]; omega] at x0;have HX : Hid (xs[k]? = some x) := hx;clear hx hcell;cases hb : zCj c x
   ·have HR : Hid (zDW (zCj c) xs = k) := zEu HX.out hb hno;rw [hb] at HC;go_wp2_with fail
    refine HC.mono ?_;rintro e w2 ⟨rfl, b2⟩;replace BB := zAa BB b2;clear b2 x0;go_wp2;go_ret
    exact ⟨zAx HR.out.symm, BB⟩
   ·rw [hb] at HC;go_wp2_with fail
    refine HC.mono ?_;rintro e w2 ⟨rfl, b2⟩;replace BB := zAa BB b2;clear b2 x0;go_wp2;go_roundw
    case rel =>
     refine ⟨k + 1, by omega, by go_num, fun j v hj hv => ?_, BB⟩;by_cases he : j < k
     ·exact hno j v he hv
     ·have : j = k := by omega
      subst this;rw [HX.out] at hv;cases hv;exact hb
    case measure => simp [intOf]; omega
  ·have HR : Hid (zDW (zCj c) xs = -1) := zDT fun j v hv => hno j v (by have := (List.getElem?_eq_some_iff.1 hv).1; omega) hv;go_wp2;go_ret
   exact ⟨zAx HR.out.symm, BB⟩
theorem conFnI (c s y l : Int) (g : Nat) (a : Option Addr) (xs : List Int) (cap : Nat) (w : World) (hc : zBe c s y l = 0) (G : w.heap[g]? = some (.cells #[.int .i64 c, .int .i64 s, .int .i64 y, .int .i64 l] 39 (0, 0))) (h : zA4 zAG w a xs) (hm : xs.length ≤ maxLen) :
    Calls Tryz.prog 166 #[.slice a xs.length cap, .func (.func 168) #[] #[.pointer (some ⟨g, 0, none⟩)]] w fun e w' => e = .returned (.bool (!xs.all (zCj c))) ∧ Below w.heap.size w w' := by
 have HI := idxFnI c s y l g a xs cap w hc G h hm;have hab := zD8 (zCj c) xs;clear h hm hc G;generalize zDW (zCj c) xs = q at HI hab;generalize xs.all (zCj c) = z at hab ⊢;subst hab;by_cases hq : q < 0
 ·have hq2 : ¬ (0 ≤ q) := by omega
  go_enter Tryz.func166, Tryz.ntmps166;go_wp2_with fail
  refine HI.mono ?_;rintro e w1 ⟨rfl, b1⟩;go_wp2;go_ret
  exact ⟨by simp [hq], b1⟩
 ·have hq2 : 0 ≤ q := by omega
  go_enter Tryz.func166, Tryz.ntmps166;go_wp2_with fail
  refine HI.mono ?_;rintro e w1 ⟨rfl, b1⟩;go_wp2;go_ret
  exact ⟨by simp [hq], b1⟩
theorem zIy (c s y l : Int) (x : zAW) (xa : Option Addr) (xc : Nat) (w : World) (hc : zBe c s y l = 0) (h : zA4 zAG w xa x.2.2.2.2.2.2.2) :
    Calls Tryz.prog 122 #[.agg #[.int .i64 c, .int .i64 s, .int .i64 y, .int .i64 l], .agg #[.int .i64 x.1, .int .i64 x.2.1, .bool x.2.2.1, .int .i64 x.2.2.2.1, .int .i64 x.2.2.2.2.1, .int .i64 x.2.2.2.2.2.1, .int .i64 x.2.2.2.2.2.2.1, .slice xa x.2.2.2.2.2.2.2.length xc]] w fun e w' => e = .returned (.bool (zJC c x)) ∧ Below w.heap.size w w' := by
 have H1 : Hid (∀ W, Calls Tryz.prog 165 #[.agg #[.int .i64 c, .int .i64 s, .int .i64 y, .int .i64 l], .int .i64 x.2.2.2.2.1] W fun e w' => e = .returned (.bool (zCJ c x.2.2.2.2.1)) ∧ Below W.heap.size W w') := fun W => zEs c s y l x.2.2.2.2.1 W hc;have H2 : Hid (∀ W, Below w.heap.size w W → Calls Tryz.prog 167 #[.agg #[.int .i64 x.1, .int .i64 x.2.1, .bool x.2.2.1, .int .i64 x.2.2.2.1, .int .i64 x.2.2.2.2.1, .int .i64 x.2.2.2.2.2.1, .int .i64 x.2.2.2.2.2.2.1, .slice xa x.2.2.2.2.2.2.2.length xc]] W fun e w' => ∃ v, e = .returned v ∧ zIJ W w' v (holdE x)) := fun W hb => zGN x.1 x.2.1 x.2.2.2.1 x.2.2.2.2.1 x.2.2.2.2.2.1 x.2.2.2.2.2.2.1 x.2.2.1 x.2.2.2.2.2.2.2 xa xc W (zAm h hb);unfold zJC;generalize zCJ c x.2.2.2.2.1 = q1 at H1 ⊢;clear h;have B := Below.refl w.heap.size w;go_enter Tryz.func122, Tryz.ntmps122;go_upto_region 1 with fail
 generalize hu1w : w.alloc _ = u1w;have X := boxH hu1w;have bz := boxB hu1w;have zX := boxL hu1w;clear hu1w;replace B := zAa B bz;clear bz;have zXa := Nat.le_of_eq zX;have zXb := Nat.le_of_eq zX.symm;clear zX;generalize hu2w : u1w.alloc _ = u2w;have E := boxH hu2w;have bz := boxB hu2w;have zE := boxL hu2w;clear hu2w;rw [show u1w.heap.size = w.heap.size + 1 from by omega] at E;replace B := zAa B bz;replace X := zAb bz X;clear bz;have zEa := Nat.le_of_eq zE;have zEb := Nat.le_of_eq zE.symm;clear zE;obtain ⟨Xc0, Xc1, Xc2, Xc3⟩ := zA5 X;have Xlt := (ltH X);obtain ⟨Ec0, Ec1, Ec2, Ec3, Ec4, Ec5, Ec6, Ec7⟩ := zCi E;have Elt := (ltH E);go_wp2_with fail
 clear Xc0 Xc1 Xc2 Xc3 Xlt Ec0 Ec1 Ec2 Ec3 Ec4 Ec5 Ec6 Ec7 Elt;refine (H1.out _).mono ?_;rintro e u3w ⟨rfl, bq⟩;have tu3w : u2w.heap.size ≤ u3w.heap.size := bq.size;replace B := zAa B bq;replace X := zAb bq X;replace E := zAb bq E;clear bq;cases q1
 ·skip
  obtain ⟨Xc0, Xc1, Xc2, Xc3⟩ := zA5 X;have Xlt := (ltH X);obtain ⟨Ec0, Ec1, Ec2, Ec3, Ec4, Ec5, Ec6, Ec7⟩ := zCi E;have Elt := (ltH E);have HB : Hid _ := B;clear B X E;go_wp2;go_ret
  exact ⟨rfl, HB.out⟩
 ·skip
  obtain ⟨Xc0, Xc1, Xc2, Xc3⟩ := zA5 X;have Xlt := (ltH X);obtain ⟨Ec0, Ec1, Ec2, Ec3, Ec4, Ec5, Ec6, Ec7⟩ := zCi E;have Elt := (ltH E);go_wp2_with fail
  clear Xc0 Xc1 Xc2 Xc3 Xlt Ec0 Ec1 Ec2 Ec3 Ec4 Ec5 Ec6 Ec7 Elt;refine (H2.out _ B).mono ?_;rintro e u4w ⟨v, rfl, mm⟩;have mr := zDF mm (hold_in x);obtain ⟨va, vc, rv, vl1, vl2, vr⟩ := zA0.own_rd mr.1;simp only [List.cons.injEq, and_true] at rv;obtain rfl := rv;have mb := mr.2;clear mm mr;replace B := zAa B mb;replace X := zAb mb X;replace E := zAb mb E;clear mb;obtain ⟨Xc0, Xc1, Xc2, Xc3⟩ := zA5 X;have Xlt := (ltH X);obtain ⟨Ec0, Ec1, Ec2, Ec3, Ec4, Ec5, Ec6, Ec7⟩ := zCi E;have Elt := (ltH E);go_wp2_with fail
  clear Xc0 Xc1 Xc2 Xc3 Xlt Ec0 Ec1 Ec2 Ec3 Ec4 Ec5 Ec6 Ec7 Elt;refine (conFnI c s y l w.heap.size va (holdE x) vc _ hc X vr (Nat.le_trans vl1 vl2)).mono ?_;rintro e u5w ⟨rfl, bq⟩;replace B := zAa B bq;replace X := zAb bq X;replace E := zAb bq E;clear bq;obtain ⟨Xc0, Xc1, Xc2, Xc3⟩ := zA5 X;have Xlt := (ltH X);obtain ⟨Ec0, Ec1, Ec2, Ec3, Ec4, Ec5, Ec6, Ec7⟩ := zCi E;have Elt := (ltH E);have HB : Hid _ := B;clear B X E;go_wp2;go_ret
  exact ⟨by simp, HB.out⟩
def zDZ (r f t : Int) : Bool := zA8 r 0 2 && (zA8 f 0 5 && zA8 t 0 5)
def zKM (d : List Int) : Bool := d.isEmpty || isL d
def zD4 (u : zDy) : Bool := zDZ u.1 u.2.1 u.2.2.1 && (zA8 u.2.2.2.1 1 15 && (zA8 u.2.2.2.2.1 0 15 && (zKM u.2.2.2.2.2.1 && zA8 u.2.2.2.2.2.2 0 15)))
theorem zLF {d : List Int} (h : d.length = 0) : zKM d = true := by
 have : d = [] := List.eq_nil_of_length_eq_zero h;subst this;rfl
theorem zJD {d : List Int} (h : ¬ d.length = 0) : zKM d = isL d := by
 cases d with
 | nil => exact (h rfl).elim
 | cons x r => rfl
theorem mb {r f t k l g : Int} {d : List Int} : zD4 (r, f, t, k, l, d, g) = (zDZ r f t && (zA8 k 1 15 && (zA8 l 0 15 && (zKM d && zA8 g 0 15)))) := rfl
theorem zCy (k : Int) (w : World) : Calls Tryz.prog 229 #[.int .i64 k] w fun e w' => e = .returned (.bool (zA8 k 0 15)) ∧ w' = w := by
 go_enter Tryz.func229, Tryz.ntmps229;go_wp2_with (go_at_call 76; refine (zAw _ _ _ _).mono ?_; rintro e w' ⟨rfl, rfl⟩)
 go_ret
 exact ⟨rfl, rfl⟩
theorem zJE (f0 f1 f2 f3 f4 f6 : Int) (d : List Int) (a : Option Addr) (cap : Nat) (w : World) :
    Calls Tryz.prog 228 #[.agg #[.int .i64 f0, .int .i64 f1, .int .i64 f2, .int .i64 f3, .int .i64 f4, .slice a d.length cap, .int .i64 f6]] w fun e w' => e = .returned (.bool (zDZ f0 f1 f2)) ∧ Below w.heap.size w w' := by
 have HB : Hid _ := zAf w;unfold zDZ;cases h1 : zA8 f0 0 2
 ·go_enter Tryz.func228, Tryz.ntmps228;go_wp2_with (go_at_call 76; refine (zAw _ _ _ _).mono ?_; rintro e w' ⟨rfl, rfl⟩)
  go_ret
  exact ⟨rfl, HB.out _⟩
 ·cases h2 : zA8 f1 0 5
  ·go_enter Tryz.func228, Tryz.ntmps228;go_wp2_with (go_at_call 76; refine (zAw _ _ _ _).mono ?_; rintro e w' ⟨rfl, rfl⟩)
   go_ret
   exact ⟨rfl, HB.out _⟩
  ·go_enter Tryz.func228, Tryz.ntmps228;go_wp2_with (go_at_call 76; refine (zAw _ _ _ _).mono ?_; rintro e w' ⟨rfl, rfl⟩)
   go_ret
   exact ⟨rfl, HB.out _⟩
theorem zIz (f0 f1 f2 f3 f4 f6 : Int) (d : List Int) (a : Option Addr) (cap : Nat) (w : World) (h : zA4 zAG w a d) :
    Calls Tryz.prog 188 #[.agg #[.int .i64 f0, .int .i64 f1, .int .i64 f2, .int .i64 f3, .int .i64 f4, .slice a d.length cap, .int .i64 f6]] w fun e w' => e = .returned (.bool (zD4 (f0, f1, f2, f3, f4, d, f6))) ∧ Below w.heap.size w w' := by
 have HE : Hid (∀ W, Calls Tryz.prog 228 #[.agg #[.int .i64 f0, .int .i64 f1, .int .i64 f2, .int .i64 f3, .int .i64 f4, .slice a d.length cap, .int .i64 f6]] W fun e w' => e = .returned (.bool (zDZ f0 f1 f2)) ∧ Below W.heap.size W w') := fun W => zJE f0 f1 f2 f3 f4 f6 d a cap W;have HL : Hid _ := fun (W : World) (hb : Below w.heap.size w W) => zBK a d cap W (zBv (zAm h hb));have X := zAn w (.cells #[.int .i64 f0, .int .i64 f1, .int .i64 f2, .int .i64 f3, .int .i64 f4, .slice a d.length cap, .int .i64 f6] 119);have B := zAf w (.cells #[.int .i64 f0, .int .i64 f1, .int .i64 f2, .int .i64 f3, .int .i64 f4, .slice a d.length cap, .int .i64 f6] 119);clear h;rw [mb];cases h1 : zDZ f0 f1 f2
 ·rw [h1] at HE;go_enter Tryz.func188, Tryz.ntmps188;go_wp2_with fail
  generalize w.alloc (.cells #[.int .i64 f0, .int .i64 f1, .int .i64 f2, .int .i64 f3, .int .i64 f4, .slice a d.length cap, .int .i64 f6] 119) = W0 at X B ⊢;refine (HE.out _).mono ?_;rintro e w1 ⟨rfl, b1⟩;replace X := zAb b1 X;replace B := zAa B b1;clear b1 HE;obtain ⟨x0, x1, x2, x3, x4, x5, x6⟩ := zAQ X;go_wp2_with (first | (go_at_call 76; refine (zAw _ _ _ _).mono ?_; rintro e w' ⟨rfl, rfl⟩) | (go_at_call 229; refine (zCy _ _).mono ?_; rintro e w' ⟨rfl, rfl⟩))
  go_ret
  exact ⟨rfl, B⟩
 ·rw [h1] at HE;cases h2 : zA8 f3 1 15
  ·clear HL;go_enter Tryz.func188, Tryz.ntmps188;go_wp2_with fail
   generalize w.alloc (.cells #[.int .i64 f0, .int .i64 f1, .int .i64 f2, .int .i64 f3, .int .i64 f4, .slice a d.length cap, .int .i64 f6] 119) = W0 at X B ⊢;refine (HE.out _).mono ?_;rintro e w1 ⟨rfl, b1⟩;replace X := zAb b1 X;replace B := zAa B b1;clear b1 HE;obtain ⟨x0, x1, x2, x3, x4, x5, x6⟩ := zAQ X;go_wp2_with (first | (go_at_call 76; refine (zAw _ _ _ _).mono ?_; rintro e w' ⟨rfl, rfl⟩) | (go_at_call 229; refine (zCy _ _).mono ?_; rintro e w' ⟨rfl, rfl⟩))
   go_ret
   exact ⟨rfl, B⟩
  ·cases h3 : zA8 f4 0 15
   ·clear HL;go_enter Tryz.func188, Tryz.ntmps188;go_wp2_with fail
    generalize w.alloc (.cells #[.int .i64 f0, .int .i64 f1, .int .i64 f2, .int .i64 f3, .int .i64 f4, .slice a d.length cap, .int .i64 f6] 119) = W0 at X B ⊢;refine (HE.out _).mono ?_;rintro e w1 ⟨rfl, b1⟩;replace X := zAb b1 X;replace B := zAa B b1;clear b1 HE;obtain ⟨x0, x1, x2, x3, x4, x5, x6⟩ := zAQ X;go_wp2_with (first | (go_at_call 76; refine (zAw _ _ _ _).mono ?_; rintro e w' ⟨rfl, rfl⟩) | (go_at_call 229; refine (zCy _ _).mono ?_; rintro e w' ⟨rfl, rfl⟩))
    go_ret
    exact ⟨rfl, B⟩
   ·by_cases hz3 : d.length = 0
    ·have HD : Hid (zKM d = true) := zLF hz3;rw [HD.out];have hz5 : d = [] := List.eq_nil_of_length_eq_zero hz3;clear HL;cases h5 : zA8 f6 0 15
     ·subst hz5;go_enter Tryz.func188, Tryz.ntmps188;go_wp2_with fail
      generalize w.alloc (.cells #[.int .i64 f0, .int .i64 f1, .int .i64 f2, .int .i64 f3, .int .i64 f4, .slice a ([] : List Int).length cap, .int .i64 f6] 119) = W0 at X B ⊢;refine (HE.out _).mono ?_;rintro e w1 ⟨rfl, b1⟩;replace X := zAb b1 X;replace B := zAa B b1;clear b1 HE;obtain ⟨x0, x1, x2, x3, x4, x5, x6⟩ := zAQ X;go_wp2_with (first | (go_at_call 76; refine (zAw _ _ _ _).mono ?_; rintro e w' ⟨rfl, rfl⟩) | (go_at_call 229; refine (zCy _ _).mono ?_; rintro e w' ⟨rfl, rfl⟩))
      go_ret
      exact ⟨rfl, B⟩
     ·subst hz5;go_enter Tryz.func188, Tryz.ntmps188;go_wp2_with fail
      generalize w.alloc (.cells #[.int .i64 f0, .int .i64 f1, .int .i64 f2, .int .i64 f3, .int .i64 f4, .slice a ([] : List Int).length cap, .int .i64 f6] 119) = W0 at X B ⊢;refine (HE.out _).mono ?_;rintro e w1 ⟨rfl, b1⟩;replace X := zAb b1 X;replace B := zAa B b1;clear b1 HE;obtain ⟨x0, x1, x2, x3, x4, x5, x6⟩ := zAQ X;go_wp2_with (first | (go_at_call 76; refine (zAw _ _ _ _).mono ?_; rintro e w' ⟨rfl, rfl⟩) | (go_at_call 229; refine (zCy _ _).mono ?_; rintro e w' ⟨rfl, rfl⟩))
      go_ret
      exact ⟨rfl, B⟩
    ·rw [zJD hz3];have hz4 : ¬ (d = []) := fun e => hz3 (by rw [e]; rfl);have hz : ¬ ((d.length : Int) = 0) := by omega
     have hz2 : ((d.length : Int) == 0) = false := beq_false_of_ne hz;cases h4 : isL d
     ·rw [h4] at HL;go_enter Tryz.func188, Tryz.ntmps188;go_wp2_with fail
      generalize w.alloc (.cells #[.int .i64 f0, .int .i64 f1, .int .i64 f2, .int .i64 f3, .int .i64 f4, .slice a d.length cap, .int .i64 f6] 119) = W0 at X B ⊢;refine (HE.out _).mono ?_;rintro e w1 ⟨rfl, b1⟩;replace X := zAb b1 X;replace B := zAa B b1;clear b1 HE;obtain ⟨x0, x1, x2, x3, x4, x5, x6⟩ := zAQ X;go_wp2_with (first | (go_at_call 76; refine (zAw _ _ _ _).mono ?_; rintro e w' ⟨rfl, rfl⟩) | (go_at_call 229; refine (zCy _ _).mono ?_; rintro e w' ⟨rfl, rfl⟩) | (go_at_call 224; refine (HL.out _ B).mono ?_; rintro e w2 ⟨rfl, hb⟩; replace X := zAb hb X; replace B := zAa B hb; clear hb x0 x1 x2 x3 x4 x5 x6; obtain ⟨x0, x1, x2, x3, x4, x5, x6⟩ := zAQ X))
      go_ret
      exact ⟨rfl, B⟩
     ·rw [h4] at HL;cases h5 : zA8 f6 0 15
      ·skip
       go_enter Tryz.func188, Tryz.ntmps188;go_wp2_with fail
       generalize w.alloc (.cells #[.int .i64 f0, .int .i64 f1, .int .i64 f2, .int .i64 f3, .int .i64 f4, .slice a d.length cap, .int .i64 f6] 119) = W0 at X B ⊢;refine (HE.out _).mono ?_;rintro e w1 ⟨rfl, b1⟩;replace X := zAb b1 X;replace B := zAa B b1;clear b1 HE;obtain ⟨x0, x1, x2, x3, x4, x5, x6⟩ := zAQ X;go_wp2_with (first | (go_at_call 76; refine (zAw _ _ _ _).mono ?_; rintro e w' ⟨rfl, rfl⟩) | (go_at_call 229; refine (zCy _ _).mono ?_; rintro e w' ⟨rfl, rfl⟩) | (go_at_call 224; refine (HL.out _ B).mono ?_; rintro e w2 ⟨rfl, hb⟩; replace X := zAb hb X; replace B := zAa B hb; clear hb x0 x1 x2 x3 x4 x5 x6; obtain ⟨x0, x1, x2, x3, x4, x5, x6⟩ := zAQ X))
       go_ret
       exact ⟨rfl, B⟩
      ·skip
       go_enter Tryz.func188, Tryz.ntmps188;go_wp2_with fail
       generalize w.alloc (.cells #[.int .i64 f0, .int .i64 f1, .int .i64 f2, .int .i64 f3, .int .i64 f4, .slice a d.length cap, .int .i64 f6] 119) = W0 at X B ⊢;refine (HE.out _).mono ?_;rintro e w1 ⟨rfl, b1⟩;replace X := zAb b1 X;replace B := zAa B b1;clear b1 HE;obtain ⟨x0, x1, x2, x3, x4, x5, x6⟩ := zAQ X;go_wp2_with (first | (go_at_call 76; refine (zAw _ _ _ _).mono ?_; rintro e w' ⟨rfl, rfl⟩) | (go_at_call 229; refine (zCy _ _).mono ?_; rintro e w' ⟨rfl, rfl⟩) | (go_at_call 224; refine (HL.out _ B).mono ?_; rintro e w2 ⟨rfl, hb⟩; replace X := zAb hb X; replace B := zAa B hb; clear hb x0 x1 x2 x3 x4 x5 x6; obtain ⟨x0, x1, x2, x3, x4, x5, x6⟩ := zAQ X))
       go_ret
       exact ⟨rfl, B⟩
theorem zKN (f0 f1 f2 f3 f4 f6 : Int) (d : List Int) (a : Option Addr) (cap : Nat) (w : World) (h : zA4 zAG w a d) :
    Calls Tryz.prog 145 #[.agg #[.int .i64 f0, .int .i64 f1, .int .i64 f2, .int .i64 f3, .int .i64 f4, .slice a d.length cap, .int .i64 f6]] w fun e w' => e = .returned (.bool (zD4 (f0, f1, f2, f3, f4, d, f6))) ∧ Below w.heap.size w w' := by
 have HL : Hid _ := fun (W : World) (hb : Below w.heap.size w W) => zB4 a d cap W (zBv (zAm h hb));have B := zAf w (.cells #[.int .i64 f0, .int .i64 f1, .int .i64 f2, .int .i64 f3, .int .i64 f4, .slice a d.length cap, .int .i64 f6] 119);clear h;cases h1 : zA8 f0 0 2
 ·clear HL;have HV : Hid (zD4 (f0, f1, f2, f3, f4, d, f6) = false) := by unfold Hid; rw [mb]; unfold zDZ; simp [h1]
  go_enter Tryz.func145, Tryz.ntmps145;go_wp2_with (first | (go_at_call 98; refine (zAo _ _ _ _).mono ?_; rintro e w' ⟨rfl, rfl⟩))
  go_ret
  exact ⟨zAl HV.out.symm, B⟩
 ·cases h2 : zA8 f1 0 5
  ·clear HL;have HV : Hid (zD4 (f0, f1, f2, f3, f4, d, f6) = false) := by unfold Hid; rw [mb]; unfold zDZ; simp [h2]
   go_enter Tryz.func145, Tryz.ntmps145;go_wp2_with (first | (go_at_call 98; refine (zAo _ _ _ _).mono ?_; rintro e w' ⟨rfl, rfl⟩))
   go_ret
   exact ⟨zAl HV.out.symm, B⟩
  ·cases h3 : zA8 f2 0 5
   ·clear HL;have HV : Hid (zD4 (f0, f1, f2, f3, f4, d, f6) = false) := by unfold Hid; rw [mb]; unfold zDZ; simp [h3]
    go_enter Tryz.func145, Tryz.ntmps145;go_wp2_with (first | (go_at_call 98; refine (zAo _ _ _ _).mono ?_; rintro e w' ⟨rfl, rfl⟩))
    go_ret
    exact ⟨zAl HV.out.symm, B⟩
   ·cases h4 : zA8 f4 0 15
    ·clear HL;have HV : Hid (zD4 (f0, f1, f2, f3, f4, d, f6) = false) := by unfold Hid; rw [mb]; unfold zDZ; simp [h4]
     go_enter Tryz.func145, Tryz.ntmps145;go_wp2_with (first | (go_at_call 98; refine (zAo _ _ _ _).mono ?_; rintro e w' ⟨rfl, rfl⟩))
     go_ret
     exact ⟨zAl HV.out.symm, B⟩
    ·by_cases hz3 : d.length = 0
     ·have HD : Hid (zKM d = true) := zLF hz3;have hz5 : d = [] := List.eq_nil_of_length_eq_zero hz3;clear HL;subst hz5;cases h5 : zA8 f3 1 15
      ·skip
       have HV : Hid (zD4 (f0, f1, f2, f3, f4, [], f6) = false) := by unfold Hid; rw [mb]; unfold zDZ; simp [h5]
       go_enter Tryz.func145, Tryz.ntmps145;go_wp2_with (first | (go_at_call 98; refine (zAo _ _ _ _).mono ?_; rintro e w' ⟨rfl, rfl⟩))
       go_ret
       exact ⟨zAl HV.out.symm, B⟩
      ·cases h6 : zA8 f6 0 15
       ·skip
        have HV : Hid (zD4 (f0, f1, f2, f3, f4, [], f6) = false) := by unfold Hid; rw [mb]; unfold zDZ; simp [h6]
        go_enter Tryz.func145, Tryz.ntmps145;go_wp2_with (first | (go_at_call 98; refine (zAo _ _ _ _).mono ?_; rintro e w' ⟨rfl, rfl⟩))
        go_ret
        exact ⟨zAl HV.out.symm, B⟩
       ·skip
        have HV : Hid (zD4 (f0, f1, f2, f3, f4, [], f6) = true) := by unfold Hid; rw [mb]; unfold zDZ; simp [h1, h2, h3, h4, h5, h6, HD.out]
        go_enter Tryz.func145, Tryz.ntmps145;go_wp2_with (first | (go_at_call 98; refine (zAo _ _ _ _).mono ?_; rintro e w' ⟨rfl, rfl⟩))
        go_ret
        exact ⟨zAl HV.out.symm, B⟩
     ·have HD : Hid (zKM d = isL d) := zJD hz3;have hz4 : ¬ (d = []) := fun e => hz3 (by rw [e]; rfl);have hz : ¬ ((d.length : Int) = 0) := by omega
      have hz2 : ((d.length : Int) == 0) = false := beq_false_of_ne hz;cases h7 : isL d
      ·rw [h7] at HL;have HV : Hid (zD4 (f0, f1, f2, f3, f4, d, f6) = false) := by unfold Hid; rw [mb]; unfold zDZ; simp [HD.out, h7]
       go_enter Tryz.func145, Tryz.ntmps145;go_wp2_with (first | (go_at_call 98; refine (zAo _ _ _ _).mono ?_; rintro e w' ⟨rfl, rfl⟩) | (go_at_call 144; refine (HL.out _ B).mono ?_; rintro e w' ⟨rfl, rfl⟩))
       go_ret
       exact ⟨zAl HV.out.symm, B⟩
      ·rw [h7] at HL;cases h5 : zA8 f3 1 15
       ·skip
        have HV : Hid (zD4 (f0, f1, f2, f3, f4, d, f6) = false) := by unfold Hid; rw [mb]; unfold zDZ; simp [h5]
        go_enter Tryz.func145, Tryz.ntmps145;go_wp2_with (first | (go_at_call 98; refine (zAo _ _ _ _).mono ?_; rintro e w' ⟨rfl, rfl⟩) | (go_at_call 144; refine (HL.out _ B).mono ?_; rintro e w' ⟨rfl, rfl⟩))
        go_ret
        exact ⟨zAl HV.out.symm, B⟩
       ·cases h6 : zA8 f6 0 15
        ·skip
         have HV : Hid (zD4 (f0, f1, f2, f3, f4, d, f6) = false) := by unfold Hid; rw [mb]; unfold zDZ; simp [h6]
         go_enter Tryz.func145, Tryz.ntmps145;go_wp2_with (first | (go_at_call 98; refine (zAo _ _ _ _).mono ?_; rintro e w' ⟨rfl, rfl⟩) | (go_at_call 144; refine (HL.out _ B).mono ?_; rintro e w' ⟨rfl, rfl⟩))
         go_ret
         exact ⟨zAl HV.out.symm, B⟩
        ·skip
         have HV : Hid (zD4 (f0, f1, f2, f3, f4, d, f6) = true) := by unfold Hid; rw [mb]; unfold zDZ; simp [h1, h2, h3, h4, h5, h6, HD.out, h7]
         go_enter Tryz.func145, Tryz.ntmps145;go_wp2_with (first | (go_at_call 98; refine (zAo _ _ _ _).mono ?_; rintro e w' ⟨rfl, rfl⟩) | (go_at_call 144; refine (HL.out _ B).mono ?_; rintro e w' ⟨rfl, rfl⟩))
         go_ret
         exact ⟨zAl HV.out.symm, B⟩
end Go.Proofs.YtcocbafhcpdheaaGreatDoor
