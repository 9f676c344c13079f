import Derived.Test.YtcocbafhcpdheaaGreatDoorT00Box
import Derived.Test.YtcocbafhcpdheaaGreatDoorT35
namespace Go.Proofs.YtcocbafhcpdheaaGreatDoor
set_option maxHeartbeats 4000000
set_option maxRecDepth 20000
open Go.ChangeShapes Go.WideShapes Go.ChangeAt Go.RowKit
set_option linter.unusedVariables false
def holdE (x : zAW) : List Int := if zDD x then hoI x.1 x.2.1 else []
def zJC (c : Int) (x : zAW) : Bool := zCJ c x.2.2.2.2.1 && (holdE x).all (zCj c)
theorem hold_in (x : zAW) : ∀ k ∈ holdE x, zAN k := (zME x).2
theorem zMM (c s y l k : Int) (g : Nat) (w : World) (hc : zBe c s y l = 0) (G : w.heap[g]? = some (.cells #[.int .i64 c, .int .i64 s, .int .i64 y, .int .i64 l] 39 (0, 0))) :
    Calls Tryz.prog 168 #[.int .i64 k, .pointer (some ⟨g, 0, none⟩)] w fun e w' => e = .returned (.bool (!zCj c k)) ∧ Below w.heap.size w w' := by
 have a := zGF c s y l k w hc;generalize zCj c k = q at a ⊢;obtain ⟨j, d, b, i⟩ := zA5 G;clear hc G;go_enter Tryz.func168, Tryz.ntmps168;go_wp2_with fail
 refine a.mono ?_;rintro e w1 ⟨rfl, f⟩;clear j d b i;go_wp2;go_ret
 exact ⟨rfl, f⟩
theorem idxFnI (c s y l : Int) (g : Nat) (a : Option Addr) (xs : List Int) (cap : Nat) (w : World) (hc : zBe c s y l = 0) (G : w.heap[g]? = some (.cells #[.int .i64 c, .int .i64 s, .int .i64 y, .int .i64 l] 39 (0, 0))) (h : zA4 zAG w a xs) (hm : xs.length ≤ maxLen) :
    Calls Tryz.prog 208 #[.slice a xs.length cap, .func (.func 168) #[] #[.pointer (some ⟨g, 0, none⟩)]] w fun e w' => e = .returned (.int .i64 (zDW (zCj c) xs)) ∧ Below w.heap.size w w' := by
 have H : xs.length ≤ 9223372036854775807 := hm;have I : Hid (∀ W, Below w.heap.size w W → zA4 zAG W a xs) := fun W m => zAq h fun k F => m.block k F;have C : Hid (∀ k W, Below w.heap.size w W → Calls Tryz.prog 168 #[.int .i64 k, .pointer (some ⟨g, 0, none⟩)] W fun e w' => e = .returned (.bool (!zCj c k)) ∧ Below W.heap.size W w') := fun k W m => zMM c s y l k g W hc (zAb m G);clear h hm hc G;go_enter Tryz.func208, Tryz.ntmps208;go_wp2;go_loopw [8] (fun i wr => ∃ k : Nat, k ≤ xs.length ∧ i = .int .i64 k ∧ (∀ j v, j < k → xs[j]? = some v → zCj c v = true) ∧ Below w.heap.size w wr) (fun i _ => xs.length - (intOf i).toNat)
 case atStart => exact ⟨0, Nat.zero_le _, rfl, fun j v hj => by omega, Below.refl _ _⟩
 case round =>
  obtain ⟨k, F, rfl, n, f⟩ := hrel;by_cases r : k < xs.length
  ·have D : (k : Int) < (xs.length : Int) := by omega
   obtain ⟨x, A⟩ : ∃ x, xs[k]? = some x := ⟨_, List.getElem?_eq_getElem r⟩;obtain ⟨b, p, cs, rfl, ⟨rfl, -⟩, d⟩ := zAy (I.out _ f) A;have q := C.out x wr f;have B := d 0 _ rfl;rw [show p + (k * zAG.size + 0) = p + k from by rw [show zAG.size = 1 from rfl]; omega] at B;have E : Hid (xs[k]? = some x) := A;clear A d;cases m : zCj c x
   ·have z : Hid (zDW (zCj c) xs = k) := zEu E.out m n;rw [m] at q;go_wp2_with fail
    refine q.mono ?_;rintro e K ⟨rfl, o⟩;replace f := zAa f o;clear o B;go_wp2;go_ret
    exact ⟨zAx z.out.symm, f⟩
   ·rw [m] at q;go_wp2_with fail
    refine q.mono ?_;rintro e K ⟨rfl, o⟩;replace f := zAa f o;clear o B;go_wp2;go_roundw
    case rel =>
     refine ⟨k + 1, by omega, by go_num, fun j v hj hv => ?_, f⟩;by_cases J : j < k
     ·exact n j v J hv
     ·have : j = k := by omega
      subst this;rw [E.out] at hv;cases hv;exact m
    case measure => simp [intOf]; omega
  ·have z : Hid (zDW (zCj c) xs = -1) := zDT fun j v hv => n j v (by have := (List.getElem?_eq_some_iff.1 hv).1; omega) hv;go_wp2;go_ret
   exact ⟨zAx z.out.symm, f⟩
theorem conFnI (c s y l : Int) (g : Nat) (a : Option Addr) (xs : List Int) (cap : Nat) (w : World) (hc : zBe c s y l = 0) (G : w.heap[g]? = some (.cells #[.int .i64 c, .int .i64 s, .int .i64 y, .int .i64 l] 39 (0, 0))) (h : zA4 zAG w a xs) (hm : xs.length ≤ maxLen) :
    Calls Tryz.prog 166 #[.slice a xs.length cap, .func (.func 168) #[] #[.pointer (some ⟨g, 0, none⟩)]] w fun e w' => e = .returned (.bool (!xs.all (zCj c))) ∧ Below w.heap.size w w' := by
 have f := idxFnI c s y l g a xs cap w hc G h hm;have b := zD8 (zCj c) xs;clear h hm hc G;generalize zDW (zCj c) xs = q at f b;generalize xs.all (zCj c) = z at b ⊢;subst b;by_cases j : q < 0
 ·have i : ¬ (0 ≤ q) := by omega
  go_enter Tryz.func166, Tryz.ntmps166;go_wp2_with fail
  refine f.mono ?_;rintro e k ⟨rfl, d⟩;go_wp2;go_ret
  exact ⟨by simp [j], d⟩
 ·have i : 0 ≤ q := by omega
  go_enter Tryz.func166, Tryz.ntmps166;go_wp2_with fail
  refine f.mono ?_;rintro e k ⟨rfl, d⟩;go_wp2;go_ret
  exact ⟨by simp [j], d⟩
theorem zIy (c s y l : Int) (x : zAW) (xa : Option Addr) (xc : Nat) (w : World) (hc : zBe c s y l = 0) (h : zA4 zAG w xa x.2.2.2.2.2.2.2) :
    Calls Tryz.prog 122 #[.agg #[.int .i64 c, .int .i64 s, .int .i64 y, .int .i64 l], .agg #[.int .i64 x.1, .int .i64 x.2.1, .bool x.2.2.1, .int .i64 x.2.2.2.1, .int .i64 x.2.2.2.2.1, .int .i64 x.2.2.2.2.2.1, .int .i64 x.2.2.2.2.2.2.1, .slice xa x.2.2.2.2.2.2.2.length xc]] w fun e w' => e = .returned (.bool (zJC c x)) ∧ Below w.heap.size w w' := by
 have q : Hid (∀ W, Calls Tryz.prog 165 #[.agg #[.int .i64 c, .int .i64 s, .int .i64 y, .int .i64 l], .int .i64 x.2.2.2.2.1] W fun e w' => e = .returned (.bool (zCJ c x.2.2.2.2.1)) ∧ Below W.heap.size W w') := fun W => zEs c s y l x.2.2.2.2.1 W hc;have G : Hid _ := fun (W : World) (hb : Below w.heap.size w W) => zGN x.1 x.2.1 x.2.2.2.1 x.2.2.2.2.1 x.2.2.2.2.2.1 x.2.2.2.2.2.2.1 x.2.2.1 x.2.2.2.2.2.2.2 xa xc W (zAm h hb);unfold zJC;generalize zCJ c x.2.2.2.2.1 = q1 at q ⊢;clear h;have B := Below.refl w.heap.size w;go_enter Tryz.func122, Tryz.ntmps122;go_upto_region 1 with fail
 generalize b : w.alloc _ = u1w;have X := boxH b;have f := boxB b;have n := boxL b;clear b;replace B := zAa B f;clear f;have H := Nat.le_of_eq n;have I := Nat.le_of_eq n.symm;clear n;generalize a : u1w.alloc _ = u2w;have E := boxH a;have f := boxB a;have i := boxL a;clear a;rw [show u1w.heap.size = w.heap.size + 1 from by omega] at E;replace B := zAa B f;replace X := zAb f X;clear f;have C := Nat.le_of_eq i;have J := Nat.le_of_eq i.symm;clear i;obtain ⟨Xc0, Xc1, Xc2, Xc3⟩ := zA5 X;have Xlt := (ltH X);obtain ⟨Ec0, Ec1, Ec2, Ec3, Ec4, Ec5, Ec6, Ec7⟩ := zCi E;have Elt := (ltH E);go_wp2_with fail
 clear Xc0 Xc1 Xc2 Xc3 Xlt Ec0 Ec1 Ec2 Ec3 Ec4 Ec5 Ec6 Ec7 Elt;refine (q.out _).mono ?_;rintro e m ⟨rfl, d⟩;have A : u2w.heap.size ≤ m.heap.size := d.size;replace B := zAa B d;replace X := zAb d X;replace E := zAb d E;clear d;cases q1
 ·skip
  obtain ⟨Xc0, Xc1, Xc2, Xc3⟩ := zA5 X;have Xlt := (ltH X);obtain ⟨Ec0, Ec1, Ec2, Ec3, Ec4, Ec5, Ec6, Ec7⟩ := zCi E;have Elt := (ltH E);have p : Hid _ := B;clear B X E;go_wp2;go_ret
  exact ⟨rfl, p.out⟩
 ·skip
  obtain ⟨Xc0, Xc1, Xc2, Xc3⟩ := zA5 X;have Xlt := (ltH X);obtain ⟨Ec0, Ec1, Ec2, Ec3, Ec4, Ec5, Ec6, Ec7⟩ := zCi E;have Elt := (ltH E);go_wp2_with fail
  clear Xc0 Xc1 Xc2 Xc3 Xlt Ec0 Ec1 Ec2 Ec3 Ec4 Ec5 Ec6 Ec7 Elt;refine (G.out _ B).mono ?_;rintro e F ⟨v, rfl, r⟩;have k := zDF r (hold_in x);obtain ⟨L, K, z, o, j, D⟩ := zA0.own_rd k.1;simp only [List.cons.injEq, and_true] at z;obtain rfl := z;have g := k.2;clear r k;replace B := zAa B g;replace X := zAb g X;replace E := zAb g E;clear g;obtain ⟨Xc0, Xc1, Xc2, Xc3⟩ := zA5 X;have Xlt := (ltH X);obtain ⟨Ec0, Ec1, Ec2, Ec3, Ec4, Ec5, Ec6, Ec7⟩ := zCi E;have Elt := (ltH E);go_wp2_with fail
  clear Xc0 Xc1 Xc2 Xc3 Xlt Ec0 Ec1 Ec2 Ec3 Ec4 Ec5 Ec6 Ec7 Elt;refine (conFnI c s y l w.heap.size L (holdE x) K _ hc X D (Nat.le_trans o j)).mono ?_;rintro e M ⟨rfl, d⟩;replace B := zAa B d;replace X := zAb d X;replace E := zAb d E;clear d;obtain ⟨Xc0, Xc1, Xc2, Xc3⟩ := zA5 X;have Xlt := (ltH X);obtain ⟨Ec0, Ec1, Ec2, Ec3, Ec4, Ec5, Ec6, Ec7⟩ := zCi E;have Elt := (ltH E);have p : Hid _ := B;clear B X E;go_wp2;go_ret
  exact ⟨by simp, p.out⟩
def zDZ (r f t : Int) : Bool := zA8 r 0 2 && (zA8 f 0 5 && zA8 t 0 5)
def zKM (d : List Int) : Bool := d.isEmpty || isL d
def zD4 (u : zDy) : Bool := zDZ u.1 u.2.1 u.2.2.1 && (zA8 u.2.2.2.1 1 15 && (zA8 u.2.2.2.2.1 0 15 && (zKM u.2.2.2.2.2.1 && zA8 u.2.2.2.2.2.2 0 15)))
theorem zLF {d : List Int} (h : d.length = 0) : zKM d = true := by
 have : d = [] := List.eq_nil_of_length_eq_zero h;subst this;rfl
theorem zJD {d : List Int} (h : ¬ d.length = 0) : zKM d = isL d := by
 cases d with
 | nil => exact (h rfl).elim
 | cons x r => rfl
theorem mb {r f t k l g : Int} {d : List Int} : zD4 (r, f, t, k, l, d, g) = (zDZ r f t && (zA8 k 1 15 && (zA8 l 0 15 && (zKM d && zA8 g 0 15)))) := rfl
theorem zCy (k : Int) (w : World) : Calls Tryz.prog 229 #[.int .i64 k] w fun e a => e = .returned (.bool (zA8 k 0 15)) ∧ a = w := by
 go_enter Tryz.func229, Tryz.ntmps229;go_wp2_with (go_at_call 76; refine (zAw _ _ _ _).mono ?_; rintro e a ⟨rfl, rfl⟩)
 go_ret
 exact ⟨rfl, rfl⟩
theorem zJE (f0 f1 f2 f3 f4 f6 : Int) (d : List Int) (a : Option Addr) (cap : Nat) (w : World) :
    Calls Tryz.prog 228 #[.agg #[.int .i64 f0, .int .i64 f1, .int .i64 f2, .int .i64 f3, .int .i64 f4, .slice a d.length cap, .int .i64 f6]] w fun e b => e = .returned (.bool (zDZ f0 f1 f2)) ∧ Below w.heap.size w b := by
 have c : Hid _ := zAf w;unfold zDZ;cases h1 : zA8 f0 0 2
 ·go_enter Tryz.func228, Tryz.ntmps228;go_wp2_with (go_at_call 76; refine (zAw _ _ _ _).mono ?_; rintro e b ⟨rfl, rfl⟩)
  go_ret
  exact ⟨rfl, c.out _⟩
 ·cases h2 : zA8 f1 0 5
  ·go_enter Tryz.func228, Tryz.ntmps228;go_wp2_with (go_at_call 76; refine (zAw _ _ _ _).mono ?_; rintro e b ⟨rfl, rfl⟩)
   go_ret
   exact ⟨rfl, c.out _⟩
  ·go_enter Tryz.func228, Tryz.ntmps228;go_wp2_with (go_at_call 76; refine (zAw _ _ _ _).mono ?_; rintro e b ⟨rfl, rfl⟩)
   go_ret
   exact ⟨rfl, c.out _⟩
theorem zIz (f0 f1 f2 f3 f4 f6 : Int) (d : List Int) (a : Option Addr) (cap : Nat) (w : World) (h : zA4 zAG w a d) :
    Calls Tryz.prog 188 #[.agg #[.int .i64 f0, .int .i64 f1, .int .i64 f2, .int .i64 f3, .int .i64 f4, .slice a d.length cap, .int .i64 f6]] w fun e f => e = .returned (.bool (zD4 (f0, f1, f2, f3, f4, d, f6))) ∧ Below w.heap.size w f := by
 have g : Hid (∀ W, Calls Tryz.prog 228 #[.agg #[.int .i64 f0, .int .i64 f1, .int .i64 f2, .int .i64 f3, .int .i64 f4, .slice a d.length cap, .int .i64 f6]] W fun e f => e = .returned (.bool (zDZ f0 f1 f2)) ∧ Below W.heap.size W f) := fun W => zJE f0 f1 f2 f3 f4 f6 d a cap W;have r : Hid _ := fun (W : World) (j : Below w.heap.size w W) => zBK a d cap W (zBv (zAm h j));have X := zAn w (.cells #[.int .i64 f0, .int .i64 f1, .int .i64 f2, .int .i64 f3, .int .i64 f4, .slice a d.length cap, .int .i64 f6] 119);have B := zAf w (.cells #[.int .i64 f0, .int .i64 f1, .int .i64 f2, .int .i64 f3, .int .i64 f4, .slice a d.length cap, .int .i64 f6] 119);clear h;rw [mb];cases y : zDZ f0 f1 f2
 ·rw [y] at g;go_enter Tryz.func188, Tryz.ntmps188;go_wp2_with fail
  generalize w.alloc (.cells #[.int .i64 f0, .int .i64 f1, .int .i64 f2, .int .i64 f3, .int .i64 f4, .slice a d.length cap, .int .i64 f6] 119) = W0 at X B ⊢;refine (g.out _).mono ?_;rintro e s ⟨rfl, c⟩;replace X := zAb c X;replace B := zAa B c;clear c g;obtain ⟨m, k, o, n, p, i, l⟩ := zAQ X;go_wp2_with (first | (b 76; refine (zAw _ _ _ _).mono ?_; rintro e f ⟨rfl, rfl⟩) | (b 229; refine (zCy _ _).mono ?_; rintro e f ⟨rfl, rfl⟩))
  go_ret
  exact ⟨rfl, B⟩
 ·rw [y] at g;cases h2 : zA8 f3 1 15
  ·clear r;go_enter Tryz.func188, Tryz.ntmps188;go_wp2_with fail
   generalize w.alloc (.cells #[.int .i64 f0, .int .i64 f1, .int .i64 f2, .int .i64 f3, .int .i64 f4, .slice a d.length cap, .int .i64 f6] 119) = W0 at X B ⊢;refine (g.out _).mono ?_;rintro e s ⟨rfl, c⟩;replace X := zAb c X;replace B := zAa B c;clear c g;obtain ⟨m, k, o, n, p, i, l⟩ := zAQ X;go_wp2_with (first | (b 76; refine (zAw _ _ _ _).mono ?_; rintro e f ⟨rfl, rfl⟩) | (b 229; refine (zCy _ _).mono ?_; rintro e f ⟨rfl, rfl⟩))
   go_ret
   exact ⟨rfl, B⟩
  ·cases h3 : zA8 f4 0 15
   ·clear r;go_enter Tryz.func188, Tryz.ntmps188;go_wp2_with fail
    generalize w.alloc (.cells #[.int .i64 f0, .int .i64 f1, .int .i64 f2, .int .i64 f3, .int .i64 f4, .slice a d.length cap, .int .i64 f6] 119) = W0 at X B ⊢;refine (g.out _).mono ?_;rintro e s ⟨rfl, c⟩;replace X := zAb c X;replace B := zAa B c;clear c g;obtain ⟨m, k, o, n, p, i, l⟩ := zAQ X;go_wp2_with (first | (b 76; refine (zAw _ _ _ _).mono ?_; rintro e f ⟨rfl, rfl⟩) | (b 229; refine (zCy _ _).mono ?_; rintro e f ⟨rfl, rfl⟩))
    go_ret
    exact ⟨rfl, B⟩
   ·by_cases q : d.length = 0
    ·have E : Hid (zKM d = true) := zLF q;rw [E.out];have v : d = [] := List.eq_nil_of_length_eq_zero q;clear r;cases F : zA8 f6 0 15
     ·subst v;go_enter Tryz.func188, Tryz.ntmps188;go_wp2_with fail
      generalize w.alloc (.cells #[.int .i64 f0, .int .i64 f1, .int .i64 f2, .int .i64 f3, .int .i64 f4, .slice a ([] : List Int).length cap, .int .i64 f6] 119) = W0 at X B ⊢;refine (g.out _).mono ?_;rintro e s ⟨rfl, c⟩;replace X := zAb c X;replace B := zAa B c;clear c g;obtain ⟨m, k, o, n, p, i, l⟩ := zAQ X;go_wp2_with (first | (b 76; refine (zAw _ _ _ _).mono ?_; rintro e f ⟨rfl, rfl⟩) | (b 229; refine (zCy _ _).mono ?_; rintro e f ⟨rfl, rfl⟩))
      go_ret
      exact ⟨rfl, B⟩
     ·subst v;go_enter Tryz.func188, Tryz.ntmps188;go_wp2_with fail
      generalize w.alloc (.cells #[.int .i64 f0, .int .i64 f1, .int .i64 f2, .int .i64 f3, .int .i64 f4, .slice a ([] : List Int).length cap, .int .i64 f6] 119) = W0 at X B ⊢;refine (g.out _).mono ?_;rintro e s ⟨rfl, c⟩;replace X := zAb c X;replace B := zAa B c;clear c g;obtain ⟨m, k, o, n, p, i, l⟩ := zAQ X;go_wp2_with (first | (b 76; refine (zAw _ _ _ _).mono ?_; rintro e f ⟨rfl, rfl⟩) | (b 229; refine (zCy _ _).mono ?_; rintro e f ⟨rfl, rfl⟩))
      go_ret
      exact ⟨rfl, B⟩
    ·rw [zJD q];have G : ¬ (d = []) := fun e => q (by rw [e]; rfl);have D : ¬ ((d.length : Int) = 0) := by omega
     have C : ((d.length : Int) == 0) = false := beq_false_of_ne D;cases z : isL d
     ·rw [z] at r;go_enter Tryz.func188, Tryz.ntmps188;go_wp2_with fail
      generalize w.alloc (.cells #[.int .i64 f0, .int .i64 f1, .int .i64 f2, .int .i64 f3, .int .i64 f4, .slice a d.length cap, .int .i64 f6] 119) = W0 at X B ⊢;refine (g.out _).mono ?_;rintro e s ⟨rfl, c⟩;replace X := zAb c X;replace B := zAa B c;clear c g;obtain ⟨m, k, o, n, p, i, l⟩ := zAQ X;go_wp2_with (first | (b 76; refine (zAw _ _ _ _).mono ?_; rintro e f ⟨rfl, rfl⟩) | (b 229; refine (zCy _ _).mono ?_; rintro e f ⟨rfl, rfl⟩) | (b 224; refine (r.out _ B).mono ?_; rintro e A ⟨rfl, j⟩; replace X := zAb j X; replace B := zAa B j; clear j m k o n p i l; obtain ⟨m, k, o, n, p, i, l⟩ := zAQ X))
      go_ret
      exact ⟨rfl, B⟩
     ·rw [z] at r;cases F : zA8 f6 0 15
      ·skip
       go_enter Tryz.func188, Tryz.ntmps188;go_wp2_with fail
       generalize w.alloc (.cells #[.int .i64 f0, .int .i64 f1, .int .i64 f2, .int .i64 f3, .int .i64 f4, .slice a d.length cap, .int .i64 f6] 119) = W0 at X B ⊢;refine (g.out _).mono ?_;rintro e s ⟨rfl, c⟩;replace X := zAb c X;replace B := zAa B c;clear c g;obtain ⟨m, k, o, n, p, i, l⟩ := zAQ X;go_wp2_with (first | (b 76; refine (zAw _ _ _ _).mono ?_; rintro e f ⟨rfl, rfl⟩) | (b 229; refine (zCy _ _).mono ?_; rintro e f ⟨rfl, rfl⟩) | (b 224; refine (r.out _ B).mono ?_; rintro e A ⟨rfl, j⟩; replace X := zAb j X; replace B := zAa B j; clear j m k o n p i l; obtain ⟨m, k, o, n, p, i, l⟩ := zAQ X))
       go_ret
       exact ⟨rfl, B⟩
      ·skip
       go_enter Tryz.func188, Tryz.ntmps188;go_wp2_with fail
       generalize w.alloc (.cells #[.int .i64 f0, .int .i64 f1, .int .i64 f2, .int .i64 f3, .int .i64 f4, .slice a d.length cap, .int .i64 f6] 119) = W0 at X B ⊢;refine (g.out _).mono ?_;rintro e s ⟨rfl, c⟩;replace X := zAb c X;replace B := zAa B c;clear c g;obtain ⟨m, k, o, n, p, i, l⟩ := zAQ X;go_wp2_with (first | (b 76; refine (zAw _ _ _ _).mono ?_; rintro e f ⟨rfl, rfl⟩) | (b 229; refine (zCy _ _).mono ?_; rintro e f ⟨rfl, rfl⟩) | (b 224; refine (r.out _ B).mono ?_; rintro e A ⟨rfl, j⟩; replace X := zAb j X; replace B := zAa B j; clear j m k o n p i l; obtain ⟨m, k, o, n, p, i, l⟩ := zAQ X))
       go_ret
       exact ⟨rfl, B⟩
theorem zKN (f0 f1 f2 f3 f4 f6 : Int) (d : List Int) (a : Option Addr) (cap : Nat) (w : World) (h : zA4 zAG w a d) :
    Calls Tryz.prog 145 #[.agg #[.int .i64 f0, .int .i64 f1, .int .i64 f2, .int .i64 f3, .int .i64 f4, .slice a d.length cap, .int .i64 f6]] w fun e f => e = .returned (.bool (zD4 (f0, f1, f2, f3, f4, d, f6))) ∧ Below w.heap.size w f := by
 have g : Hid _ := fun (W : World) (hb : Below w.heap.size w W) => zB4 a d cap W (zBv (zAm h hb));have B := zAf w (.cells #[.int .i64 f0, .int .i64 f1, .int .i64 f2, .int .i64 f3, .int .i64 f4, .slice a d.length cap, .int .i64 f6] 119);clear h;cases n : zA8 f0 0 2
 ·clear g;have c : Hid (zD4 (f0, f1, f2, f3, f4, d, f6) = false) := by unfold Hid; rw [mb]; unfold zDZ; simp [n]
  go_enter Tryz.func145, Tryz.ntmps145;go_wp2_with (first | (b 98; refine (zAo _ _ _ _).mono ?_; rintro e f ⟨rfl, rfl⟩))
  go_ret
  exact ⟨zAl c.out.symm, B⟩
 ·cases p : zA8 f1 0 5
  ·clear g;have c : Hid (zD4 (f0, f1, f2, f3, f4, d, f6) = false) := by unfold Hid; rw [mb]; unfold zDZ; simp [p]
   go_enter Tryz.func145, Tryz.ntmps145;go_wp2_with (first | (b 98; refine (zAo _ _ _ _).mono ?_; rintro e f ⟨rfl, rfl⟩))
   go_ret
   exact ⟨zAl c.out.symm, B⟩
  ·cases o : zA8 f2 0 5
   ·clear g;have c : Hid (zD4 (f0, f1, f2, f3, f4, d, f6) = false) := by unfold Hid; rw [mb]; unfold zDZ; simp [o]
    go_enter Tryz.func145, Tryz.ntmps145;go_wp2_with (first | (b 98; refine (zAo _ _ _ _).mono ?_; rintro e f ⟨rfl, rfl⟩))
    go_ret
    exact ⟨zAl c.out.symm, B⟩
   ·cases q : zA8 f4 0 15
    ·clear g;have c : Hid (zD4 (f0, f1, f2, f3, f4, d, f6) = false) := by unfold Hid; rw [mb]; unfold zDZ; simp [q]
     go_enter Tryz.func145, Tryz.ntmps145;go_wp2_with (first | (b 98; refine (zAo _ _ _ _).mono ?_; rintro e f ⟨rfl, rfl⟩))
     go_ret
     exact ⟨zAl c.out.symm, B⟩
    ·by_cases i : d.length = 0
     ·have l : Hid (zKM d = true) := zLF i;have r : d = [] := List.eq_nil_of_length_eq_zero i;clear g;subst r;cases j : zA8 f3 1 15
      ·skip
       have c : Hid (zD4 (f0, f1, f2, f3, f4, [], f6) = false) := by unfold Hid; rw [mb]; unfold zDZ; simp [j]
       go_enter Tryz.func145, Tryz.ntmps145;go_wp2_with (first | (b 98; refine (zAo _ _ _ _).mono ?_; rintro e f ⟨rfl, rfl⟩))
       go_ret
       exact ⟨zAl c.out.symm, B⟩
      ·cases k : zA8 f6 0 15
       ·skip
        have c : Hid (zD4 (f0, f1, f2, f3, f4, [], f6) = false) := by unfold Hid; rw [mb]; unfold zDZ; simp [k]
        go_enter Tryz.func145, Tryz.ntmps145;go_wp2_with (first | (b 98; refine (zAo _ _ _ _).mono ?_; rintro e f ⟨rfl, rfl⟩))
        go_ret
        exact ⟨zAl c.out.symm, B⟩
       ·skip
        have c : Hid (zD4 (f0, f1, f2, f3, f4, [], f6) = true) := by unfold Hid; rw [mb]; unfold zDZ; simp [n, p, o, q, j, k, l.out]
        go_enter Tryz.func145, Tryz.ntmps145;go_wp2_with (first | (b 98; refine (zAo _ _ _ _).mono ?_; rintro e f ⟨rfl, rfl⟩))
        go_ret
        exact ⟨zAl c.out.symm, B⟩
     ·have l : Hid (zKM d = isL d) := zJD i;have y : ¬ (d = []) := fun e => i (by rw [e]; rfl);have v : ¬ ((d.length : Int) = 0) := by omega
      have s : ((d.length : Int) == 0) = false := beq_false_of_ne v;cases m : isL d
      ·rw [m] at g;have c : Hid (zD4 (f0, f1, f2, f3, f4, d, f6) = false) := by unfold Hid; rw [mb]; unfold zDZ; simp [l.out, m]
       go_enter Tryz.func145, Tryz.ntmps145;go_wp2_with (first | (b 98; refine (zAo _ _ _ _).mono ?_; rintro e f ⟨rfl, rfl⟩) | (b 144; refine (g.out _ B).mono ?_; rintro e f ⟨rfl, rfl⟩))
       go_ret
       exact ⟨zAl c.out.symm, B⟩
      ·rw [m] at g;cases j : zA8 f3 1 15
       ·skip
        have c : Hid (zD4 (f0, f1, f2, f3, f4, d, f6) = false) := by unfold Hid; rw [mb]; unfold zDZ; simp [j]
        go_enter Tryz.func145, Tryz.ntmps145;go_wp2_with (first | (b 98; refine (zAo _ _ _ _).mono ?_; rintro e f ⟨rfl, rfl⟩) | (b 144; refine (g.out _ B).mono ?_; rintro e f ⟨rfl, rfl⟩))
        go_ret
        exact ⟨zAl c.out.symm, B⟩
       ·cases k : zA8 f6 0 15
        ·skip
         have c : Hid (zD4 (f0, f1, f2, f3, f4, d, f6) = false) := by unfold Hid; rw [mb]; unfold zDZ; simp [k]
         go_enter Tryz.func145, Tryz.ntmps145;go_wp2_with (first | (b 98; refine (zAo _ _ _ _).mono ?_; rintro e f ⟨rfl, rfl⟩) | (b 144; refine (g.out _ B).mono ?_; rintro e f ⟨rfl, rfl⟩))
         go_ret
         exact ⟨zAl c.out.symm, B⟩
        ·skip
         have c : Hid (zD4 (f0, f1, f2, f3, f4, d, f6) = true) := by unfold Hid; rw [mb]; unfold zDZ; simp [n, p, o, q, j, k, l.out, m]
         go_enter Tryz.func145, Tryz.ntmps145;go_wp2_with (first | (b 98; refine (zAo _ _ _ _).mono ?_; rintro e f ⟨rfl, rfl⟩) | (b 144; refine (g.out _ B).mono ?_; rintro e f ⟨rfl, rfl⟩))
         go_ret
         exact ⟨zAl c.out.symm, B⟩
end Go.Proofs.YtcocbafhcpdheaaGreatDoor
