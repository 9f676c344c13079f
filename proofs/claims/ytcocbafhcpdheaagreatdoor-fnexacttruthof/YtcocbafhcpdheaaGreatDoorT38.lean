import Derived.Test.YtcocbafhcpdheaaGreatDoorT00Box
import Derived.Test.YtcocbafhcpdheaaGreatDoorT37
namespace Go.Proofs.YtcocbafhcpdheaaGreatDoor
set_option maxHeartbeats 2000000
set_option maxRecDepth 20000
open Go.ChangeShapes Go.WideShapes Go.ChangeAt Go.RowKit
set_option linter.unusedVariables false
def zDU (u : zBU) (ws : List Int) : Bool := if u.1 then decide (ws.length = 0) else isL ws
def zFg (xs : List zBU) (ys : List (List Int)) : Bool := decide (xs.length = ys.length) && (xs.zip ys).all fun z => zDU z.1 z.2
def zFT (xs : List zBU) : Bool := decide (xs.length ≤ 30) && xs.all zBn
def zCV (x : zFt) : Bool := zA8 x.2.1 0 x.1.length
def zGQ (x : zFt) : Bool := !x.2.2.1 || decide (x.2.1 < (x.1.length : Int))
def zMP (x : zFt) : Bool := zFT x.1 && (zCV x && (zGQ x && zFg (x.1.take x.2.1.toNat) x.2.2.2))
theorem zLG {xs : List zBU} {ys : List (List Int)} {k : Nat} {u : zBU} {v : List Int} (hu : xs[k]? = some u) (hv : ys[k]? = some v) (h : zDU u v = false) : zFg xs ys = false := by
 have a : (u, v) ∈ xs.zip ys := List.mem_of_getElem? (by rw [List.getElem?_zip_eq_some]; exact ⟨hu, hv⟩);have : (xs.zip ys).all (fun z => zDU z.1 z.2) = false := by
  cases q : (xs.zip ys).all (fun z => zDU z.1 z.2)
  ·rfl
  ·have := List.all_eq_true.1 q _ a;simp only at this
   rw [h] at this;cases this
 unfold zFg;rw [this, Bool.and_false]
theorem zJI {xs : List zBU} {ys : List (List Int)} (hl : xs.length = ys.length) (h : ∀ (k : Nat) u v, xs[k]? = some u → ys[k]? = some v → zDU u v = true) : zFg xs ys = true := by
 unfold zFg;rw [decide_eq_true hl, Bool.true_and, List.all_eq_true];rintro ⟨u, v⟩ b;obtain ⟨k, a⟩ := List.getElem?_of_mem b;rw [List.getElem?_zip_eq_some] at a;exact h k u v a.1 a.2
theorem zFF {w : World} {cs : List Value} {u : zBU} (h : zAR.rd w cs u) : ∃ (ua : Option Addr) (uc : Nat), cs = [.bool u.1, .int .i64 u.2.1, .int .i64 u.2.2.1, .slice ua u.2.2.2.length uc] ∧ zA4 zAG w ua u.2.2.2 := by
 obtain ⟨a, c, rfl, -, -, -, -, q⟩ := zEn h;exact ⟨a, c, rfl, q⟩
theorem zJJ (u : zBU) (ua : Option Addr) (uc : Nat) (w : World) (h : zA4 zAG w ua u.2.2.2) :
    Calls Tryz.prog 221 #[.agg #[.bool u.1, .int .i64 u.2.1, .int .i64 u.2.2.1, .slice ua u.2.2.2.length uc]] w fun e w' => e = .returned (.bool (!zBn u)) ∧ Below w.heap.size w w' := by
 have B := zAf w (.cells #[.bool u.1, .int .i64 u.2.1, .int .i64 u.2.2.1, .slice ua u.2.2.2.length uc] 165);have a : Hid _ := fun (W : World) (hb : Below w.heap.size w W) => zEK u.1 u.2.1 u.2.2.1 u.2.2.2 ua uc W (zAm h hb);generalize zBn u = q at a ⊢;clear h;go_enter Tryz.func221, Tryz.ntmps221;go_wp2_with fail
 generalize w.alloc (.cells #[.bool u.1, .int .i64 u.2.1, .int .i64 u.2.2.1, .slice ua u.2.2.2.length uc] 165) = W0 at B ⊢;refine (a.out _ B).mono ?_;rintro e w1 ⟨rfl, b⟩;go_wp2;go_ret
 exact ⟨rfl, zAa B b⟩
theorem idxBadD (a : Option Addr) (xs : List zBU) (cap : Nat) (w : World) (h : zA4 zAR w a xs) (hm : xs.length ≤ maxLen) :
    Calls Tryz.prog 255 #[.slice a xs.length cap, .func (.func 221) #[] #[]] w fun e w' => e = .returned (.int .i64 (zDW zBn xs)) ∧ Below w.heap.size w w' := by
 have D : xs.length ≤ 9223372036854775807 := hm;have F : Hid (∀ W, Below w.heap.size w W → zA4 zAR W a xs) := fun W g => zAq h fun k y => g.block k y;clear h hm;go_enter Tryz.func255, Tryz.ntmps255;go_wp2;go_loopw [8] (fun i wr => ∃ k : Nat, k ≤ xs.length ∧ i = .int .i64 k ∧ (∀ j v, j < k → xs[j]? = some v → zBn v = true) ∧ Below w.heap.size w wr) (fun i _ => xs.length - (intOf i).toNat)
 case atStart => exact ⟨0, Nat.zero_le _, rfl, fun j v hj => by omega, Below.refl _ _⟩
 case round =>
  obtain ⟨k, y, rfl, f, d⟩ := hrel;by_cases n : k < xs.length
  ·have q : (k : Int) < (xs.length : Int) := by omega
   obtain ⟨u, p⟩ : ∃ x, xs[k]? = some x := ⟨_, List.getElem?_eq_getElem n⟩;obtain ⟨bb, J, cs, rfl, c, b⟩ := zAy (F.out _ d) p;obtain ⟨H, E, rfl, z⟩ := zFF c;have m := zJJ u H E wr z;obtain ⟨A, s, C, B⟩ := cellsAt4 b rfl;have r : Hid (xs[k]? = some u) := p;clear p b c z;cases g : zBn u
   ·have o : Hid (zDW zBn xs = k) := zEu r.out g f;rw [g] at m;go_wp2_with fail
    refine m.mono ?_;rintro e I ⟨rfl, l⟩;replace d := zAa d l;clear l A s C B;go_wp2;go_ret
    exact ⟨zAx o.out.symm, d⟩
   ·rw [g] at m;go_wp2_with fail
    refine m.mono ?_;rintro e I ⟨rfl, l⟩;replace d := zAa d l;clear l A s C B;go_wp2;go_roundw
    case rel =>
     refine ⟨k + 1, by omega, by go_num, fun j v hj hv => ?_, d⟩;by_cases G : j < k
     ·exact f j v G hv
     ·have : j = k := by omega
      subst this;rw [r.out] at hv;cases hv;exact g
    case measure => simp [intOf]; omega
  ·have o : Hid (zDW zBn xs = -1) := zDT fun j v hv => f j v (by have := (List.getElem?_eq_some_iff.1 hv).1; omega) hv;go_wp2;go_ret
   exact ⟨zAx o.out.symm, d⟩
theorem conBadD (a : Option Addr) (xs : List zBU) (cap : Nat) (w : World) (h : zA4 zAR w a xs) (hm : xs.length ≤ maxLen) :
    Calls Tryz.prog 220 #[.slice a xs.length cap, .func (.func 221) #[] #[]] w fun e w' => e = .returned (.bool (!xs.all zBn)) ∧ Below w.heap.size w w' := by
 have d := idxBadD a xs cap w h hm;have b := zD8 zBn xs;clear h hm;generalize zDW zBn xs = q at d b;generalize xs.all zBn = y at b ⊢;subst b;by_cases g : q < 0
 ·have f : ¬ (0 ≤ q) := by omega
  go_enter Tryz.func220, Tryz.ntmps220;go_wp2_with fail
  refine d.mono ?_;rintro e i ⟨rfl, c⟩;go_wp2;go_ret
  exact ⟨by simp [g], c⟩
 ·have f : 0 ≤ q := by omega
  go_enter Tryz.func220, Tryz.ntmps220;go_wp2_with fail
  refine d.mono ?_;rintro e i ⟨rfl, c⟩;go_wp2;go_ret
  exact ⟨by simp [g], c⟩
theorem zGR (a : Option Addr) (xs : List zBU) (cap : Nat) (w : World) (h : zA4 zAR w a xs) (hm : xs.length ≤ maxLen) :
    Calls Tryz.prog 176 #[.slice a xs.length cap] w fun e w' => e = .returned (.bool (zFT xs)) ∧ Below w.heap.size w w' := by
 have c := conBadD a xs cap w h hm;have d : xs.length ≤ 9223372036854775807 := hm;unfold zFT;generalize xs.all zBn = y at c ⊢;clear h hm;by_cases g : xs.length ≤ 30
 ·have b : (xs.length : Int) ≤ 30 := by omega
  go_enter Tryz.func176, Tryz.ntmps176;go_wp2_with fail
  refine c.mono ?_;rintro e w1 ⟨rfl, f⟩;go_wp2;go_ret
  exact ⟨by simp [g], f⟩
 ·have b : ¬ ((xs.length : Int) ≤ 30) := by omega
  go_enter Tryz.func176, Tryz.ntmps176;go_wp2;go_ret
  exact ⟨by simp, Below.refl _ _⟩
theorem zJK (x : zFt) (a b : Option Addr) (ca cb : Nat) (w : World) :
    Calls Tryz.prog 177 #[.agg #[.slice a x.1.length ca, .int .i64 x.2.1, .bool x.2.2.1, .slice b x.2.2.2.length cb]] w fun e w' => e = .returned (.agg #[.slice a x.1.length ca, .int .i64 x.2.1]) ∧ Below w.heap.size w w' := by
 have c : Hid (∀ o o', Below w.heap.size w ((w.alloc o).alloc o')) := fun o o' => zAa (zAf w o) (zAf _ o');go_enter Tryz.func177, Tryz.ntmps177;go_wp2;refine bodyPost_ret (v := .agg #[.slice a x.1.length ca, .int .i64 x.2.1]) (by simp [results, Tryz.results177, go_sem]) rfl ⟨rfl, ?_⟩;exact c.out _ _
theorem zOK (x : zFt) (a : Option Addr) (ca : Nat) (w : World) (hl : x.1.length ≤ maxLen) :
    Calls Tryz.prog 178 #[.agg #[.slice a x.1.length ca, .int .i64 x.2.1]] w fun e w' => e = .returned (.bool (zCV x)) ∧ Below w.heap.size w w' := by
 have d : x.1.length ≤ 9223372036854775807 := hl;have B := zAf w (.cells #[.slice a x.1.length ca, .int .i64 x.2.1] 206);have b : Hid (∀ W, Calls Tryz.prog 76 #[.int .i64 x.2.1, .int .i64 0, .int .i64 (x.1.length : Int)] W fun e w' => e = .returned (.bool (zCV x)) ∧ Below W.heap.size W w') := fun W => (zAw x.2.1 0 x.1.length W).mono fun e w' ⟨q, r⟩ => ⟨q, zEO r⟩;generalize zCV x = q at b ⊢;clear hl;go_enter Tryz.func178, Tryz.ntmps178;go_wp2_with fail
 generalize w.alloc (.cells #[.slice a x.1.length ca, .int .i64 x.2.1] 206) = W0 at B ⊢;refine (b.out _).mono ?_;rintro e w1 ⟨rfl, c⟩;replace B := zAa B c;clear c;go_wp2;go_ret
 exact ⟨rfl, B⟩
theorem zKP (x : zFt) (a : Option Addr) (ca : Nat) (w : World) (hl : x.1.length ≤ maxLen) :
    Calls Tryz.prog 223 #[.agg #[.slice a x.1.length ca, .int .i64 x.2.1]] w fun e w' => e = .returned (.bool (decide (x.2.1 < (x.1.length : Int)))) ∧ Below w.heap.size w w' := by
 have d : x.1.length ≤ 9223372036854775807 := hl;have c : Hid _ := zAf w (.cells #[.slice a x.1.length ca, .int .i64 x.2.1] 206);clear hl;by_cases b : x.2.1 < (x.1.length : Int)
 ·go_enter Tryz.func223, Tryz.ntmps223;go_wp2;go_ret
  exact ⟨by simp [b], c.out⟩
 ·go_enter Tryz.func223, Tryz.ntmps223;go_wp2;go_ret
  exact ⟨by simp [b], c.out⟩
theorem done_any (x : zFt) (a : Option Addr) (ca : Nat) (w : World) (h0 : 0 ≤ x.2.1) (h1 : x.2.1 ≤ (x.1.length : Int)) (h2 : x.1.length ≤ ca) (h3 : ca ≤ maxLen) :
    Calls Tryz.prog 181 #[.agg #[.slice a x.1.length ca, .int .i64 x.2.1]] w fun e w' => e = .returned (.slice a x.2.1.toNat ca) ∧ Below w.heap.size w w' := by
 have g : ca ≤ 9223372036854775807 := h3;have f : Hid _ := fun (W : World) (hb : Below w.heap.size w (w.alloc W)) := fun W => zAf w W;obtain ⟨n, b⟩ : ∃ n : Nat, x.2.1 = n := ⟨x.2.1.toNat, by omega⟩;rw [b] at h1 ⊢;have c : n ≤ x.1.length := by omega
 have d : n ≤ ca := by omega
 have i : (n : Int) ≤ (ca : Int) := by omega
 clear h0 h3 b;go_enter Tryz.func181, Tryz.ntmps181;go_wp2;go_ret
 exact ⟨by simp, f.out _⟩
theorem zKQ (x : zFt) (a b : Option Addr) (ca cb : Nat) (w : World) (hl : x.1.length ≤ maxLen) :
    Calls Tryz.prog 179 #[.agg #[.slice a x.1.length ca, .int .i64 x.2.1, .bool x.2.2.1, .slice b x.2.2.2.length cb]] w fun e w' => e = .returned (.bool (zGQ x)) ∧ Below w.heap.size w w' := by
 have j : Hid (∀ W, Calls Tryz.prog 177 #[.agg #[.slice a x.1.length ca, .int .i64 x.2.1, .bool x.2.2.1, .slice b x.2.2.2.length cb]] W fun e w' => e = .returned (.agg #[.slice a x.1.length ca, .int .i64 x.2.1]) ∧ Below W.heap.size W w') := fun W => zJK x a b ca cb W;have p : Hid (∀ W, Calls Tryz.prog 223 #[.agg #[.slice a x.1.length ca, .int .i64 x.2.1]] W fun e w' => e = .returned (.bool (decide (x.2.1 < (x.1.length : Int)))) ∧ Below W.heap.size W w') := fun W => zKP x a ca W hl;unfold zGQ;generalize decide (x.2.1 < (x.1.length : Int)) = q2 at p ⊢;clear hl;cases r : x.2.2.1
 ·skip
  rw [r] at j;have B := Below.refl w.heap.size w;go_enter Tryz.func179, Tryz.ntmps179;go_upto_region 1 with fail
  generalize c : w.alloc _ = u1w;have D := boxH c;have g := boxB c;have f := boxL c;clear c;replace B := zAa B g;clear g;have m := Nat.le_of_eq f;have k := Nat.le_of_eq f.symm;clear f;obtain ⟨Dc0, Dc1, Dc2, Dc3⟩ := zA5 D;have Dlt := (ltH D);have n : Hid _ := B;clear B D;go_wp2;go_ret
  exact ⟨by simp, n.out⟩
 ·skip
  rw [r] at j;have B := Below.refl w.heap.size w;go_enter Tryz.func179, Tryz.ntmps179;go_upto_region 1 with fail
  generalize c : w.alloc _ = u1w;have D := boxH c;have g := boxB c;have f := boxL c;clear c;replace B := zAa B g;clear g;have m := Nat.le_of_eq f;have k := Nat.le_of_eq f.symm;clear f;obtain ⟨Dc0, Dc1, Dc2, Dc3⟩ := zA5 D;have Dlt := (ltH D);go_wp2_with fail
  clear Dc0 Dc1 Dc2 Dc3 Dlt;refine (j.out _).mono ?_;rintro e i ⟨rfl, d⟩;have o : u1w.heap.size ≤ i.heap.size := d.size;replace B := zAa B d;replace D := zAb d D;clear d;obtain ⟨Dc0, Dc1, Dc2, Dc3⟩ := zA5 D;have Dlt := (ltH D);go_wp2_with fail
  clear Dc0 Dc1 Dc2 Dc3 Dlt;refine (p.out _).mono ?_;rintro e l ⟨rfl, d⟩;have q : i.heap.size ≤ l.heap.size := d.size;replace B := zAa B d;replace D := zAb d D;clear d;obtain ⟨Dc0, Dc1, Dc2, Dc3⟩ := zA5 D;have Dlt := (ltH D);have n : Hid _ := B;clear B D;go_wp2;go_ret
  exact ⟨by simp, n.out⟩
theorem zMQ (u : zBU) (ua : Option Addr) (uc : Nat) (ws : List Int) (wa : Option Addr) (wc : Nat) (w : World) (h : zA4 zAG w wa ws) (hl : ws.length ≤ maxLen) :
    Calls Tryz.prog 182 #[.agg #[.bool u.1, .int .i64 u.2.1, .int .i64 u.2.2.1, .slice ua u.2.2.2.length uc], .slice wa ws.length wc] w fun e w' => e = .returned (.bool (zDU u ws)) ∧ Below w.heap.size w w' := by
 have n : Hid (∀ W, Below w.heap.size w W) => zBK wa ws wc W (zBv (zAm h hb));have p : ws.length ≤ 9223372036854775807 := hl;unfold zDU;clear h hl;cases hw : u.1
 ·skip
  have B := Below.refl w.heap.size w;go_enter Tryz.func182, Tryz.ntmps182;go_upto_region 1 with fail
  generalize a : w.alloc _ = u1w;have D := boxH a;have c := boxB a;have b := boxL a;clear a;replace B := zAa B c;clear c;have g := Nat.le_of_eq b;have f := Nat.le_of_eq b.symm;clear b;obtain ⟨Dc0, Dc1, Dc2, Dc3⟩ := zA5 D;have Dlt := (ltH D);go_wp2_with fail
  clear Dc0 Dc1 Dc2 Dc3 Dlt;refine (n.out _ B).mono ?_;rintro e k ⟨rfl, j⟩;have m : u1w.heap.size ≤ k.heap.size := j.size;replace B := zAa B j;replace D := zAb j D;clear j;obtain ⟨Dc0, Dc1, Dc2, Dc3⟩ := zA5 D;have Dlt := (ltH D);have i : Hid _ := B;clear B D;go_wp2;go_ret
  exact ⟨by simp, i.out⟩
 ·by_cases d : ws.length = 0
  ·have o : ((ws.length : Int) == 0) = true := by simp [d]
   have l : Hid (ws = []) := List.length_eq_zero_iff.1 d;clear d;have B := Below.refl w.heap.size w;go_enter Tryz.func182, Tryz.ntmps182;go_upto_region 1 with fail
   generalize a : w.alloc _ = u1w;have D := boxH a;have c := boxB a;have b := boxL a;clear a;replace B := zAa B c;clear c;have g := Nat.le_of_eq b;have f := Nat.le_of_eq b.symm;clear b;obtain ⟨Dc0, Dc1, Dc2, Dc3⟩ := zA5 D;have Dlt := (ltH D);have i : Hid _ := B;clear B D;go_wp2;go_ret
   exact ⟨by simp [l.out], i.out⟩
  ·have o : ((ws.length : Int) == 0) = false := by simp [d]
   have l : Hid (¬ ws = []) := fun q => d (List.length_eq_zero_iff.2 q);clear d;have B := Below.refl w.heap.size w;go_enter Tryz.func182, Tryz.ntmps182;go_upto_region 1 with fail
   generalize a : w.alloc _ = u1w;have D := boxH a;have c := boxB a;have b := boxL a;clear a;replace B := zAa B c;clear c;have g := Nat.le_of_eq b;have f := Nat.le_of_eq b.symm;clear b;obtain ⟨Dc0, Dc1, Dc2, Dc3⟩ := zA5 D;have Dlt := (ltH D);have i : Hid _ := B;clear B D;go_wp2;go_ret
   exact ⟨by simp [l.out], i.out⟩
theorem eqFn_any (a b : Option Addr) (xs : List zBU) (ys : List (List Int)) (ca cb : Nat) (w : World) (h1 : zA4 zAR w a xs) (h2 : zA4 zA0 w b ys) (m1 : xs.length ≤ maxLen) (m2 : ys.length ≤ maxLen) :
    Calls Tryz.prog 180 #[.slice a xs.length ca, .slice b ys.length cb, .func (.func 182) #[] #[]] w fun e w' => e = .returned (.bool (zFg xs ys)) ∧ Below w.heap.size w w' := by
 have cA : xs.length ≤ 9223372036854775807 := m1;have H : ys.length ≤ 9223372036854775807 := m2;by_cases y : xs.length = ys.length
 ·have E : Hid (xs.length = ys.length) := y;have Y : ((xs.length : Int) != (xs.length : Int)) = false := by simp
  have S : Hid (∀ W, Below w.heap.size w W → zA4 zAR W a xs) := fun W f => zAm h1 f;have Z : Hid (∀ W, Below w.heap.size w W → zA4 zA0 W b ys) := fun W f => zAm h2 f;rw [← y];clear h1 h2 m1 m2 y H;go_enter Tryz.func180, Tryz.ntmps180;go_wp2;go_loopw [17] (fun i wr => ∃ k : Nat, k ≤ xs.length ∧ i = .int .i64 k ∧ (∀ j u v, j < k → xs[j]? = some u → ys[j]? = some v → zDU u v = true) ∧ Below w.heap.size w wr) (fun i _ => xs.length - (intOf i).toNat)
  case atStart => exact ⟨0, Nat.zero_le _, rfl, fun j u v hj => by omega, Below.refl _ _⟩
  case round =>
   obtain ⟨k, hk, rfl, s, g⟩ := hrel;by_cases C : k < xs.length
   ·have J : (k : Int) < (xs.length : Int) := by omega
    obtain ⟨u, D⟩ : ∃ x, xs[k]? = some x := ⟨_, List.getElem?_eq_getElem C⟩;obtain ⟨v, r⟩ : ∃ v, ys[k]? = some v := ⟨_, List.getElem?_eq_getElem (by have := E.out; omega)⟩;obtain ⟨X, fA, cs, rfl, l, c⟩ := zAy (S.out _ g) D;obtain ⟨N, I, rfl, -⟩ := zFF l;obtain ⟨V, q, ds, rfl, n, d⟩ := zAy (Z.out _ g) r;obtain ⟨wa, wc, rfl, U, n2, M⟩ := n;obtain ⟨G, L, R, O⟩ := cellsAt4 c rfl;have z := d 0 _ rfl;rw [show q + (k * zA0.size + 0) = q + k from by rw [show zA0.size = 1 from rfl]; omega] at z;have B : Hid _ := fun (W : World) (f : Below wr.heap.size wr W) => zMQ u N I v wa wc W (zAm M f) (Nat.le_trans U n2);have A : Hid (xs[k]? = some u ∧ ys[k]? = some v) := ⟨D, r⟩;have bA : V < wr.heap.size := zAk z;have gA : X < wr.heap.size := zAk G;have T : k < ys.length := by have := E.out; omega
    have K : (k : Int) < (ys.length : Int) := by omega
    clear D r c d l M;have m := zAf wr (.cells #[.bool u.1, .int .i64 u.2.1, .int .i64 u.2.2.1, .slice N u.2.2.2.length I] 165);cases f : zDU u v
    ·have p : Hid (zFg xs ys = false) := zLG A.out.1 A.out.2 f;rw [f] at B;go_wp2_with fail
     refine (B.out _ m).mono ?_;rintro e w2 ⟨rfl, o⟩;replace g := zAa (zAa g m) o;clear o m G L R O z;go_wp2;go_ret
     exact ⟨zAl p.out.symm, g⟩
    ·rw [f] at B;go_wp2_with fail
     refine (B.out _ m).mono ?_;rintro e w2 ⟨rfl, o⟩;replace g := zAa (zAa g m) o;clear o m G L R O z;go_wp2;go_roundw
     case rel =>
      refine ⟨k + 1, by omega, by go_num, fun j u' v' hj hu' hv' => ?_, g⟩;by_cases F : j < k
      ·exact s j u' v' F hu' hv'
      ·have : j = k := by omega
       subst this;rw [A.out.1] at hu';rw [A.out.2] at hv';cases hu'
       cases hv'
       exact f
     case measure => simp [intOf]; omega
   ·have p : Hid (zFg xs ys = true) := zJI E.out fun j u v hu r => s j u v (by have := (List.getElem?_eq_some_iff.1 hu).1; omega) hu r;go_wp2;go_ret
    exact ⟨zAl p.out.symm, g⟩
 ·have Y : ((xs.length : Int) != (ys.length : Int)) = true := by simp; omega
  have p : Hid (zFg xs ys = false) := by unfold Hid zFg; rw [decide_eq_false y, Bool.false_and]
  clear h1 h2 m1 m2 y;go_enter Tryz.func180, Tryz.ntmps180;go_wp2;go_ret
  exact ⟨zAl p.out.symm, Below.refl _ _⟩
end Go.Proofs.YtcocbafhcpdheaaGreatDoor
