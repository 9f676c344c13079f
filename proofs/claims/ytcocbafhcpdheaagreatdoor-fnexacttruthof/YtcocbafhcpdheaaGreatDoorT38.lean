import Derived.Test.YtcocbafhcpdheaaGreatDoorT00Box
import Derived.Test.YtcocbafhcpdheaaGreatDoorT37
namespace Go.Proofs.YtcocbafhcpdheaaGreatDoor
set_option maxHeartbeats 2000000
set_option maxRecDepth 20000
open Go.ChangeShapes Go.WideShapes Go.ChangeAt Go.RowKit
set_option linter.unusedVariables false
def zDU (u : zBU) (ws : List Int) : Bool := if u.1 then decide (ws.length = 0) else isL ws
def zFg (xs : List zBU) (ys : List (List Int)) : Bool := decide (xs.length = ys.length) && (xs.zip ys).all fun z => zDU z.1 z.2
def zFT (xs : List zBU) : Bool := decide (xs.length ≤ 30) && xs.all zBn
def zCV (x : zFt) : Bool := zA8 x.2.1 0 x.1.length
def zGQ (x : zFt) : Bool := !x.2.2.1 || decide (x.2.1 < (x.1.length : Int))
def zMP (x : zFt) : Bool := zFT x.1 && (zCV x && (zGQ x && zFg (x.1.take x.2.1.toNat) x.2.2.2))
theorem zLG {xs : List zBU} {ys : List (List Int)} {k : Nat} {u : zBU} {v : List Int} (hu : xs[k]? = some u) (hv : ys[k]? = some v) (h : zDU u v = false) : zFg xs ys = false := by
 have hm : (u, v) ∈ xs.zip ys := List.mem_of_getElem? (by rw [List.getElem?_zip_eq_some]; exact ⟨hu, hv⟩);have : (xs.zip ys).all (fun z => zDU z.1 z.2) = false := by
  cases q : (xs.zip ys).all (fun z => zDU z.1 z.2)
  ·rfl
  ·have := List.all_eq_true.1 q _ hm;simp only at this
   rw [h] at this;cases this
 unfold zFg;rw [this, Bool.and_false]
theorem zJI {xs : List zBU} {ys : List (List Int)} (hl : xs.length = ys.length) (h : ∀ (k : Nat) u v, xs[k]? = some u → ys[k]? = some v → zDU u v = true) : zFg xs ys = true := by
 unfold zFg;rw [decide_eq_true hl, Bool.true_and, List.all_eq_true];rintro ⟨u, v⟩ hm;obtain ⟨k, hk⟩ := List.getElem?_of_mem hm;rw [List.getElem?_zip_eq_some] at hk;exact h k u v hk.1 hk.2
theorem zFF {w : World} {cs : List Value} {u : zBU} (h : zAR.rd w cs u) : ∃ (ua : Option Addr) (uc : Nat), cs = [.bool u.1, .int .i64 u.2.1, .int .i64 u.2.2.1, .slice ua u.2.2.2.length uc] ∧ zA4 zAG w ua u.2.2.2 := by
 obtain ⟨a, c, rfl, -, -, -, -, q⟩ := zEn h;exact ⟨a, c, rfl, q⟩
theorem zJJ (u : zBU) (ua : Option Addr) (uc : Nat) (w : World) (h : zA4 zAG w ua u.2.2.2) :
    Calls Tryz.prog 221 #[.agg #[.bool u.1, .int .i64 u.2.1, .int .i64 u.2.2.1, .slice ua u.2.2.2.length uc]] w fun e w' => e = .returned (.bool (!zBn u)) ∧ Below w.heap.size w w' := by
 have B := zAf w (.cells #[.bool u.1, .int .i64 u.2.1, .int .i64 u.2.2.1, .slice ua u.2.2.2.length uc] 165);have HM : Hid (∀ W, Below w.heap.size w W → Calls Tryz.prog 222 #[.agg #[.bool u.1, .int .i64 u.2.1, .int .i64 u.2.2.1, .slice ua u.2.2.2.length uc]] W fun e w' => e = .returned (.bool (zBn u)) ∧ Below W.heap.size W w') := fun W hb => zEK u.1 u.2.1 u.2.2.1 u.2.2.2 ua uc W (zAm h hb);generalize zBn u = q at HM ⊢;clear h;go_enter Tryz.func221, Tryz.ntmps221;go_wp2_with fail
 generalize w.alloc (.cells #[.bool u.1, .int .i64 u.2.1, .int .i64 u.2.2.1, .slice ua u.2.2.2.length uc] 165) = W0 at B ⊢;refine (HM.out _ B).mono ?_;rintro e w1 ⟨rfl, b1⟩;go_wp2;go_ret
 exact ⟨rfl, zAa B b1⟩
theorem idxBadD (a : Option Addr) (xs : List zBU) (cap : Nat) (w : World) (h : zA4 zAR w a xs) (hm : xs.length ≤ maxLen) :
    Calls Tryz.prog 255 #[.slice a xs.length cap, .func (.func 221) #[] #[]] w fun e w' => e = .returned (.int .i64 (zDW zBn xs)) ∧ Below w.heap.size w w' := by
 have hm' : xs.length ≤ 9223372036854775807 := hm;have H0 : Hid (∀ W, Below w.heap.size w W → zA4 zAR W a xs) := fun W hb => zAq h fun k hk => hb.block k hk;clear h hm;go_enter Tryz.func255, Tryz.ntmps255;go_wp2;go_loopw [8] (fun i wr => ∃ k : Nat, k ≤ xs.length ∧ i = .int .i64 k ∧ (∀ j v, j < k → xs[j]? = some v → zBn v = true) ∧ Below w.heap.size w wr) (fun i _ => xs.length - (intOf i).toNat)
 case atStart => exact ⟨0, Nat.zero_le _, rfl, fun j v hj => by omega, Below.refl _ _⟩
 case round =>
  obtain ⟨k, hk, rfl, hno, BB⟩ := hrel;by_cases hlt : k < xs.length
  ·have hlt' : (k : Int) < (xs.length : Int) := by omega
   obtain ⟨u, hx⟩ : ∃ x, xs[k]? = some x := ⟨_, List.getElem?_eq_getElem hlt⟩;obtain ⟨bb, off, cs, rfl, hrdx, hcell⟩ := zAy (H0.out _ BB) hx;obtain ⟨ua, uc, rfl, hd⟩ := zFF hrdx;have HC := zJJ u ua uc wr hd;obtain ⟨x0, x1, x2, x3⟩ := cellsAt4 hcell rfl;have HX : Hid (xs[k]? = some u) := hx;clear hx hcell hrdx hd;cases hb : zBn u
   ·have HR : Hid (zDW zBn xs = k) := zEu HX.out hb hno;rw [hb] at HC;go_wp2_with fail
    refine HC.mono ?_;rintro e w2 ⟨rfl, b2⟩;replace BB := zAa BB b2;clear b2 x0 x1 x2 x3;go_wp2;go_ret
    exact ⟨zAx HR.out.symm, BB⟩
   ·rw [hb] at HC;go_wp2_with fail
    refine HC.mono ?_;rintro e w2 ⟨rfl, b2⟩;replace BB := zAa BB b2;clear b2 x0 x1 x2 x3;go_wp2;go_roundw
    case rel =>
     refine ⟨k + 1, by omega, by go_num, fun j v hj hv => ?_, BB⟩;by_cases he : j < k
     ·exact hno j v he hv
     ·have : j = k := by omega
      subst this;rw [HX.out] at hv;cases hv;exact hb
    case measure => simp [intOf]; omega
  ·have HR : Hid (zDW zBn xs = -1) := zDT fun j v hv => hno j v (by have := (List.getElem?_eq_some_iff.1 hv).1; omega) hv;go_wp2;go_ret
   exact ⟨zAx HR.out.symm, BB⟩
theorem conBadD (a : Option Addr) (xs : List zBU) (cap : Nat) (w : World) (h : zA4 zAR w a xs) (hm : xs.length ≤ maxLen) :
    Calls Tryz.prog 220 #[.slice a xs.length cap, .func (.func 221) #[] #[]] w fun e w' => e = .returned (.bool (!xs.all zBn)) ∧ Below w.heap.size w w' := by
 have HI := idxBadD a xs cap w h hm;have hab := zD8 zBn xs;clear h hm;generalize zDW zBn xs = q at HI hab;generalize xs.all zBn = y at hab ⊢;subst hab;by_cases hq : q < 0
 ·have hq2 : ¬ (0 ≤ q) := by omega
  go_enter Tryz.func220, Tryz.ntmps220;go_wp2_with fail
  refine HI.mono ?_;rintro e w1 ⟨rfl, b1⟩;go_wp2;go_ret
  exact ⟨by simp [hq], b1⟩
 ·have hq2 : 0 ≤ q := by omega
  go_enter Tryz.func220, Tryz.ntmps220;go_wp2_with fail
  refine HI.mono ?_;rintro e w1 ⟨rfl, b1⟩;go_wp2;go_ret
  exact ⟨by simp [hq], b1⟩
theorem zGR (a : Option Addr) (xs : List zBU) (cap : Nat) (w : World) (h : zA4 zAR w a xs) (hm : xs.length ≤ maxLen) :
    Calls Tryz.prog 176 #[.slice a xs.length cap] w fun e w' => e = .returned (.bool (zFT xs)) ∧ Below w.heap.size w w' := by
 have HC := conBadD a xs cap w h hm;have hm' : xs.length ≤ 9223372036854775807 := hm;unfold zFT;generalize xs.all zBn = y at HC ⊢;clear h hm;by_cases hl : xs.length ≤ 30
 ·have hl' : (xs.length : Int) ≤ 30 := by omega
  go_enter Tryz.func176, Tryz.ntmps176;go_wp2_with fail
  refine HC.mono ?_;rintro e w1 ⟨rfl, b1⟩;go_wp2;go_ret
  exact ⟨by simp [hl], b1⟩
 ·have hl' : ¬ ((xs.length : Int) ≤ 30) := by omega
  go_enter Tryz.func176, Tryz.ntmps176;go_wp2;go_ret
  exact ⟨by simp, Below.refl _ _⟩
theorem zJK (x : zFt) (a b : Option Addr) (ca cb : Nat) (w : World) :
    Calls Tryz.prog 177 #[.agg #[.slice a x.1.length ca, .int .i64 x.2.1, .bool x.2.2.1, .slice b x.2.2.2.length cb]] w fun e w' => e = .returned (.agg #[.slice a x.1.length ca, .int .i64 x.2.1]) ∧ Below w.heap.size w w' := by
 have HB : Hid (∀ o o', Below w.heap.size w ((w.alloc o).alloc o')) := fun o o' => zAa (zAf w o) (zAf _ o');go_enter Tryz.func177, Tryz.ntmps177;go_wp2;refine bodyPost_ret (v := .agg #[.slice a x.1.length ca, .int .i64 x.2.1]) (by simp [results, Tryz.results177, go_sem]) rfl ⟨rfl, ?_⟩;exact HB.out _ _
theorem zOK (x : zFt) (a : Option Addr) (ca : Nat) (w : World) (hl : x.1.length ≤ maxLen) :
    Calls Tryz.prog 178 #[.agg #[.slice a x.1.length ca, .int .i64 x.2.1]] w fun e w' => e = .returned (.bool (zCV x)) ∧ Below w.heap.size w w' := by
 have hl' : x.1.length ≤ 9223372036854775807 := hl;have B := zAf w (.cells #[.slice a x.1.length ca, .int .i64 x.2.1] 206);have HBT : Hid (∀ W, Calls Tryz.prog 76 #[.int .i64 x.2.1, .int .i64 0, .int .i64 (x.1.length : Int)] W fun e w' => e = .returned (.bool (zCV x)) ∧ Below W.heap.size W w') := fun W => (zAw x.2.1 0 x.1.length W).mono fun e w' ⟨q, r⟩ => ⟨q, zEO r⟩;generalize zCV x = q at HBT ⊢;clear hl;go_enter Tryz.func178, Tryz.ntmps178;go_wp2_with fail
 generalize w.alloc (.cells #[.slice a x.1.length ca, .int .i64 x.2.1] 206) = W0 at B ⊢;refine (HBT.out _).mono ?_;rintro e w1 ⟨rfl, b1⟩;replace B := zAa B b1;clear b1;go_wp2;go_ret
 exact ⟨rfl, B⟩
theorem zKP (x : zFt) (a : Option Addr) (ca : Nat) (w : World) (hl : x.1.length ≤ maxLen) :
    Calls Tryz.prog 223 #[.agg #[.slice a x.1.length ca, .int .i64 x.2.1]] w fun e w' => e = .returned (.bool (decide (x.2.1 < (x.1.length : Int)))) ∧ Below w.heap.size w w' := by
 have hl' : x.1.length ≤ 9223372036854775807 := hl;have HB : Hid _ := zAf w (.cells #[.slice a x.1.length ca, .int .i64 x.2.1] 206);clear hl;by_cases hz : x.2.1 < (x.1.length : Int)
 ·go_enter Tryz.func223, Tryz.ntmps223;go_wp2;go_ret
  exact ⟨by simp [hz], HB.out⟩
 ·go_enter Tryz.func223, Tryz.ntmps223;go_wp2;go_ret
  exact ⟨by simp [hz], HB.out⟩
theorem done_any (x : zFt) (a : Option Addr) (ca : Nat) (w : World) (h0 : 0 ≤ x.2.1) (h1 : x.2.1 ≤ (x.1.length : Int)) (h2 : x.1.length ≤ ca) (h3 : ca ≤ maxLen) :
    Calls Tryz.prog 181 #[.agg #[.slice a x.1.length ca, .int .i64 x.2.1]] w fun e w' => e = .returned (.slice a x.2.1.toNat ca) ∧ Below w.heap.size w w' := by
 have hl' : ca ≤ 9223372036854775807 := h3;have HB : Hid (∀ o, Below w.heap.size w (w.alloc o)) := fun o => zAf w o;obtain ⟨n, hn⟩ : ∃ n : Nat, x.2.1 = n := ⟨x.2.1.toNat, by omega⟩;rw [hn] at h1 ⊢;have h1n : n ≤ x.1.length := by omega
 have h1c : n ≤ ca := by omega
 have h1d : (n : Int) ≤ (ca : Int) := by omega
 clear h0 h3 hn;go_enter Tryz.func181, Tryz.ntmps181;go_wp2;go_ret
 exact ⟨by simp, HB.out _⟩
theorem zKQ (x : zFt) (a b : Option Addr) (ca cb : Nat) (w : World) (hl : x.1.length ≤ maxLen) :
    Calls Tryz.prog 179 #[.agg #[.slice a x.1.length ca, .int .i64 x.2.1, .bool x.2.2.1, .slice b x.2.2.2.length cb]] w fun e w' => e = .returned (.bool (zGQ x)) ∧ Below w.heap.size w w' := by
 have H1 : Hid (∀ W, Calls Tryz.prog 177 #[.agg #[.slice a x.1.length ca, .int .i64 x.2.1, .bool x.2.2.1, .slice b x.2.2.2.length cb]] W fun e w' => e = .returned (.agg #[.slice a x.1.length ca, .int .i64 x.2.1]) ∧ Below W.heap.size W w') := fun W => zJK x a b ca cb W;have H2 : Hid (∀ W, Calls Tryz.prog 223 #[.agg #[.slice a x.1.length ca, .int .i64 x.2.1]] W fun e w' => e = .returned (.bool (decide (x.2.1 < (x.1.length : Int)))) ∧ Below W.heap.size W w') := fun W => zKP x a ca W hl;unfold zGQ;generalize decide (x.2.1 < (x.1.length : Int)) = q2 at H2 ⊢;clear hl;cases hw : x.2.2.1
 ·skip
  rw [hw] at H1;have B := Below.refl w.heap.size w;go_enter Tryz.func179, Tryz.ntmps179;go_upto_region 1 with fail
  generalize hu1w : w.alloc _ = u1w;have D := boxH hu1w;have bz := boxB hu1w;have zD := boxL hu1w;clear hu1w;replace B := zAa B bz;clear bz;have zDa := Nat.le_of_eq zD;have zDb := Nat.le_of_eq zD.symm;clear zD;obtain ⟨Dc0, Dc1, Dc2, Dc3⟩ := zA5 D;have Dlt := (ltH D);have HB : Hid _ := B;clear B D;go_wp2;go_ret
  exact ⟨by simp, HB.out⟩
 ·skip
  rw [hw] at H1;have B := Below.refl w.heap.size w;go_enter Tryz.func179, Tryz.ntmps179;go_upto_region 1 with fail
  generalize hu1w : w.alloc _ = u1w;have D := boxH hu1w;have bz := boxB hu1w;have zD := boxL hu1w;clear hu1w;replace B := zAa B bz;clear bz;have zDa := Nat.le_of_eq zD;have zDb := Nat.le_of_eq zD.symm;clear zD;obtain ⟨Dc0, Dc1, Dc2, Dc3⟩ := zA5 D;have Dlt := (ltH D);go_wp2_with fail
  clear Dc0 Dc1 Dc2 Dc3 Dlt;refine (H1.out _).mono ?_;rintro e u2w ⟨rfl, bq⟩;have tu2w : u1w.heap.size ≤ u2w.heap.size := bq.size;replace B := zAa B bq;replace D := zAb bq D;clear bq;obtain ⟨Dc0, Dc1, Dc2, Dc3⟩ := zA5 D;have Dlt := (ltH D);go_wp2_with fail
  clear Dc0 Dc1 Dc2 Dc3 Dlt;refine (H2.out _).mono ?_;rintro e u3w ⟨rfl, bq⟩;have tu3w : u2w.heap.size ≤ u3w.heap.size := bq.size;replace B := zAa B bq;replace D := zAb bq D;clear bq;obtain ⟨Dc0, Dc1, Dc2, Dc3⟩ := zA5 D;have Dlt := (ltH D);have HB : Hid _ := B;clear B D;go_wp2;go_ret
  exact ⟨by simp, HB.out⟩
theorem zMQ (u : zBU) (ua : Option Addr) (uc : Nat) (ws : List Int) (wa : Option Addr) (wc : Nat) (w : World) (h : zA4 zAG w wa ws) (hl : ws.length ≤ maxLen) :
    Calls Tryz.prog 182 #[.agg #[.bool u.1, .int .i64 u.2.1, .int .i64 u.2.2.1, .slice ua u.2.2.2.length uc], .slice wa ws.length wc] w fun e w' => e = .returned (.bool (zDU u ws)) ∧ Below w.heap.size w w' := by
 have H1 : Hid (∀ W, Below w.heap.size w W → Calls Tryz.prog 224 #[.slice wa ws.length wc] W fun e w' => e = .returned (.bool (isL ws)) ∧ Below W.heap.size W w') := fun W hb => zBK wa ws wc W (zBv (zAm h hb));have hl2 : ws.length ≤ 9223372036854775807 := hl;unfold zDU;clear h hl;cases hw : u.1
 ·skip
  have B := Below.refl w.heap.size w;go_enter Tryz.func182, Tryz.ntmps182;go_upto_region 1 with fail
  generalize hu1w : w.alloc _ = u1w;have D := boxH hu1w;have bz := boxB hu1w;have zD := boxL hu1w;clear hu1w;replace B := zAa B bz;clear bz;have zDa := Nat.le_of_eq zD;have zDb := Nat.le_of_eq zD.symm;clear zD;obtain ⟨Dc0, Dc1, Dc2, Dc3⟩ := zA5 D;have Dlt := (ltH D);go_wp2_with fail
  clear Dc0 Dc1 Dc2 Dc3 Dlt;refine (H1.out _ B).mono ?_;rintro e u2w ⟨rfl, bq⟩;have tu2w : u1w.heap.size ≤ u2w.heap.size := bq.size;replace B := zAa B bq;replace D := zAb bq D;clear bq;obtain ⟨Dc0, Dc1, Dc2, Dc3⟩ := zA5 D;have Dlt := (ltH D);have HB : Hid _ := B;clear B D;go_wp2;go_ret
  exact ⟨by simp, HB.out⟩
 ·by_cases hz : ws.length = 0
  ·have zt : ((ws.length : Int) == 0) = true := by simp [hz]
   have HZ : Hid (ws = []) := List.length_eq_zero_iff.1 hz;clear hz;have B := Below.refl w.heap.size w;go_enter Tryz.func182, Tryz.ntmps182;go_upto_region 1 with fail
   generalize hu1w : w.alloc _ = u1w;have D := boxH hu1w;have bz := boxB hu1w;have zD := boxL hu1w;clear hu1w;replace B := zAa B bz;clear bz;have zDa := Nat.le_of_eq zD;have zDb := Nat.le_of_eq zD.symm;clear zD;obtain ⟨Dc0, Dc1, Dc2, Dc3⟩ := zA5 D;have Dlt := (ltH D);have HB : Hid _ := B;clear B D;go_wp2;go_ret
   exact ⟨by simp [HZ.out], HB.out⟩
  ·have zt : ((ws.length : Int) == 0) = false := by simp [hz]
   have HZ : Hid (¬ ws = []) := fun q => hz (List.length_eq_zero_iff.2 q);clear hz;have B := Below.refl w.heap.size w;go_enter Tryz.func182, Tryz.ntmps182;go_upto_region 1 with fail
   generalize hu1w : w.alloc _ = u1w;have D := boxH hu1w;have bz := boxB hu1w;have zD := boxL hu1w;clear hu1w;replace B := zAa B bz;clear bz;have zDa := Nat.le_of_eq zD;have zDb := Nat.le_of_eq zD.symm;clear zD;obtain ⟨Dc0, Dc1, Dc2, Dc3⟩ := zA5 D;have Dlt := (ltH D);have HB : Hid _ := B;clear B D;go_wp2;go_ret
   exact ⟨by simp [HZ.out], HB.out⟩
theorem eqFn_any (a b : Option Addr) (xs : List zBU) (ys : List (List Int)) (ca cb : Nat) (w : World) (h1 : zA4 zAR w a xs) (h2 : zA4 zA0 w b ys) (m1 : xs.length ≤ maxLen) (m2 : ys.length ≤ maxLen) :
    Calls Tryz.prog 180 #[.slice a xs.length ca, .slice b ys.length cb, .func (.func 182) #[] #[]] w fun e w' => e = .returned (.bool (zFg xs ys)) ∧ Below w.heap.size w w' := by
 have hm1 : xs.length ≤ 9223372036854775807 := m1;have hm2 : ys.length ≤ 9223372036854775807 := m2;by_cases he : xs.length = ys.length
 ·have HE : Hid (xs.length = ys.length) := he;have hz : ((xs.length : Int) != (xs.length : Int)) = false := by simp
  have H1 : Hid (∀ W, Below w.heap.size w W → zA4 zAR W a xs) := fun W hb => zAm h1 hb;have H2 : Hid (∀ W, Below w.heap.size w W → zA4 zA0 W b ys) := fun W hb => zAm h2 hb;rw [← he];clear h1 h2 m1 m2 he hm2;go_enter Tryz.func180, Tryz.ntmps180;go_wp2;go_loopw [17] (fun i wr => ∃ k : Nat, k ≤ xs.length ∧ i = .int .i64 k ∧ (∀ j u v, j < k → xs[j]? = some u → ys[j]? = some v → zDU u v = true) ∧ Below w.heap.size w wr) (fun i _ => xs.length - (intOf i).toNat)
  case atStart => exact ⟨0, Nat.zero_le _, rfl, fun j u v hj => by omega, Below.refl _ _⟩
  case round =>
   obtain ⟨k, hk, rfl, hno, BB⟩ := hrel;by_cases hlt : k < xs.length
   ·have hlt' : (k : Int) < (xs.length : Int) := by omega
    obtain ⟨u, hx⟩ : ∃ x, xs[k]? = some x := ⟨_, List.getElem?_eq_getElem hlt⟩;obtain ⟨v, hv⟩ : ∃ v, ys[k]? = some v := ⟨_, List.getElem?_eq_getElem (by have := HE.out; omega)⟩;obtain ⟨bb, off, cs, rfl, hrdx, hcell⟩ := zAy (H1.out _ BB) hx;obtain ⟨ua, uc, rfl, -⟩ := zFF hrdx;obtain ⟨bc, of2, ds, rfl, hrdv, hcel2⟩ := zAy (H2.out _ BB) hv;obtain ⟨wa, wc, rfl, n1, n2, hd⟩ := hrdv;obtain ⟨x0, x1, x2, x3⟩ := cellsAt4 hcell rfl;have y0 := hcel2 0 _ rfl;rw [show of2 + (k * zA0.size + 0) = of2 + k from by rw [show zA0.size = 1 from rfl]; omega] at y0;have HC : Hid (∀ W, Below wr.heap.size wr W → Calls Tryz.prog 182 #[.agg #[.bool u.1, .int .i64 u.2.1, .int .i64 u.2.2.1, .slice ua u.2.2.2.length uc], .slice wa v.length wc] W fun e w' => e = .returned (.bool (zDU u v)) ∧ Below W.heap.size W w') := fun W hb => zMQ u ua uc v wa wc W (zAm hd hb) (Nat.le_trans n1 n2);have HX : Hid (xs[k]? = some u ∧ ys[k]? = some v) := ⟨hx, hv⟩;have ylt : bc < wr.heap.size := zAk y0;have xlt : bb < wr.heap.size := zAk x0;have hly : k < ys.length := by have := HE.out; omega
    have hly2 : (k : Int) < (ys.length : Int) := by omega
    clear hx hv hcell hcel2 hrdx hd;have bz := zAf wr (.cells #[.bool u.1, .int .i64 u.2.1, .int .i64 u.2.2.1, .slice ua u.2.2.2.length uc] 165);cases hb : zDU u v
    ·have HR : Hid (zFg xs ys = false) := zLG HX.out.1 HX.out.2 hb;rw [hb] at HC;go_wp2_with fail
     refine (HC.out _ bz).mono ?_;rintro e w2 ⟨rfl, b2⟩;replace BB := zAa (zAa BB bz) b2;clear b2 bz x0 x1 x2 x3 y0;go_wp2;go_ret
     exact ⟨zAl HR.out.symm, BB⟩
    ·rw [hb] at HC;go_wp2_with fail
     refine (HC.out _ bz).mono ?_;rintro e w2 ⟨rfl, b2⟩;replace BB := zAa (zAa BB bz) b2;clear b2 bz x0 x1 x2 x3 y0;go_wp2;go_roundw
     case rel =>
      refine ⟨k + 1, by omega, by go_num, fun j u' v' hj hu' hv' => ?_, BB⟩;by_cases hjk : j < k
      ·exact hno j u' v' hjk hu' hv'
      ·have : j = k := by omega
       subst this;rw [HX.out.1] at hu';rw [HX.out.2] at hv';cases hu'
       cases hv'
       exact hb
     case measure => simp [intOf]; omega
   ·have HR : Hid (zFg xs ys = true) := zJI HE.out fun j u v hu hv => hno j u v (by have := (List.getElem?_eq_some_iff.1 hu).1; omega) hu hv;go_wp2;go_ret
    exact ⟨zAl HR.out.symm, BB⟩
 ·have hz : ((xs.length : Int) != (ys.length : Int)) = true := by simp; omega
  have HR : Hid (zFg xs ys = false) := by unfold Hid zFg; rw [decide_eq_false he, Bool.false_and]
  clear h1 h2 m1 m2 he;go_enter Tryz.func180, Tryz.ntmps180;go_wp2;go_ret
  exact ⟨zAl HR.out.symm, Below.refl _ _⟩
end Go.Proofs.YtcocbafhcpdheaaGreatDoor
