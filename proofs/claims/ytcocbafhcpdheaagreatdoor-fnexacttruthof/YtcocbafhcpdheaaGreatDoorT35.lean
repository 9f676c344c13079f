import Derived.Test.YtcocbafhcpdheaaGreatDoorT00Box
import Derived.Test.YtcocbafhcpdheaaGreatDoorT34
namespace Go.Proofs.YtcocbafhcpdheaaGreatDoor
set_option maxHeartbeats 2000000
set_option maxRecDepth 20000
open Go.ChangeShapes Go.WideShapes Go.ChangeAt Go.RowKit
set_option linter.unusedVariables false
theorem zDK {w : World} {cs : List Value} {x : zAW} (h : zBT.rd w cs x) : ∃ (ga : Option Addr) (gc : Nat), cs = [.int .i64 x.1, .int .i64 x.2.1, .bool x.2.2.1, .int .i64 x.2.2.2.1, .int .i64 x.2.2.2.2.1, .int .i64 x.2.2.2.2.2.1, .int .i64 x.2.2.2.2.2.2.1, .slice ga x.2.2.2.2.2.2.2.length gc] := by
 obtain ⟨a, c, rfl, -⟩ := zFM h;exact ⟨a, c, rfl⟩
theorem zOG {p : zBi → Bool} {g : Nat} (a : Option Addr) (xs : List zBi) (cap : Nat) (w : World) (h : zA4 zAB w a xs) (hm : xs.length ≤ maxLen) (HP : ∀ (x : zBi) (cs : List Value) (W : World), x ∈ xs → Below w.heap.size w W → zAB.rd W cs x → Calls Tryz.prog 171 #[zBq cs, .pointer (some ⟨g, 0, none⟩)] W fun e w' => e = .returned (.bool (!p x)) ∧ Below W.heap.size W w') :
    Calls Tryz.prog 212 #[.slice a xs.length cap, .func (.func 171) #[] #[.pointer (some ⟨g, 0, none⟩)]] w fun e w' => e = .returned (.int .i64 (zDW p xs)) ∧ Below w.heap.size w w' := by
 have hm' : xs.length ≤ 9223372036854775807 := hm;have H0 : Hid (∀ W, Below w.heap.size w W → zA4 zAB W a xs) := fun W hb => zAq h fun k hk => hb.block k hk;have HPP : Hid _ := HP;clear h hm HP;go_enter Tryz.func212, Tryz.ntmps212;go_wp2;go_loopw [8] (fun i wr => ∃ k : Nat, k ≤ xs.length ∧ i = .int .i64 k ∧ (∀ j v, j < k → xs[j]? = some v → p v = true) ∧ Below w.heap.size w wr) (fun i _ => xs.length - (intOf i).toNat)
 case atStart => exact ⟨0, Nat.zero_le _, rfl, fun j v hj => by omega, Below.refl _ _⟩
 case round =>
  obtain ⟨k, hk, rfl, hno, BB⟩ := hrel;by_cases hlt : k < xs.length
  ·have hlt' : (k : Int) < (xs.length : Int) := by omega
   obtain ⟨x, hx⟩ : ∃ x, xs[k]? = some x := ⟨_, List.getElem?_eq_getElem hlt⟩;obtain ⟨b, off, cs, rfl, hrdx, hcell⟩ := zAy (H0.out _ BB) hx;have HC := HPP.out x cs wr (List.mem_of_getElem? hx) BB hrdx;obtain ⟨ga, gc, gb, gd, ha, hc, ia, ic, ja, jc, rfl⟩ := zBd hrdx;rw [show zBq [.slice ga x.1.1.length gc, .slice gb x.1.2.length gd, .slice ha x.2.1.length hc, .int .i64 x.2.2.1, .int .i64 x.2.2.2.1, .int .i64 x.2.2.2.2.1.1, .int .i64 x.2.2.2.2.1.2.1, .slice ia x.2.2.2.2.1.2.2.length ic, .slice ja x.2.2.2.2.2.length jc] = .agg #[.slice ga x.1.1.length gc, .slice gb x.1.2.length gd, .slice ha x.2.1.length hc, .int .i64 x.2.2.1, .int .i64 x.2.2.2.1, .int .i64 x.2.2.2.2.1.1, .int .i64 x.2.2.2.2.1.2.1, .slice ia x.2.2.2.2.1.2.2.length ic, .slice ja x.2.2.2.2.2.length jc] from rfl] at HC;obtain ⟨x0, x1, x2, x3, x4, x5, x6, x7, x8⟩ := cellsAt9 hcell rfl;have HX : Hid (xs[k]? = some x) := hx;clear hx hcell hrdx;cases hb : p x
   ·have HR : Hid (zDW p xs = k) := zEu HX.out hb hno;rw [hb] at HC;go_wp2_with fail
    refine HC.mono ?_;rintro e w2 ⟨rfl, b2⟩;replace BB := zAa BB b2;clear b2 x0 x1 x2 x3 x4 x5 x6 x7 x8;go_wp2;go_ret
    exact ⟨zAx HR.out.symm, BB⟩
   ·rw [hb] at HC;go_wp2_with fail
    refine HC.mono ?_;rintro e w2 ⟨rfl, b2⟩;replace BB := zAa BB b2;clear b2 x0 x1 x2 x3 x4 x5 x6 x7 x8;go_wp2;go_roundw
    case rel =>
     refine ⟨k + 1, by omega, by go_num, fun j v hj hv => ?_, BB⟩;by_cases he : j < k
     ·exact hno j v he hv
     ·have : j = k := by omega
      subst this;rw [HX.out] at hv;cases hv;exact hb
    case measure => simp [intOf]; omega
  ·have HR : Hid (zDW p xs = -1) := zDT fun j v hv => hno j v (by have := (List.getElem?_eq_some_iff.1 hv).1; omega) hv;go_wp2;go_ret
   exact ⟨zAx HR.out.symm, BB⟩
theorem zOH {p : zBi → Bool} {g : Nat} (a : Option Addr) (xs : List zBi) (cap : Nat) (w : World) (h : zA4 zAB w a xs) (hm : xs.length ≤ maxLen) (HP : ∀ (x : zBi) (cs : List Value) (W : World), x ∈ xs → Below w.heap.size w W → zAB.rd W cs x → Calls Tryz.prog 171 #[zBq cs, .pointer (some ⟨g, 0, none⟩)] W fun e w' => e = .returned (.bool (!p x)) ∧ Below W.heap.size W w') :
    Calls Tryz.prog 170 #[.slice a xs.length cap, .func (.func 171) #[] #[.pointer (some ⟨g, 0, none⟩)]] w fun e w' => e = .returned (.bool (!xs.all p)) ∧ Below w.heap.size w w' := by
 have HI := zOG a xs cap w h hm HP;have hab := zD8 p xs;clear h hm HP;generalize zDW p xs = q at HI hab;generalize xs.all p = y at hab ⊢;subst hab;by_cases hq : q < 0
 ·have hq2 : ¬ (0 ≤ q) := by omega
  go_enter Tryz.func170, Tryz.ntmps170;go_wp2_with fail
  refine HI.mono ?_;rintro e w1 ⟨rfl, b1⟩;go_wp2;go_ret
  exact ⟨by simp [hq], b1⟩
 ·have hq2 : 0 ≤ q := by omega
  go_enter Tryz.func170, Tryz.ntmps170;go_wp2_with fail
  refine HI.mono ?_;rintro e w1 ⟨rfl, b1⟩;go_wp2;go_ret
  exact ⟨by simp [hq], b1⟩
theorem zKK {q : Bool} {g : Nat} {c0 c1 c2 c3 : Value} (x : zBi) (cs : List Value) (w : World) (h : zAB.rd w cs x) (hg : w.heap[g]? = some (.cells #[.func (.func 124) #[.agg #[c0, c1, c2, c3]] #[]] 142 (0, 0)))
    (HF : ∀ W, Below w.heap.size w W → Calls Tryz.prog 124 #[.agg #[c0, c1, c2, c3], zBq cs] W fun e w' => e = .returned (.bool q) ∧ Below W.heap.size W w') :
    Calls Tryz.prog 171 #[zBq cs, .pointer (some ⟨g, 0, none⟩)] w fun e w' => e = .returned (.bool (!q)) ∧ Below w.heap.size w w' := by
 obtain ⟨ga, gc, gb, gd, ha, hc, ia, ic, ja, jc, rfl⟩ := zBd h;rw [show zBq [.slice ga x.1.1.length gc, .slice gb x.1.2.length gd, .slice ha x.2.1.length hc, .int .i64 x.2.2.1, .int .i64 x.2.2.2.1, .int .i64 x.2.2.2.2.1.1, .int .i64 x.2.2.2.2.1.2.1, .slice ia x.2.2.2.2.1.2.2.length ic, .slice ja x.2.2.2.2.2.length jc] = .agg #[.slice ga x.1.1.length gc, .slice gb x.1.2.length gd, .slice ha x.2.1.length hc, .int .i64 x.2.2.1, .int .i64 x.2.2.2.1, .int .i64 x.2.2.2.2.1.1, .int .i64 x.2.2.2.2.1.2.1, .slice ia x.2.2.2.2.1.2.2.length ic, .slice ja x.2.2.2.2.2.length jc] from rfl] at HF ⊢;have B := zAf w (.cells #[.slice ga x.1.1.length gc, .slice gb x.1.2.length gd, .slice ha x.2.1.length hc, .int .i64 x.2.2.1, .int .i64 x.2.2.2.1, .int .i64 x.2.2.2.2.1.1, .int .i64 x.2.2.2.2.1.2.1, .slice ia x.2.2.2.2.1.2.2.length ic, .slice ja x.2.2.2.2.2.length jc] 95);have G := zAb B hg;have HFF : Hid _ := HF;clear h hg HF;go_enter Tryz.func171, Tryz.ntmps171;go_upto_region 1 with fail
 have X := zAn w (.cells #[.slice ga x.1.1.length gc, .slice gb x.1.2.length gd, .slice ha x.2.1.length hc, .int .i64 x.2.2.1, .int .i64 x.2.2.2.1, .int .i64 x.2.2.2.2.1.1, .int .i64 x.2.2.2.2.1.2.1, .slice ia x.2.2.2.2.1.2.2.length ic, .slice ja x.2.2.2.2.2.length jc] 95);generalize w.alloc (.cells #[.slice ga x.1.1.length gc, .slice gb x.1.2.length gd, .slice ha x.2.1.length hc, .int .i64 x.2.2.1, .int .i64 x.2.2.2.1, .int .i64 x.2.2.2.2.1.1, .int .i64 x.2.2.2.2.1.2.1, .slice ia x.2.2.2.2.1.2.2.length ic, .slice ja x.2.2.2.2.2.length jc] 95) = W0 at B G X ⊢;have g0 : W0.cell? ⟨g, 0, none⟩ = some (.func (.func 124) #[.agg #[c0, c1, c2, c3]] #[]) := by rw [cell_of_row W0 g 0 _ _ (0, 0) G]; rfl
 obtain ⟨y0, y1, y2, y3, y4, y5, y6, y7, y8⟩ := zAh X;clear G X;go_wp2_with fail
 refine (HFF.out _ B).mono ?_;rintro e w1 ⟨rfl, b1⟩;replace B := zAa B b1;clear g0 b1 y0 y1 y2 y3 y4 y5 y6 y7 y8;go_wp2;go_ret
 exact ⟨rfl, B⟩
theorem zMI {p : zBi → Bool} {c0 c1 c2 c3 : Value} (a : Option Addr) (xs : List zBi) (cap : Nat) (w : World) (h : zA4 zAB w a xs) (hm : xs.length ≤ maxLen)
    (HF : ∀ (x : zBi) (cs : List Value) (W : World), x ∈ xs → Below w.heap.size w W → zAB.rd W cs x → Calls Tryz.prog 124 #[.agg #[c0, c1, c2, c3], zBq cs] W fun e w' => e = .returned (.bool (p x)) ∧ Below W.heap.size W w') :
    Calls Tryz.prog 123 #[.slice a xs.length cap, .func (.func 124) #[.agg #[c0, c1, c2, c3]] #[]] w fun e w' => e = .returned (.bool (xs.all p)) ∧ Below w.heap.size w w' := by
 have B := zAf w (.cells #[.func (.func 124) #[.agg #[c0, c1, c2, c3]] #[]] 142);have G := zAn w (.cells #[.func (.func 124) #[.agg #[c0, c1, c2, c3]] #[]] 142);have HC := zOH (p := p) (g := w.heap.size) a xs cap (w.alloc (.cells #[.func (.func 124) #[.agg #[c0, c1, c2, c3]] #[]] 142)) (zAm h B) hm (fun x cs W hx hb hr => zKK x cs W hr (zAb hb G) (fun W2 hb2 => HF x cs W2 hx (zAa (zAa B hb) hb2) (zAr hr hb2)));clear h hm HF G;generalize xs.all p = y at HC ⊢;go_enter Tryz.func123, Tryz.ntmps123;go_wp2_with fail
 refine HC.mono ?_;rintro e w1 ⟨rfl, b1⟩;replace B := zAa B b1;clear b1;go_wp2;go_ret
 exact ⟨by simp, B⟩
theorem zMJ {p : zAW → Bool} {g : Nat} (a : Option Addr) (xs : List zAW) (cap : Nat) (w : World) (h : zA4 zBT w a xs) (hm : xs.length ≤ maxLen) (HP : ∀ (x : zAW) (cs : List Value) (W : World), x ∈ xs → Below w.heap.size w W → zBT.rd W cs x → Calls Tryz.prog 164 #[zBq cs, .pointer (some ⟨g, 0, none⟩)] W fun e w' => e = .returned (.bool (!p x)) ∧ Below W.heap.size W w') :
    Calls Tryz.prog 207 #[.slice a xs.length cap, .func (.func 164) #[] #[.pointer (some ⟨g, 0, none⟩)]] w fun e w' => e = .returned (.int .i64 (zDW p xs)) ∧ Below w.heap.size w w' := by
 have hm' : xs.length ≤ 9223372036854775807 := hm;have H0 : Hid (∀ W, Below w.heap.size w W → zA4 zBT W a xs) := fun W hb => zAq h fun k hk => hb.block k hk;have HPP : Hid _ := HP;clear h hm HP;go_enter Tryz.func207, Tryz.ntmps207;go_wp2;go_loopw [8] (fun i wr => ∃ k : Nat, k ≤ xs.length ∧ i = .int .i64 k ∧ (∀ j v, j < k → xs[j]? = some v → p v = true) ∧ Below w.heap.size w wr) (fun i _ => xs.length - (intOf i).toNat)
 case atStart => exact ⟨0, Nat.zero_le _, rfl, fun j v hj => by omega, Below.refl _ _⟩
 case round =>
  obtain ⟨k, hk, rfl, hno, BB⟩ := hrel;by_cases hlt : k < xs.length
  ·have hlt' : (k : Int) < (xs.length : Int) := by omega
   obtain ⟨x, hx⟩ : ∃ x, xs[k]? = some x := ⟨_, List.getElem?_eq_getElem hlt⟩;obtain ⟨b, off, cs, rfl, hrdx, hcell⟩ := zAy (H0.out _ BB) hx;have HC := HPP.out x cs wr (List.mem_of_getElem? hx) BB hrdx;obtain ⟨ga, gc, rfl⟩ := zDK hrdx;rw [show zBq [.int .i64 x.1, .int .i64 x.2.1, .bool x.2.2.1, .int .i64 x.2.2.2.1, .int .i64 x.2.2.2.2.1, .int .i64 x.2.2.2.2.2.1, .int .i64 x.2.2.2.2.2.2.1, .slice ga x.2.2.2.2.2.2.2.length gc] = .agg #[.int .i64 x.1, .int .i64 x.2.1, .bool x.2.2.1, .int .i64 x.2.2.2.1, .int .i64 x.2.2.2.2.1, .int .i64 x.2.2.2.2.2.1, .int .i64 x.2.2.2.2.2.2.1, .slice ga x.2.2.2.2.2.2.2.length gc] from rfl] at HC;obtain ⟨x0, x1, x2, x3, x4, x5, x6, x7⟩ := cellsAt8 hcell rfl;have HX : Hid (xs[k]? = some x) := hx;clear hx hcell hrdx;cases hb : p x
   ·have HR : Hid (zDW p xs = k) := zEu HX.out hb hno;rw [hb] at HC;go_wp2_with fail
    refine HC.mono ?_;rintro e w2 ⟨rfl, b2⟩;replace BB := zAa BB b2;clear b2 x0 x1 x2 x3 x4 x5 x6 x7;go_wp2;go_ret
    exact ⟨zAx HR.out.symm, BB⟩
   ·rw [hb] at HC;go_wp2_with fail
    refine HC.mono ?_;rintro e w2 ⟨rfl, b2⟩;replace BB := zAa BB b2;clear b2 x0 x1 x2 x3 x4 x5 x6 x7;go_wp2;go_roundw
    case rel =>
     refine ⟨k + 1, by omega, by go_num, fun j v hj hv => ?_, BB⟩;by_cases he : j < k
     ·exact hno j v he hv
     ·have : j = k := by omega
      subst this;rw [HX.out] at hv;cases hv;exact hb
    case measure => simp [intOf]; omega
  ·have HR : Hid (zDW p xs = -1) := zDT fun j v hv => hno j v (by have := (List.getElem?_eq_some_iff.1 hv).1; omega) hv;go_wp2;go_ret
   exact ⟨zAx HR.out.symm, BB⟩
theorem zMK {p : zAW → Bool} {g : Nat} (a : Option Addr) (xs : List zAW) (cap : Nat) (w : World) (h : zA4 zBT w a xs) (hm : xs.length ≤ maxLen) (HP : ∀ (x : zAW) (cs : List Value) (W : World), x ∈ xs → Below w.heap.size w W → zBT.rd W cs x → Calls Tryz.prog 164 #[zBq cs, .pointer (some ⟨g, 0, none⟩)] W fun e w' => e = .returned (.bool (!p x)) ∧ Below W.heap.size W w') :
    Calls Tryz.prog 163 #[.slice a xs.length cap, .func (.func 164) #[] #[.pointer (some ⟨g, 0, none⟩)]] w fun e w' => e = .returned (.bool (!xs.all p)) ∧ Below w.heap.size w w' := by
 have HI := zMJ a xs cap w h hm HP;have hab := zD8 p xs;clear h hm HP;generalize zDW p xs = q at HI hab;generalize xs.all p = y at hab ⊢;subst hab;by_cases hq : q < 0
 ·have hq2 : ¬ (0 ≤ q) := by omega
  go_enter Tryz.func163, Tryz.ntmps163;go_wp2_with fail
  refine HI.mono ?_;rintro e w1 ⟨rfl, b1⟩;go_wp2;go_ret
  exact ⟨by simp [hq], b1⟩
 ·have hq2 : 0 ≤ q := by omega
  go_enter Tryz.func163, Tryz.ntmps163;go_wp2_with fail
  refine HI.mono ?_;rintro e w1 ⟨rfl, b1⟩;go_wp2;go_ret
  exact ⟨by simp [hq], b1⟩
theorem zJB {q : Bool} {g : Nat} {c0 c1 c2 c3 : Value} (x : zAW) (cs : List Value) (w : World) (h : zBT.rd w cs x) (hg : w.heap[g]? = some (.cells #[.func (.func 122) #[.agg #[c0, c1, c2, c3]] #[]] 170 (0, 0)))
    (HF : ∀ W, Below w.heap.size w W → Calls Tryz.prog 122 #[.agg #[c0, c1, c2, c3], zBq cs] W fun e w' => e = .returned (.bool q) ∧ Below W.heap.size W w') :
    Calls Tryz.prog 164 #[zBq cs, .pointer (some ⟨g, 0, none⟩)] w fun e w' => e = .returned (.bool (!q)) ∧ Below w.heap.size w w' := by
 obtain ⟨ga, gc, rfl⟩ := zDK h;rw [show zBq [.int .i64 x.1, .int .i64 x.2.1, .bool x.2.2.1, .int .i64 x.2.2.2.1, .int .i64 x.2.2.2.2.1, .int .i64 x.2.2.2.2.2.1, .int .i64 x.2.2.2.2.2.2.1, .slice ga x.2.2.2.2.2.2.2.length gc] = .agg #[.int .i64 x.1, .int .i64 x.2.1, .bool x.2.2.1, .int .i64 x.2.2.2.1, .int .i64 x.2.2.2.2.1, .int .i64 x.2.2.2.2.2.1, .int .i64 x.2.2.2.2.2.2.1, .slice ga x.2.2.2.2.2.2.2.length gc] from rfl] at HF ⊢;have B := zAf w (.cells #[.int .i64 x.1, .int .i64 x.2.1, .bool x.2.2.1, .int .i64 x.2.2.2.1, .int .i64 x.2.2.2.2.1, .int .i64 x.2.2.2.2.2.1, .int .i64 x.2.2.2.2.2.2.1, .slice ga x.2.2.2.2.2.2.2.length gc] 147);have G := zAb B hg;have HFF : Hid _ := HF;clear h hg HF;go_enter Tryz.func164, Tryz.ntmps164;go_upto_region 1 with fail
 have X := zAn w (.cells #[.int .i64 x.1, .int .i64 x.2.1, .bool x.2.2.1, .int .i64 x.2.2.2.1, .int .i64 x.2.2.2.2.1, .int .i64 x.2.2.2.2.2.1, .int .i64 x.2.2.2.2.2.2.1, .slice ga x.2.2.2.2.2.2.2.length gc] 147);generalize w.alloc (.cells #[.int .i64 x.1, .int .i64 x.2.1, .bool x.2.2.1, .int .i64 x.2.2.2.1, .int .i64 x.2.2.2.2.1, .int .i64 x.2.2.2.2.2.1, .int .i64 x.2.2.2.2.2.2.1, .slice ga x.2.2.2.2.2.2.2.length gc] 147) = W0 at B G X ⊢;have g0 : W0.cell? ⟨g, 0, none⟩ = some (.func (.func 122) #[.agg #[c0, c1, c2, c3]] #[]) := by rw [cell_of_row W0 g 0 _ _ (0, 0) G]; rfl
 obtain ⟨y0, y1, y2, y3, y4, y5, y6, y7⟩ := zCi X;clear G X;go_wp2_with fail
 refine (HFF.out _ B).mono ?_;rintro e w1 ⟨rfl, b1⟩;replace B := zAa B b1;clear g0 b1 y0 y1 y2 y3 y4 y5 y6 y7;go_wp2;go_ret
 exact ⟨rfl, B⟩
theorem zKL {p : zAW → Bool} {c0 c1 c2 c3 : Value} (a : Option Addr) (xs : List zAW) (cap : Nat) (w : World) (h : zA4 zBT w a xs) (hm : xs.length ≤ maxLen)
    (HF : ∀ (x : zAW) (cs : List Value) (W : World), x ∈ xs → Below w.heap.size w W → zBT.rd W cs x → Calls Tryz.prog 122 #[.agg #[c0, c1, c2, c3], zBq cs] W fun e w' => e = .returned (.bool (p x)) ∧ Below W.heap.size W w') :
    Calls Tryz.prog 121 #[.slice a xs.length cap, .func (.func 122) #[.agg #[c0, c1, c2, c3]] #[]] w fun e w' => e = .returned (.bool (xs.all p)) ∧ Below w.heap.size w w' := by
 have B := zAf w (.cells #[.func (.func 122) #[.agg #[c0, c1, c2, c3]] #[]] 170);have G := zAn w (.cells #[.func (.func 122) #[.agg #[c0, c1, c2, c3]] #[]] 170);have HC := zMK (p := p) (g := w.heap.size) a xs cap (w.alloc (.cells #[.func (.func 122) #[.agg #[c0, c1, c2, c3]] #[]] 170)) (zAm h B) hm (fun x cs W hx hb hr => zJB x cs W hr (zAb hb G) (fun W2 hb2 => HF x cs W2 hx (zAa (zAa B hb) hb2) (zAr hr hb2)));clear h hm HF G;generalize xs.all p = y at HC ⊢;go_enter Tryz.func121, Tryz.ntmps121;go_wp2_with fail
 refine HC.mono ?_;rintro e w1 ⟨rfl, b1⟩;replace B := zAa B b1;clear b1;go_wp2;go_ret
 exact ⟨by simp, B⟩
theorem idxFnMsg {p : zDy → Bool} {g : Nat} (a : Option Addr) (xs : List zDy) (cap : Nat) (w : World) (h : zA4 zBL w a xs) (hm : xs.length ≤ maxLen) (HP : ∀ (x : zDy) (cs : List Value) (W : World), x ∈ xs → Below w.heap.size w W → zBL.rd W cs x → Calls Tryz.prog 189 #[zBq cs, .pointer (some ⟨g, 0, none⟩)] W fun e w' => e = .returned (.bool (!p x)) ∧ Below W.heap.size W w') :
    Calls Tryz.prog 227 #[.slice a xs.length cap, .func (.func 189) #[] #[.pointer (some ⟨g, 0, none⟩)]] w fun e w' => e = .returned (.int .i64 (zDW p xs)) ∧ Below w.heap.size w w' := by
 have hm' : xs.length ≤ 9223372036854775807 := hm;have H0 : Hid (∀ W, Below w.heap.size w W → zA4 zBL W a xs) := fun W hb => zAq h fun k hk => hb.block k hk;have HPP : Hid _ := HP;clear h hm HP;go_enter Tryz.func227, Tryz.ntmps227;go_wp2;go_loopw [8] (fun i wr => ∃ k : Nat, k ≤ xs.length ∧ i = .int .i64 k ∧ (∀ j v, j < k → xs[j]? = some v → p v = true) ∧ Below w.heap.size w wr) (fun i _ => xs.length - (intOf i).toNat)
 case atStart => exact ⟨0, Nat.zero_le _, rfl, fun j v hj => by omega, Below.refl _ _⟩
 case round =>
  obtain ⟨k, hk, rfl, hno, BB⟩ := hrel;by_cases hlt : k < xs.length
  ·have hlt' : (k : Int) < (xs.length : Int) := by omega
   obtain ⟨x, hx⟩ : ∃ x, xs[k]? = some x := ⟨_, List.getElem?_eq_getElem hlt⟩;obtain ⟨b, off, cs, rfl, hrdx, hcell⟩ := zAy (H0.out _ BB) hx;have HC := HPP.out x cs wr (List.mem_of_getElem? hx) BB hrdx;obtain ⟨ga, gc, rfl⟩ := zFw hrdx;rw [show zBq [.int .i64 x.1, .int .i64 x.2.1, .int .i64 x.2.2.1, .int .i64 x.2.2.2.1, .int .i64 x.2.2.2.2.1, .slice ga x.2.2.2.2.2.1.length gc, .int .i64 x.2.2.2.2.2.2] = .agg #[.int .i64 x.1, .int .i64 x.2.1, .int .i64 x.2.2.1, .int .i64 x.2.2.2.1, .int .i64 x.2.2.2.2.1, .slice ga x.2.2.2.2.2.1.length gc, .int .i64 x.2.2.2.2.2.2] from rfl] at HC;obtain ⟨x0, x1, x2, x3, x4, x5, x6⟩ := cellsAt7 hcell rfl;have HX : Hid (xs[k]? = some x) := hx;clear hx hcell hrdx;cases hb : p x
   ·have HR : Hid (zDW p xs = k) := zEu HX.out hb hno;rw [hb] at HC;go_wp2_with fail
    refine HC.mono ?_;rintro e w2 ⟨rfl, b2⟩;replace BB := zAa BB b2;clear b2 x0 x1 x2 x3 x4 x5 x6;go_wp2;go_ret
    exact ⟨zAx HR.out.symm, BB⟩
   ·rw [hb] at HC;go_wp2_with fail
    refine HC.mono ?_;rintro e w2 ⟨rfl, b2⟩;replace BB := zAa BB b2;clear b2 x0 x1 x2 x3 x4 x5 x6;go_wp2;go_roundw
    case rel =>
     refine ⟨k + 1, by omega, by go_num, fun j v hj hv => ?_, BB⟩;by_cases he : j < k
     ·exact hno j v he hv
     ·have : j = k := by omega
      subst this;rw [HX.out] at hv;cases hv;exact hb
    case measure => simp [intOf]; omega
  ·have HR : Hid (zDW p xs = -1) := zDT fun j v hv => hno j v (by have := (List.getElem?_eq_some_iff.1 hv).1; omega) hv;go_wp2;go_ret
   exact ⟨zAx HR.out.symm, BB⟩
theorem conFnMsg {p : zDy → Bool} {g : Nat} (a : Option Addr) (xs : List zDy) (cap : Nat) (w : World) (h : zA4 zBL w a xs) (hm : xs.length ≤ maxLen) (HP : ∀ (x : zDy) (cs : List Value) (W : World), x ∈ xs → Below w.heap.size w W → zBL.rd W cs x → Calls Tryz.prog 189 #[zBq cs, .pointer (some ⟨g, 0, none⟩)] W fun e w' => e = .returned (.bool (!p x)) ∧ Below W.heap.size W w') :
    Calls Tryz.prog 186 #[.slice a xs.length cap, .func (.func 189) #[] #[.pointer (some ⟨g, 0, none⟩)]] w fun e w' => e = .returned (.bool (!xs.all p)) ∧ Below w.heap.size w w' := by
 have HI := idxFnMsg a xs cap w h hm HP;have hab := zD8 p xs;clear h hm HP;generalize zDW p xs = q at HI hab;generalize xs.all p = y at hab ⊢;subst hab;by_cases hq : q < 0
 ·have hq2 : ¬ (0 ≤ q) := by omega
  go_enter Tryz.func186, Tryz.ntmps186;go_wp2_with fail
  refine HI.mono ?_;rintro e w1 ⟨rfl, b1⟩;go_wp2;go_ret
  exact ⟨by simp [hq], b1⟩
 ·have hq2 : 0 ≤ q := by omega
  go_enter Tryz.func186, Tryz.ntmps186;go_wp2_with fail
  refine HI.mono ?_;rintro e w1 ⟨rfl, b1⟩;go_wp2;go_ret
  exact ⟨by simp [hq], b1⟩
theorem zML {q : Bool} {g : Nat} {c0 c1 c2 c3 : Value} (x : zDy) (cs : List Value) (w : World) (h : zBL.rd w cs x) (hg : w.heap[g]? = some (.cells #[.func (.func 129) #[.agg #[c0, c1, c2, c3]] #[]] 173 (0, 0)))
    (HF : ∀ W, Below w.heap.size w W → Calls Tryz.prog 129 #[.agg #[c0, c1, c2, c3], zBq cs] W fun e w' => e = .returned (.bool q) ∧ Below W.heap.size W w') :
    Calls Tryz.prog 189 #[zBq cs, .pointer (some ⟨g, 0, none⟩)] w fun e w' => e = .returned (.bool (!q)) ∧ Below w.heap.size w w' := by
 obtain ⟨ga, gc, rfl⟩ := zFw h;rw [show zBq [.int .i64 x.1, .int .i64 x.2.1, .int .i64 x.2.2.1, .int .i64 x.2.2.2.1, .int .i64 x.2.2.2.2.1, .slice ga x.2.2.2.2.2.1.length gc, .int .i64 x.2.2.2.2.2.2] = .agg #[.int .i64 x.1, .int .i64 x.2.1, .int .i64 x.2.2.1, .int .i64 x.2.2.2.1, .int .i64 x.2.2.2.2.1, .slice ga x.2.2.2.2.2.1.length gc, .int .i64 x.2.2.2.2.2.2] from rfl] at HF ⊢;have B := zAf w (.cells #[.int .i64 x.1, .int .i64 x.2.1, .int .i64 x.2.2.1, .int .i64 x.2.2.2.1, .int .i64 x.2.2.2.2.1, .slice ga x.2.2.2.2.2.1.length gc, .int .i64 x.2.2.2.2.2.2] 119);have G := zAb B hg;have HFF : Hid _ := HF;clear h hg HF;go_enter Tryz.func189, Tryz.ntmps189;go_upto_region 1 with fail
 have X := zAn w (.cells #[.int .i64 x.1, .int .i64 x.2.1, .int .i64 x.2.2.1, .int .i64 x.2.2.2.1, .int .i64 x.2.2.2.2.1, .slice ga x.2.2.2.2.2.1.length gc, .int .i64 x.2.2.2.2.2.2] 119);generalize w.alloc (.cells #[.int .i64 x.1, .int .i64 x.2.1, .int .i64 x.2.2.1, .int .i64 x.2.2.2.1, .int .i64 x.2.2.2.2.1, .slice ga x.2.2.2.2.2.1.length gc, .int .i64 x.2.2.2.2.2.2] 119) = W0 at B G X ⊢;have g0 : W0.cell? ⟨g, 0, none⟩ = some (.func (.func 129) #[.agg #[c0, c1, c2, c3]] #[]) := by rw [cell_of_row W0 g 0 _ _ (0, 0) G]; rfl
 obtain ⟨y0, y1, y2, y3, y4, y5, y6⟩ := zAQ X;clear G X;go_wp2_with fail
 refine (HFF.out _ B).mono ?_;rintro e w1 ⟨rfl, b1⟩;replace B := zAa B b1;clear g0 b1 y0 y1 y2 y3 y4 y5 y6;go_wp2;go_ret
 exact ⟨rfl, B⟩
theorem zOI {p : zDy → Bool} {c0 c1 c2 c3 : Value} (a : Option Addr) (xs : List zDy) (cap : Nat) (w : World) (h : zA4 zBL w a xs) (hm : xs.length ≤ maxLen)
    (HF : ∀ (x : zDy) (cs : List Value) (W : World), x ∈ xs → Below w.heap.size w W → zBL.rd W cs x → Calls Tryz.prog 129 #[.agg #[c0, c1, c2, c3], zBq cs] W fun e w' => e = .returned (.bool (p x)) ∧ Below W.heap.size W w') :
    Calls Tryz.prog 128 #[.slice a xs.length cap, .func (.func 129) #[.agg #[c0, c1, c2, c3]] #[]] w fun e w' => e = .returned (.bool (xs.all p)) ∧ Below w.heap.size w w' := by
 have B := zAf w (.cells #[.func (.func 129) #[.agg #[c0, c1, c2, c3]] #[]] 173);have G := zAn w (.cells #[.func (.func 129) #[.agg #[c0, c1, c2, c3]] #[]] 173);have HC := conFnMsg (p := p) (g := w.heap.size) a xs cap (w.alloc (.cells #[.func (.func 129) #[.agg #[c0, c1, c2, c3]] #[]] 173)) (zAm h B) hm (fun x cs W hx hb hr => zML x cs W hr (zAb hb G) (fun W2 hb2 => HF x cs W2 hx (zAa (zAa B hb) hb2) (zAr hr hb2)));clear h hm HF G;generalize xs.all p = y at HC ⊢;go_enter Tryz.func128, Tryz.ntmps128;go_wp2_with fail
 refine HC.mono ?_;rintro e w1 ⟨rfl, b1⟩;replace B := zAa B b1;clear b1;go_wp2;go_ret
 exact ⟨by simp, B⟩
end Go.Proofs.YtcocbafhcpdheaaGreatDoor
