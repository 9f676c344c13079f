import Derived.Test.YtcocbafhcpdheaaGreatDoorT00Box
import Derived.Test.YtcocbafhcpdheaaGreatDoorT34
namespace Go.Proofs.YtcocbafhcpdheaaGreatDoor
set_option maxHeartbeats 2000000
set_option maxRecDepth 20000
open Go.ChangeShapes Go.WideShapes Go.ChangeAt Go.RowKit
set_option linter.unusedVariables false
theorem zDK {w : World} {cs : List Value} {x : zAW} (h : zBT.rd w cs x) : ∃ (ga : Option Addr) (gc : Nat), cs = [.int .i64 x.1, .int .i64 x.2.1, .bool x.2.2.1, .int .i64 x.2.2.2.1, .int .i64 x.2.2.2.2.1, .int .i64 x.2.2.2.2.2.1, .int .i64 x.2.2.2.2.2.2.1, .slice ga x.2.2.2.2.2.2.2.length gc] := by
 obtain ⟨a, c, rfl, -⟩ := zFM h;exact ⟨a, c, rfl⟩
theorem zOG {p : zBi → Bool} {g : Nat} (a : Option Addr) (xs : List zBi) (cap : Nat) (w : World) (h : zA4 zAB w a xs) (hm : xs.length ≤ maxLen) (HP : ∀ (x : zBi) (q : List Value) (W : World), x ∈ xs → Below w.heap.size w W → zAB.rd W q x → Calls Tryz.prog 171 #[zBq q, .pointer (some ⟨g, 0, none⟩)] W fun e w' => e = .returned (.bool (!p x)) ∧ Below W.heap.size W w') :
    Calls Tryz.prog 212 #[.slice a xs.length cap, .func (.func 171) #[] #[.pointer (some ⟨g, 0, none⟩)]] w fun e w' => e = .returned (.int .i64 (zDW p xs)) ∧ Below w.heap.size w w' := by
 have M : xs.length ≤ 9223372036854775807 := hm;have N : Hid (∀ W, Below w.heap.size w W → zA4 zAB W a xs) := fun W m => zAq h fun k E => m.block k E;have z : Hid _ := HP;clear h hm HP;go_enter Tryz.func212, Tryz.ntmps212;go_wp2;go_loopw [8] (fun i wr => ∃ k : Nat, k ≤ xs.length ∧ i = .int .i64 k ∧ (∀ j v, j < k → xs[j]? = some v → p v = true) ∧ Below w.heap.size w wr) (fun i _ => xs.length - (intOf i).toNat)
 case atStart => exact ⟨0, Nat.zero_le _, rfl, fun j v hj => by omega, Below.refl _ _⟩
 case round =>
  obtain ⟨k, E, rfl, l, f⟩ := hrel;by_cases s : k < xs.length
  ·have B : (k : Int) < (xs.length : Int) := by omega
   obtain ⟨x, r⟩ : ∃ x, xs[k]? = some x := ⟨_, List.getElem?_eq_getElem s⟩;obtain ⟨b, S, q, rfl, c, d⟩ := zAy (N.out _ f) r;have o := z.out x q wr (List.mem_of_getElem? r) f c;obtain ⟨ga, gc, gb, gd, ha, hc, ia, ic, ja, jc, rfl⟩ := zBd c;rw [show zBq _ = .agg _ from rfl] at o;obtain ⟨H, D, J, I, K, A, G, L, F⟩ := cellsAt9 d rfl;have C : Hid (xs[k]? = some x) := r;clear r d c;cases m : p x
   ·have y : Hid (zDW p xs = k) := zEu C.out m l;rw [m] at o;go_wp2_with fail
    refine o.mono ?_;rintro e R ⟨rfl, n⟩;replace f := zAa f n;clear n H D J I K A G L F;go_wp2;go_ret
    exact ⟨zAx y.out.symm, f⟩
   ·rw [m] at o;go_wp2_with fail
    refine o.mono ?_;rintro e R ⟨rfl, n⟩;replace f := zAa f n;clear n H D J I K A G L F;go_wp2;go_roundw
    case rel =>
     refine ⟨k + 1, by omega, by go_num, fun j v hj hv => ?_, f⟩;by_cases O : j < k
     ·exact l j v O hv
     ·have : j = k := by omega
      subst this;rw [C.out] at hv;cases hv;exact m
    case measure => simp [intOf]; omega
  ·have y : Hid (zDW p xs = -1) := zDT fun j v hv => l j v (by have := (List.getElem?_eq_some_iff.1 hv).1; omega) hv;go_wp2;go_ret
   exact ⟨zAx y.out.symm, f⟩
theorem zOH {p : zBi → Bool} {g : Nat} (a : Option Addr) (xs : List zBi) (cap : Nat) (w : World) (h : zA4 zAB w a xs) (hm : xs.length ≤ maxLen) (HP : ∀ (x : zBi) (cs : List Value) (W : World), x ∈ xs → Below w.heap.size w W → zAB.rd W cs x → Calls Tryz.prog 171 #[zBq cs, .pointer (some ⟨g, 0, none⟩)] W fun e w' => e = .returned (.bool (!p x)) ∧ Below W.heap.size W w') :
    Calls Tryz.prog 170 #[.slice a xs.length cap, .func (.func 171) #[] #[.pointer (some ⟨g, 0, none⟩)]] w fun e w' => e = .returned (.bool (!xs.all p)) ∧ Below w.heap.size w w' := by
 have d := zOG a xs cap w h hm HP;have b := zD8 p xs;clear h hm HP;generalize zDW p xs = q at d b;generalize xs.all p = y at b ⊢;subst b;by_cases i : q < 0
 ·have f : ¬ (0 ≤ q) := by omega
  go_enter Tryz.func170, Tryz.ntmps170;go_wp2_with fail
  refine d.mono ?_;rintro e j ⟨rfl, c⟩;go_wp2;go_ret
  exact ⟨by simp [i], c⟩
 ·have f : 0 ≤ q := by omega
  go_enter Tryz.func170, Tryz.ntmps170;go_wp2_with fail
  refine d.mono ?_;rintro e j ⟨rfl, c⟩;go_wp2;go_ret
  exact ⟨by simp [i], c⟩
theorem zKK {q : Bool} {g : Nat} {c0 c1 c2 c3 : Value} (x : zBi) (cs : List Value) (w : World) (h : zAB.rd w cs x) (hg : w.heap[g]? = some (.cells #[.func (.func 124) #[.agg #[c0, c1, c2, c3]] #[]] 142 (0, 0)))
    (HF : ∀ W, Below w.heap.size w W → Calls Tryz.prog 124 #[.agg #[c0, c1, c2, c3], zBq cs] W fun e w' => e = .returned (.bool q) ∧ Below W.heap.size W w') :
    Calls Tryz.prog 171 #[zBq cs, .pointer (some ⟨g, 0, none⟩)] w fun e w' => e = .returned (.bool (!q)) ∧ Below w.heap.size w w' := by
 obtain ⟨n, E, y, v, o, i, z, A, r, l, rfl⟩ := zBd h;rw [show zBq _ = .agg _ from rfl] at HF ⊢;have B := zAf w (.cells #[.slice n x.1.1.length E, .slice y x.1.2.length v, .slice o x.2.1.length i, .int .i64 x.2.2.1, .int .i64 x.2.2.2.1, .int .i64 x.2.2.2.2.1.1, .int .i64 x.2.2.2.2.1.2.1, .slice z x.2.2.2.2.1.2.2.length A, .slice r x.2.2.2.2.2.length l] 95);have G := zAb B hg;have b : Hid _ := HF;clear h hg HF;go_enter Tryz.func171, Tryz.ntmps171;go_upto_region 1 with fail
 generalize a : w.alloc _ = W0;have X := boxH a;clear a;have p : W0.cell? ⟨g, 0, none⟩ = some (.func (.func 124) #[.agg #[c0, c1, c2, c3]] #[]) := by rw [cell_of_row W0 g 0 _ _ (0, 0) G]; rfl
 obtain ⟨k, D, C, F, d, j, s, m, f⟩ := zAh X;clear G X;go_wp2_with fail
 refine (b.out _ B).mono ?_;rintro e w1 ⟨rfl, c⟩;replace B := zAa B c;clear p c k D C F d j s m f;go_wp2;go_ret
 exact ⟨rfl, B⟩
theorem zMI {p : zBi → Bool} {c0 c1 c2 c3 : Value} (a : Option Addr) (xs : List zBi) (cap : Nat) (w : World) (h : zA4 zAB w a xs) (hm : xs.length ≤ maxLen)
    (HF : ∀ (x : zBi) (cs : List Value) (W : World), x ∈ xs → Below w.heap.size w W → zAB.rd W cs x → Calls Tryz.prog 124 #[.agg #[c0, c1, c2, c3], zBq cs] W fun e w' => e = .returned (.bool (p x)) ∧ Below W.heap.size W w') :
    Calls Tryz.prog 123 #[.slice a xs.length cap, .func (.func 124) #[.agg #[c0, c1, c2, c3]] #[]] w fun e w' => e = .returned (.bool (xs.all p)) ∧ Below w.heap.size w w' := by
 have B := zAf w (.cells #[.func (.func 124) #[.agg #[c0, c1, c2, c3]] #[]] 142);have G := zAn w (.cells #[.func (.func 124) #[.agg #[c0, c1, c2, c3]] #[]] 142);have b := zOH (p := p) (g := w.heap.size) a xs cap (w.alloc (.cells #[.func (.func 124) #[.agg #[c0, c1, c2, c3]] #[]] 142)) (zAm h B) hm (fun x cs W hx hb hr => zKK x cs W hr (zAb hb G) (fun W2 hb2 => HF x cs W2 hx (zAa (zAa B hb) hb2) (zAr hr hb2)));clear h hm HF G;generalize xs.all p = y at b ⊢;go_enter Tryz.func123, Tryz.ntmps123;go_wp2_with fail
 refine b.mono ?_;rintro e w1 ⟨rfl, c⟩;replace B := zAa B c;clear c;go_wp2;go_ret
 exact ⟨by simp, B⟩
theorem zMJ {p : zAW → Bool} {g : Nat} (a : Option Addr) (xs : List zAW) (cap : Nat) (w : World) (h : zA4 zBT w a xs) (hm : xs.length ≤ maxLen) (HP : ∀ (x : zAW) (q : List Value) (W : World), x ∈ xs → Below w.heap.size w W → zBT.rd W q x → Calls Tryz.prog 164 #[zBq q, .pointer (some ⟨g, 0, none⟩)] W fun e w' => e = .returned (.bool (!p x)) ∧ Below W.heap.size W w') :
    Calls Tryz.prog 207 #[.slice a xs.length cap, .func (.func 164) #[] #[.pointer (some ⟨g, 0, none⟩)]] w fun e w' => e = .returned (.int .i64 (zDW p xs)) ∧ Below w.heap.size w w' := by
 have L : xs.length ≤ 9223372036854775807 := hm;have M : Hid (∀ W, Below w.heap.size w W → zA4 zBT W a xs) := fun W m => zAq h fun k E => m.block k E;have z : Hid _ := HP;clear h hm HP;go_enter Tryz.func207, Tryz.ntmps207;go_wp2;go_loopw [8] (fun i wr => ∃ k : Nat, k ≤ xs.length ∧ i = .int .i64 k ∧ (∀ j v, j < k → xs[j]? = some v → p v = true) ∧ Below w.heap.size w wr) (fun i _ => xs.length - (intOf i).toNat)
 case atStart => exact ⟨0, Nat.zero_le _, rfl, fun j v hj => by omega, Below.refl _ _⟩
 case round =>
  obtain ⟨k, E, rfl, l, f⟩ := hrel;by_cases s : k < xs.length
  ·have B : (k : Int) < (xs.length : Int) := by omega
   obtain ⟨x, r⟩ : ∃ x, xs[k]? = some x := ⟨_, List.getElem?_eq_getElem s⟩;obtain ⟨b, R, q, rfl, c, d⟩ := zAy (M.out _ f) r;have o := z.out x q wr (List.mem_of_getElem? r) f c;obtain ⟨ga, gc, rfl⟩ := zDK c;rw [show zBq _ = .agg _ from rfl] at o;obtain ⟨G, D, I, H, J, A, F, K⟩ := cellsAt8 d rfl;have C : Hid (xs[k]? = some x) := r;clear r d c;cases m : p x
   ·have y : Hid (zDW p xs = k) := zEu C.out m l;rw [m] at o;go_wp2_with fail
    refine o.mono ?_;rintro e O ⟨rfl, n⟩;replace f := zAa f n;clear n G D I H J A F K;go_wp2;go_ret
    exact ⟨zAx y.out.symm, f⟩
   ·rw [m] at o;go_wp2_with fail
    refine o.mono ?_;rintro e O ⟨rfl, n⟩;replace f := zAa f n;clear n G D I H J A F K;go_wp2;go_roundw
    case rel =>
     refine ⟨k + 1, by omega, by go_num, fun j v hj hv => ?_, f⟩;by_cases N : j < k
     ·exact l j v N hv
     ·have : j = k := by omega
      subst this;rw [C.out] at hv;cases hv;exact m
    case measure => simp [intOf]; omega
  ·have y : Hid (zDW p xs = -1) := zDT fun j v hv => l j v (by have := (List.getElem?_eq_some_iff.1 hv).1; omega) hv;go_wp2;go_ret
   exact ⟨zAx y.out.symm, f⟩
theorem zMK {p : zAW → Bool} {g : Nat} (a : Option Addr) (xs : List zAW) (cap : Nat) (w : World) (h : zA4 zBT w a xs) (hm : xs.length ≤ maxLen) (HP : ∀ (x : zAW) (cs : List Value) (W : World), x ∈ xs → Below w.heap.size w W → zBT.rd W cs x → Calls Tryz.prog 164 #[zBq cs, .pointer (some ⟨g, 0, none⟩)] W fun e w' => e = .returned (.bool (!p x)) ∧ Below W.heap.size W w') :
    Calls Tryz.prog 163 #[.slice a xs.length cap, .func (.func 164) #[] #[.pointer (some ⟨g, 0, none⟩)]] w fun e w' => e = .returned (.bool (!xs.all p)) ∧ Below w.heap.size w w' := by
 have d := zMJ a xs cap w h hm HP;have b := zD8 p xs;clear h hm HP;generalize zDW p xs = q at d b;generalize xs.all p = y at b ⊢;subst b;by_cases i : q < 0
 ·have f : ¬ (0 ≤ q) := by omega
  go_enter Tryz.func163, Tryz.ntmps163;go_wp2_with fail
  refine d.mono ?_;rintro e j ⟨rfl, c⟩;go_wp2;go_ret
  exact ⟨by simp [i], c⟩
 ·have f : 0 ≤ q := by omega
  go_enter Tryz.func163, Tryz.ntmps163;go_wp2_with fail
  refine d.mono ?_;rintro e j ⟨rfl, c⟩;go_wp2;go_ret
  exact ⟨by simp [i], c⟩
theorem zJB {q : Bool} {g : Nat} {c0 c1 c2 c3 : Value} (x : zAW) (cs : List Value) (w : World) (h : zBT.rd w cs x) (hg : w.heap[g]? = some (.cells #[.func (.func 122) #[.agg #[c0, c1, c2, c3]] #[]] 170 (0, 0)))
    (HF : ∀ W, Below w.heap.size w W → Calls Tryz.prog 122 #[.agg #[c0, c1, c2, c3], zBq cs] W fun e w' => e = .returned (.bool q) ∧ Below W.heap.size W w') :
    Calls Tryz.prog 164 #[zBq cs, .pointer (some ⟨g, 0, none⟩)] w fun e w' => e = .returned (.bool (!q)) ∧ Below w.heap.size w w' := by
 obtain ⟨k, p, rfl⟩ := zDK h;rw [show zBq _ = .agg _ from rfl] at HF ⊢;have B := zAf w (.cells #[.int .i64 x.1, .int .i64 x.2.1, .bool x.2.2.1, .int .i64 x.2.2.2.1, .int .i64 x.2.2.2.2.1, .int .i64 x.2.2.2.2.2.1, .int .i64 x.2.2.2.2.2.2.1, .slice k x.2.2.2.2.2.2.2.length p] 147);have G := zAb B hg;have b : Hid _ := HF;clear h hg HF;go_enter Tryz.func164, Tryz.ntmps164;go_upto_region 1 with fail
 generalize a : w.alloc _ = W0;have X := boxH a;clear a;have l : W0.cell? ⟨g, 0, none⟩ = some (.func (.func 122) #[.agg #[c0, c1, c2, c3]] #[]) := by rw [cell_of_row W0 g 0 _ _ (0, 0) G]; rfl
 obtain ⟨i, o, n, r, d, f, m, j⟩ := zCi X;clear G X;go_wp2_with fail
 refine (b.out _ B).mono ?_;rintro e w1 ⟨rfl, c⟩;replace B := zAa B c;clear l c i o n r d f m j;go_wp2;go_ret
 exact ⟨rfl, B⟩
theorem zKL {p : zAW → Bool} {c0 c1 c2 c3 : Value} (a : Option Addr) (xs : List zAW) (cap : Nat) (w : World) (h : zA4 zBT w a xs) (hm : xs.length ≤ maxLen)
    (HF : ∀ (x : zAW) (cs : List Value) (W : World), x ∈ xs → Below w.heap.size w W → zBT.rd W cs x → Calls Tryz.prog 122 #[.agg #[c0, c1, c2, c3], zBq cs] W fun e w' => e = .returned (.bool (p x)) ∧ Below W.heap.size W w') :
    Calls Tryz.prog 121 #[.slice a xs.length cap, .func (.func 122) #[.agg #[c0, c1, c2, c3]] #[]] w fun e w' => e = .returned (.bool (xs.all p)) ∧ Below w.heap.size w w' := by
 have B := zAf w (.cells #[.func (.func 122) #[.agg #[c0, c1, c2, c3]] #[]] 170);have G := zAn w (.cells #[.func (.func 122) #[.agg #[c0, c1, c2, c3]] #[]] 170);have b := zMK (p := p) (g := w.heap.size) a xs cap (w.alloc (.cells #[.func (.func 122) #[.agg #[c0, c1, c2, c3]] #[]] 170)) (zAm h B) hm (fun x cs W hx hb hr => zJB x cs W hr (zAb hb G) (fun W2 hb2 => HF x cs W2 hx (zAa (zAa B hb) hb2) (zAr hr hb2)));clear h hm HF G;generalize xs.all p = y at b ⊢;go_enter Tryz.func121, Tryz.ntmps121;go_wp2_with fail
 refine b.mono ?_;rintro e w1 ⟨rfl, c⟩;replace B := zAa B c;clear c;go_wp2;go_ret
 exact ⟨by simp, B⟩
theorem idxFnMsg {p : zDy → Bool} {g : Nat} (a : Option Addr) (xs : List zDy) (cap : Nat) (w : World) (h : zA4 zBL w a xs) (hm : xs.length ≤ maxLen) (HP : ∀ (x : zDy) (q : List Value) (W : World), x ∈ xs → Below w.heap.size w W → zBL.rd W q x → Calls Tryz.prog 189 #[zBq q, .pointer (some ⟨g, 0, none⟩)] W fun e w' => e = .returned (.bool (!p x)) ∧ Below W.heap.size W w') :
    Calls Tryz.prog 227 #[.slice a xs.length cap, .func (.func 189) #[] #[.pointer (some ⟨g, 0, none⟩)]] w fun e w' => e = .returned (.int .i64 (zDW p xs)) ∧ Below w.heap.size w w' := by
 have K : xs.length ≤ 9223372036854775807 := hm;have L : Hid (∀ W, Below w.heap.size w W → zA4 zBL W a xs) := fun W m => zAq h fun k E => m.block k E;have z : Hid _ := HP;clear h hm HP;go_enter Tryz.func227, Tryz.ntmps227;go_wp2;go_loopw [8] (fun i wr => ∃ k : Nat, k ≤ xs.length ∧ i = .int .i64 k ∧ (∀ j v, j < k → xs[j]? = some v → p v = true) ∧ Below w.heap.size w wr) (fun i _ => xs.length - (intOf i).toNat)
 case atStart => exact ⟨0, Nat.zero_le _, rfl, fun j v hj => by omega, Below.refl _ _⟩
 case round =>
  obtain ⟨k, E, rfl, l, f⟩ := hrel;by_cases s : k < xs.length
  ·have B : (k : Int) < (xs.length : Int) := by omega
   obtain ⟨x, r⟩ : ∃ x, xs[k]? = some x := ⟨_, List.getElem?_eq_getElem s⟩;obtain ⟨b, O, q, rfl, c, d⟩ := zAy (L.out _ f) r;have o := z.out x q wr (List.mem_of_getElem? r) f c;obtain ⟨ga, gc, rfl⟩ := zFw c;rw [show zBq _ = .agg _ from rfl] at o;obtain ⟨G, D, I, H, J, A, F⟩ := cellsAt7 d rfl;have C : Hid (xs[k]? = some x) := r;clear r d c;cases m : p x
   ·have y : Hid (zDW p xs = k) := zEu C.out m l;rw [m] at o;go_wp2_with fail
    refine o.mono ?_;rintro e N ⟨rfl, n⟩;replace f := zAa f n;clear n G D I H J A F;go_wp2;go_ret
    exact ⟨zAx y.out.symm, f⟩
   ·rw [m] at o;go_wp2_with fail
    refine o.mono ?_;rintro e N ⟨rfl, n⟩;replace f := zAa f n;clear n G D I H J A F;go_wp2;go_roundw
    case rel =>
     refine ⟨k + 1, by omega, by go_num, fun j v hj hv => ?_, f⟩;by_cases M : j < k
     ·exact l j v M hv
     ·have : j = k := by omega
      subst this;rw [C.out] at hv;cases hv;exact m
    case measure => simp [intOf]; omega
  ·have y : Hid (zDW p xs = -1) := zDT fun j v hv => l j v (by have := (List.getElem?_eq_some_iff.1 hv).1; omega) hv;go_wp2;go_ret
   exact ⟨zAx y.out.symm, f⟩
theorem conFnMsg {p : zDy → Bool} {g : Nat} (a : Option Addr) (xs : List zDy) (cap : Nat) (w : World) (h : zA4 zBL w a xs) (hm : xs.length ≤ maxLen) (HP : ∀ (x : zDy) (cs : List Value) (W : World), x ∈ xs → Below w.heap.size w W → zBL.rd W cs x → Calls Tryz.prog 189 #[zBq cs, .pointer (some ⟨g, 0, none⟩)] W fun e w' => e = .returned (.bool (!p x)) ∧ Below W.heap.size W w') :
    Calls Tryz.prog 186 #[.slice a xs.length cap, .func (.func 189) #[] #[.pointer (some ⟨g, 0, none⟩)]] w fun e w' => e = .returned (.bool (!xs.all p)) ∧ Below w.heap.size w w' := by
 have d := idxFnMsg a xs cap w h hm HP;have b := zD8 p xs;clear h hm HP;generalize zDW p xs = q at d b;generalize xs.all p = y at b ⊢;subst b;by_cases i : q < 0
 ·have f : ¬ (0 ≤ q) := by omega
  go_enter Tryz.func186, Tryz.ntmps186;go_wp2_with fail
  refine d.mono ?_;rintro e j ⟨rfl, c⟩;go_wp2;go_ret
  exact ⟨by simp [i], c⟩
 ·have f : 0 ≤ q := by omega
  go_enter Tryz.func186, Tryz.ntmps186;go_wp2_with fail
  refine d.mono ?_;rintro e j ⟨rfl, c⟩;go_wp2;go_ret
  exact ⟨by simp [i], c⟩
theorem zML {q : Bool} {g : Nat} {c0 c1 c2 c3 : Value} (x : zDy) (cs : List Value) (w : World) (h : zBL.rd w cs x) (hg : w.heap[g]? = some (.cells #[.func (.func 129) #[.agg #[c0, c1, c2, c3]] #[]] 173 (0, 0)))
    (HF : ∀ W, Below w.heap.size w W → Calls Tryz.prog 129 #[.agg #[c0, c1, c2, c3], zBq cs] W fun e w' => e = .returned (.bool q) ∧ Below W.heap.size W w') :
    Calls Tryz.prog 189 #[zBq cs, .pointer (some ⟨g, 0, none⟩)] w fun e w' => e = .returned (.bool (!q)) ∧ Below w.heap.size w w' := by
 obtain ⟨j, o, rfl⟩ := zFw h;rw [show zBq _ = .agg _ from rfl] at HF ⊢;have B := zAf w (.cells #[.int .i64 x.1, .int .i64 x.2.1, .int .i64 x.2.2.1, .int .i64 x.2.2.2.1, .int .i64 x.2.2.2.2.1, .slice j x.2.2.2.2.2.1.length o, .int .i64 x.2.2.2.2.2.2] 119);have G := zAb B hg;have b : Hid _ := HF;clear h hg HF;go_enter Tryz.func189, Tryz.ntmps189;go_upto_region 1 with fail
 generalize a : w.alloc _ = W0;have X := boxH a;clear a;have k : W0.cell? ⟨g, 0, none⟩ = some (.func (.func 129) #[.agg #[c0, c1, c2, c3]] #[]) := by rw [cell_of_row W0 g 0 _ _ (0, 0) G]; rfl
 obtain ⟨i, n, m, p, d, f, l⟩ := zAQ X;clear G X;go_wp2_with fail
 refine (b.out _ B).mono ?_;rintro e w1 ⟨rfl, c⟩;replace B := zAa B c;clear k c i n m p d f l;go_wp2;go_ret
 exact ⟨rfl, B⟩
theorem zOI {p : zDy → Bool} {c0 c1 c2 c3 : Value} (a : Option Addr) (xs : List zDy) (cap : Nat) (w : World) (h : zA4 zBL w a xs) (hm : xs.length ≤ maxLen)
    (HF : ∀ (x : zDy) (cs : List Value) (W : World), x ∈ xs → Below w.heap.size w W → zBL.rd W cs x → Calls Tryz.prog 129 #[.agg #[c0, c1, c2, c3], zBq cs] W fun e w' => e = .returned (.bool (p x)) ∧ Below W.heap.size W w') :
    Calls Tryz.prog 128 #[.slice a xs.length cap, .func (.func 129) #[.agg #[c0, c1, c2, c3]] #[]] w fun e w' => e = .returned (.bool (xs.all p)) ∧ Below w.heap.size w w' := by
 have B := zAf w (.cells #[.func (.func 129) #[.agg #[c0, c1, c2, c3]] #[]] 173);have G := zAn w (.cells #[.func (.func 129) #[.agg #[c0, c1, c2, c3]] #[]] 173);have b := conFnMsg (p := p) (g := w.heap.size) a xs cap (w.alloc (.cells #[.func (.func 129) #[.agg #[c0, c1, c2, c3]] #[]] 173)) (zAm h B) hm (fun x cs W hx hb hr => zML x cs W hr (zAb hb G) (fun W2 hb2 => HF x cs W2 hx (zAa (zAa B hb) hb2) (zAr hr hb2)));clear h hm HF G;generalize xs.all p = y at b ⊢;go_enter Tryz.func128, Tryz.ntmps128;go_wp2_with fail
 refine b.mono ?_;rintro e w1 ⟨rfl, c⟩;replace B := zAa B c;clear c;go_wp2;go_ret
 exact ⟨by simp, B⟩
end Go.Proofs.YtcocbafhcpdheaaGreatDoor
