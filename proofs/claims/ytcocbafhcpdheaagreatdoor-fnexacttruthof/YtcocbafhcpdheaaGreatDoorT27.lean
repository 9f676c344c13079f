import Derived.Test.YtcocbafhcpdheaaGreatDoorT00Box
import Derived.Test.YtcocbafhcpdheaaGreatDoorT26
import Derived.Test.YtcocbafhcpdheaaGreatDoorT24
namespace Go.Proofs.YtcocbafhcpdheaaGreatDoor
set_option maxHeartbeats 8000000
open Go.ChangeShapes Go.WideShapes Go.ChangeAt Go.RowKit
set_option linter.unusedVariables false
def zB2 (u : OpD) : Bool := opB u.1 u.2.1 u.2.2.1 u.2.2.2
def zJ1 (l : Int) (u : OpD) : Bool := zA8 u.2.1 0 (2 * l - 1)
def zDk (c s y l : Int) (xs : List OpD) : Int := if zBe c s y l = 0 then (if xs.length ≤ 30 then (if xs.all zB2 then (if xs.all (zJ1 l) then 0 else 4) else 3) else 2) else 1
def zBn (u : zBU) : Bool := if u.1 then zA8 u.2.2.1 1 3 && isL u.2.2.2 else decide (u.2.2.1 = 0) && decide (u.2.2.2.length = 0)
def zFy (l : Int) (u : zBU) : Bool := zA8 u.2.1 0 (l - 1)
def zDd (c s y l : Int) (xs : List zBU) : Int := if zBe c s y l = 0 then (if xs.length ≤ 30 then (if xs.all zBn then (if xs.all (zFy l) then 0 else 4) else 5) else 2) else 1
theorem zCZ {α : Type} {p : α → Bool} {xs : List α} {k : Nat} {x : α} (h : (xs.take k).all p = true) (hx : xs[k]? = some x) (hp : p x = true) : (xs.take (k + 1)).all p = true := by
 rw [List.take_add_one, hx, List.all_append, h];simp [hp]
theorem zBZ {α : Type} {p : α → Bool} {xs : List α} {k : Nat} {x : α} (hx : xs[k]? = some x) (hp : p x = false) : xs.all p = false := by
 rw [Bool.eq_false_iff];intro h;have := List.all_eq_true.1 h x (List.mem_of_getElem? hx);rw [hp] at this;cases this
theorem op_addr {u : OpD} (h : zB2 u = true) : 0 ≤ u.2.1 ∧ u.2.1 ≤ 31 := by
 simp [zB2, opB, zA8] at h
 omega
theorem tdiv_two {a : Int} (h : 0 ≤ a) : a.tdiv 2 = a / 2 := Int.tdiv_eq_ediv_of_nonneg h
def zEE (p q : Bool) (n : Int) : Int := if p then (if q then 0 else 4) else n
theorem zEZ (c s y l : Int) (a : Option Addr) (xs : List OpD) (cap : Nat) (w : World) (h : zA4 opR w a xs) (hm : xs.length ≤ maxLen) :
    Calls Tryz.prog 95 #[.agg #[.int .i64 c, .int .i64 s, .int .i64 y, .int .i64 l], .slice a xs.length cap] w fun e w' => e = .returned (.int .i64 (zDk c s y l xs)) ∧ Below w.heap.size w w' := by
 have hm' : xs.length ≤ 9223372036854775807 := hm;have X := zAn w (.cells #[.int .i64 c, .int .i64 s, .int .i64 y, .int .i64 l] 39);have B := zAf w (.cells #[.int .i64 c, .int .i64 s, .int .i64 y, .int .i64 l] 39);have HS : Hid (∀ W, Below w.heap.size w W → zA4 opR W a xs) := fun W hb => zAm h hb;clear h hm;by_cases hc : zBe c s y l = 0
 ·have hl := (zFv hc).1;by_cases hn : xs.length ≤ 30
  ·have hn' : ¬ ((30 : Int) < (xs.length : Int)) := by omega
   have HV : Hid (zDk c s y l xs = zEE (xs.all zB2) (xs.all (zJ1 l)) 3) := by unfold Hid zDk zEE; rw [if_pos hc, if_pos hn]
   rw [HV.out];clear HV;generalize hA1 : xs.all zB2 = A1;generalize hA2 : xs.all (zJ1 l) = A2;have HA1 : Hid _ := hA1;have HA2 : Hid _ := hA2;clear hA1 hA2;go_enter Tryz.func95, Tryz.ntmps95;go_wp2_with fail
   generalize w.alloc (.cells #[.int .i64 c, .int .i64 s, .int .i64 y, .int .i64 l] 39) = W0 at X B ⊢;refine (zCs _ _ _ _ _).mono ?_;rintro e w1 ⟨rfl, b1⟩;replace X := zAb b1 X;replace B := zAa B b1;clear b1;rw [hc];have HX : Hid _ := And.intro X B;clear X B hc;go_wp2;go_loopw [5] (fun i wr => ∃ k : Nat, k ≤ xs.length ∧ i = .int .i64 k ∧ (xs.take k).all zB2 = true ∧ Below w1.heap.size w1 wr) (fun i _ => xs.length - (intOf i).toNat)
   case atStart => exact ⟨0, Nat.zero_le _, rfl, rfl, Below.refl _ _⟩
   case round =>
    obtain ⟨k, hk, rfl, hall, BB⟩ := hrel;by_cases hlt : k < xs.length
    ·have hlt' : (k : Int) < (xs.length : Int) := by omega
     obtain ⟨x, hx⟩ : ∃ x, xs[k]? = some x := ⟨_, List.getElem?_eq_getElem hlt⟩;obtain ⟨b, off, rfl, x0, x1, x2, x3, -⟩ := zHi (HS.out _ (zAa HX.out.2 BB)) hx;cases hb : zB2 x
     ·have HN : Hid (A1 = false) := by rw [← HA1.out]; exact zBZ hx hb
      clear hx hall;go_wp2_with ((go_at_call 147; refine (zBH _ _ _ _ _).mono ?_; rintro e w' ⟨rfl, bb⟩; rw [show opB x.1 x.2.1 x.2.2.1 x.2.2.2 = _ from hb]; replace BB := zAa BB bb; clear bb))
      go_ret
      exact ⟨zAx (by rw [HN.out]; rfl), zAa HX.out.2 BB⟩
     ·have HA : Hid ((xs.take (k + 1)).all zB2 = true) := zCZ hall hx hb;clear hx hall;go_wp2_with ((go_at_call 147; refine (zBH _ _ _ _ _).mono ?_; rintro e w' ⟨rfl, bb⟩; rw [show opB x.1 x.2.1 x.2.2.1 x.2.2.2 = _ from hb]; replace BB := zAa BB bb; clear bb))
      go_roundw
      case rel => exact ⟨k + 1, by omega, by go_num, HA.out, BB⟩
      case measure => simp [intOf]; omega
    ·have hkl : k = xs.length := by omega
     subst hkl;rw [List.take_length] at hall;have hA1 : A1 = true := by rw [← HA1.out]; exact hall
     subst hA1;obtain ⟨X, B⟩ := HX.out;replace X := zAb BB X;replace B := zAa B BB;have HY : Hid _ := And.intro X B;obtain ⟨w2, hw2⟩ : ∃ x, x = wr := ⟨_, rfl⟩;subst hw2;clear hall BB X B HX HA1;go_wp2;go_loopw [6] (fun i wr => ∃ k : Nat, k ≤ xs.length ∧ i = .int .i64 k ∧ (xs.take k).all (zJ1 l) = true ∧ Below w2.heap.size w2 wr) (fun i _ => xs.length - (intOf i).toNat)
     case atStart => exact ⟨0, Nat.zero_le _, rfl, rfl, Below.refl _ _⟩
     case round =>
      obtain ⟨k, hk, rfl, hall, BB⟩ := hrel;by_cases hlt : k < xs.length
      ·have hlt' : (k : Int) < (xs.length : Int) := by omega
       obtain ⟨x, hx⟩ : ∃ x, xs[k]? = some x := ⟨_, List.getElem?_eq_getElem hlt⟩;obtain ⟨b, off, rfl, x0, x1, x2, x3, -⟩ := zHi (HS.out _ (zAa HY.out.2 BB)) hx;have X := zAb BB HY.out.1;obtain ⟨c0, c1, c2, c3⟩ := zA5 X;have d0 : ∀ n : Cls (fun wx => Below wr.heap.size wr wx), n.w.cell? ⟨w.heap.size, 0, none⟩ = some (.int .i64 c) := fun n => zAe n.h c0 (zAk c0);have d1 : ∀ n : Cls (fun wx => Below wr.heap.size wr wx), n.w.cell? ⟨w.heap.size, 1, none⟩ = some (.int .i64 s) := fun n => zAe n.h c1 (zAk c1);have d2 : ∀ n : Cls (fun wx => Below wr.heap.size wr wx), n.w.cell? ⟨w.heap.size, 2, none⟩ = some (.int .i64 y) := fun n => zAe n.h c2 (zAk c2);have d3 : ∀ n : Cls (fun wx => Below wr.heap.size wr wx), n.w.cell? ⟨w.heap.size, 3, none⟩ = some (.int .i64 l) := fun n => zAe n.h c3 (zAk c3);have d4 : ∀ n : Cls (fun wx => Below wr.heap.size wr wx), n.w.cell? ⟨b, off + k * 4 + 1, none⟩ = some (.int .i64 x.2.1) := fun n => zAe n.h x1 (zAk x1);clear c0 c1 c2 c3 x0 x1 x2 x3 X;cases hb : zJ1 l x
       ·have HN : Hid (A2 = false) := by rw [← HA2.out]; exact zBZ hx hb
        have hb' : zA8 x.2.1 0 (2 * l - 1) = false := hb;have KA : Hid (∀ W, Calls Tryz.prog 151 #[.agg #[.int .i64 c, .int .i64 s, .int .i64 y, .int .i64 l], .int .i64 x.2.1] W fun e w' => e = .returned (.bool false) ∧ Below W.heap.size W w') := fun W => by rw [← hb']; exact zHF c s y l x.2.1 W hl
        clear hx hall hb hb';go_wp2;refine zAz (fun wx => Below wr.heap.size wr wx) (by kernel_rfl) (by kernel_rfl) ((Below.refl _ wr).drew) ?_;intro hne;repeat (quiet_step ((go_at_call 151; exact zAj (KA.out _) (fun w' hc bb => zAa hc bb))))
        refine wpQuiet_nil ?_;intro wx b2;replace BB := zAa BB b2;clear b2 hne d0 d1 d2 d3 d4;go_wp2;go_ret
        exact ⟨zAx (by rw [HN.out]; rfl), zAa HY.out.2 BB⟩
       ·have HA : Hid ((xs.take (k + 1)).all (zJ1 l) = true) := zCZ hall hx hb;have hb' : zA8 x.2.1 0 (2 * l - 1) = true := hb;have KA : Hid (∀ W, Calls Tryz.prog 151 #[.agg #[.int .i64 c, .int .i64 s, .int .i64 y, .int .i64 l], .int .i64 x.2.1] W fun e w' => e = .returned (.bool true) ∧ Below W.heap.size W w') := fun W => by rw [← hb']; exact zHF c s y l x.2.1 W hl
        clear hx hall hb hb';go_wp2;refine zAz (fun wx => Below wr.heap.size wr wx) (by kernel_rfl) (by kernel_rfl) ((Below.refl _ wr).drew) ?_;intro hne;repeat (quiet_step ((go_at_call 151; exact zAj (KA.out _) (fun w' hc bb => zAa hc bb))))
        refine wpQuiet_nil ?_;intro wx b2;replace BB := zAa BB b2;clear b2 hne d0 d1 d2 d3 d4;go_wp2;go_roundw
        case rel => exact ⟨k + 1, by omega, by go_num, HA.out, BB⟩
        case measure => simp [intOf]; omega
      ·have hkl : k = xs.length := by omega
       subst hkl;rw [List.take_length] at hall;have hA2 : A2 = true := by rw [← HA2.out]; exact hall
       subst hA2;clear hall;go_wp2;go_ret
       exact ⟨rfl, zAa HY.out.2 BB⟩
  ·have hn' : (30 : Int) < (xs.length : Int) := by omega
   have HV : Hid (zDk c s y l xs = 2) := by unfold Hid zDk; rw [if_pos hc, if_neg hn]
   rw [HV.out];clear HV HS;go_enter Tryz.func95, Tryz.ntmps95;go_wp2_with fail
   generalize w.alloc (.cells #[.int .i64 c, .int .i64 s, .int .i64 y, .int .i64 l] 39) = W0 at X B ⊢;refine (zCs _ _ _ _ _).mono ?_;rintro e w1 ⟨rfl, b1⟩;replace B := zAa B b1;clear b1 X;rw [hc];go_wp2;go_ret
   exact ⟨rfl, B⟩
 ·have HV : Hid (zDk c s y l xs = 1) := by unfold Hid zDk; rw [if_neg hc]
  rw [HV.out];clear HV HS;have hcb : (zBe c s y l != 0) = true := by simp [hc]
  go_enter Tryz.func95, Tryz.ntmps95;go_wp2_with fail
  generalize w.alloc (.cells #[.int .i64 c, .int .i64 s, .int .i64 y, .int .i64 l] 39) = W0 at X B ⊢;refine (zCs _ _ _ _ _).mono ?_;rintro e w1 ⟨rfl, b1⟩;replace B := zAa B b1;clear b1 X;generalize zBe c s y l = q at hcb hc ⊢;go_wp2;go_ret
  exact ⟨rfl, B⟩
theorem zFc (p : Bool) (q m : Int) (d : List Int) (a : Option Addr) (cap : Nat) (w : World) (h : zA4 zAG w a d) :
    Calls Tryz.prog 143 #[.agg #[.bool p, .int .i64 q, .int .i64 m, .slice a d.length cap]] w fun e w' => e = .returned (.bool (zBn (p, q, m, d))) ∧ Below w.heap.size w w' := by
 have HB : Hid _ := zAf w;have HL : Hid _ := fun (W : World) (hb : Below w.heap.size w W) => zB4 a d cap W (zBv (zAm h hb));clear h;cases p
 ·by_cases hm : m = 0
  ·subst hm;by_cases h9 : d.length = 0
   ·have hz5 : d = [] := List.eq_nil_of_length_eq_zero h9;subst hz5;go_enter Tryz.func143, Tryz.ntmps143;go_wp2_with fail
    go_ret
    exact ⟨rfl, HB.out _⟩
   ·have hz : ¬ ((d.length : Int) = 0) := by omega
    have hz2 : ((d.length : Int) == 0) = false := beq_false_of_ne hz;have HV : Hid (zBn (false, q, 0, d) = false) := by unfold Hid zBn; simp [h9]
    rw [HV.out];go_enter Tryz.func143, Tryz.ntmps143;go_wp2_with fail
    go_ret
    exact ⟨rfl, HB.out _⟩
  ·have hmb : (m == 0) = false := beq_false_of_ne hm;have HV : Hid (zBn (false, q, m, d) = false) := by unfold Hid zBn; simp [hm]
   rw [HV.out];go_enter Tryz.func143, Tryz.ntmps143;go_wp2_with fail
   go_ret
   exact ⟨rfl, HB.out _⟩
 ·cases hb : zA8 m 1 3
  ·have HV : Hid (zBn (true, q, m, d) = false) := by unfold Hid zBn; simp [hb]
   rw [HV.out];go_enter Tryz.func143, Tryz.ntmps143;go_wp2_with (go_at_call 98; refine (zAo _ _ _ _).mono ?_; rintro e w' ⟨rfl, rfl⟩)
   go_ret
   exact ⟨rfl, HB.out _⟩
  ·have HV : Hid (zBn (true, q, m, d) = isL d) := by unfold Hid zBn; simp [hb]
   rw [HV.out];go_enter Tryz.func143, Tryz.ntmps143;go_wp2_with (first | (go_at_call 98; refine (zAo _ _ _ _).mono ?_; rintro e w' ⟨rfl, rfl⟩) | (go_at_call 144; refine (HL.out _ (HB.out _)).mono ?_; rintro e w' ⟨rfl, rfl⟩))
   go_ret
   exact ⟨rfl, HB.out _⟩
theorem zFZ (c s y l : Int) (a : Option Addr) (xs : List zBU) (cap : Nat) (w : World) (h : zA4 zAR w a xs) (hm : xs.length ≤ maxLen) :
    Calls Tryz.prog 92 #[.agg #[.int .i64 c, .int .i64 s, .int .i64 y, .int .i64 l], .slice a xs.length cap] w fun e w' => e = .returned (.int .i64 (zDd c s y l xs)) ∧ Below w.heap.size w w' := by
 have hm' : xs.length ≤ 9223372036854775807 := hm;have X := zAn w (.cells #[.int .i64 c, .int .i64 s, .int .i64 y, .int .i64 l] 39);have B := zAf w (.cells #[.int .i64 c, .int .i64 s, .int .i64 y, .int .i64 l] 39);have HS : Hid (∀ W, Below w.heap.size w W → zA4 zAR W a xs) := fun W hb => zAm h hb;clear h hm;by_cases hc : zBe c s y l = 0
 ·have hl := (zFv hc).1;by_cases hn : xs.length ≤ 30
  ·have hn' : ¬ ((30 : Int) < (xs.length : Int)) := by omega
   have HV : Hid (zDd c s y l xs = zEE (xs.all zBn) (xs.all (zFy l)) 5) := by unfold Hid zDd zEE; rw [if_pos hc, if_pos hn]
   rw [HV.out];clear HV;generalize hA1 : xs.all zBn = A1;generalize hA2 : xs.all (zFy l) = A2;have HA1 : Hid _ := hA1;have HA2 : Hid _ := hA2;clear hA1 hA2;go_enter Tryz.func92, Tryz.ntmps92;go_wp2_with fail
   generalize w.alloc (.cells #[.int .i64 c, .int .i64 s, .int .i64 y, .int .i64 l] 39) = W0 at X B ⊢;refine (zCs _ _ _ _ _).mono ?_;rintro e w1 ⟨rfl, b1⟩;replace X := zAb b1 X;replace B := zAa B b1;clear b1;rw [hc];have HX : Hid _ := And.intro X B;clear X B hc;go_wp2;go_loopw [5] (fun i wr => ∃ k : Nat, k ≤ xs.length ∧ i = .int .i64 k ∧ (xs.take k).all zBn = true ∧ Below w1.heap.size w1 wr) (fun i _ => xs.length - (intOf i).toNat)
   case atStart => exact ⟨0, Nat.zero_le _, rfl, rfl, Below.refl _ _⟩
   case round =>
    obtain ⟨k, hk, rfl, hall, BB⟩ := hrel;by_cases hlt : k < xs.length
    ·have hlt' : (k : Int) < (xs.length : Int) := by omega
     obtain ⟨x, hx⟩ : ∃ x, xs[k]? = some x := ⟨_, List.getElem?_eq_getElem hlt⟩;obtain ⟨b, off, cs, rfl, hrd, hcell⟩ := zAy (HS.out _ (zAa HX.out.2 BB)) hx;obtain ⟨ad, cpw, rfl, -, -, -, -, rd3⟩ := zEn hrd;have x0 := hcell 0 _ rfl;have x1 := hcell 1 _ rfl;have x2 := hcell 2 _ rfl;have x3 := hcell 3 _ rfl;rw [show off + (k * zAR.size + 0) = off + k * 4 from rfl] at x0;rw [show off + (k * zAR.size + 1) = off + k * 4 + 1 from rfl] at x1;rw [show off + (k * zAR.size + 2) = off + k * 4 + 2 from rfl] at x2;rw [show off + (k * zAR.size + 3) = off + k * 4 + 3 from rfl] at x3;have HRD : Hid _ := rd3;clear hcell hrd rd3;cases hb : zBn x
     ·have HN : Hid (A1 = false) := by rw [← HA1.out]; exact zBZ hx hb
      clear hx hall;go_wp2_with ((go_at_call 143; refine (zFc x.1 x.2.1 x.2.2.1 x.2.2.2 _ _ _ HRD.out).mono ?_; rintro e w' ⟨rfl, bb⟩; rw [hb]; replace BB := zAa BB bb; clear bb))
      go_ret
      exact ⟨zAx (by rw [HN.out]; rfl), zAa HX.out.2 BB⟩
     ·have HA : Hid ((xs.take (k + 1)).all zBn = true) := zCZ hall hx hb;clear hx hall;go_wp2_with ((go_at_call 143; refine (zFc x.1 x.2.1 x.2.2.1 x.2.2.2 _ _ _ HRD.out).mono ?_; rintro e w' ⟨rfl, bb⟩; rw [hb]; replace BB := zAa BB bb; clear bb))
      go_roundw
      case rel => exact ⟨k + 1, by omega, by go_num, HA.out, BB⟩
      case measure => simp [intOf]; omega
    ·have hkl : k = xs.length := by omega
     subst hkl;rw [List.take_length] at hall;have hA1 : A1 = true := by rw [← HA1.out]; exact hall
     subst hA1;obtain ⟨X, B⟩ := HX.out;replace X := zAb BB X;replace B := zAa B BB;have HY : Hid _ := And.intro X B;obtain ⟨w2, hw2⟩ : ∃ x, x = wr := ⟨_, rfl⟩;subst hw2;clear hall BB X B HX HA1;go_wp2;go_loopw [6] (fun i wr => ∃ k : Nat, k ≤ xs.length ∧ i = .int .i64 k ∧ (xs.take k).all (zFy l) = true ∧ Below w2.heap.size w2 wr) (fun i _ => xs.length - (intOf i).toNat)
     case atStart => exact ⟨0, Nat.zero_le _, rfl, rfl, Below.refl _ _⟩
     case round =>
      obtain ⟨k, hk, rfl, hall, BB⟩ := hrel;by_cases hlt : k < xs.length
      ·have hlt' : (k : Int) < (xs.length : Int) := by omega
       obtain ⟨x, hx⟩ : ∃ x, xs[k]? = some x := ⟨_, List.getElem?_eq_getElem hlt⟩;obtain ⟨b, off, cs, rfl, hrd, hcell⟩ := zAy (HS.out _ (zAa HY.out.2 BB)) hx;obtain ⟨ad, cpw, rfl, -, -, -, -, rd3⟩ := zEn hrd;have x0 := hcell 0 _ rfl;have x1 := hcell 1 _ rfl;have x2 := hcell 2 _ rfl;have x3 := hcell 3 _ rfl;rw [show off + (k * zAR.size + 0) = off + k * 4 from rfl] at x0;rw [show off + (k * zAR.size + 1) = off + k * 4 + 1 from rfl] at x1;rw [show off + (k * zAR.size + 2) = off + k * 4 + 2 from rfl] at x2;rw [show off + (k * zAR.size + 3) = off + k * 4 + 3 from rfl] at x3;have HRD : Hid _ := rd3;clear hcell hrd rd3;have X := zAb BB HY.out.1;obtain ⟨c0, c1, c2, c3⟩ := zA5 X;clear X c0 c1 c2 x0 x2 x3 HRD;by_cases h0 : x.2.1 < 0
       ·have hb : zFy l x = false := by simp [zFy, zA8]; omega
        have HN : Hid (A2 = false) := by rw [← HA2.out]; exact zBZ hx hb
        clear hx hall hb;go_wp2_with fail
        go_quiet (fail)
        go_wp2;go_ret
        exact ⟨zAx (by rw [HN.out]; rfl), zCG (zAa HY.out.2 BB) _⟩
       ·by_cases h1 : l ≤ x.2.1
        ·have hb : zFy l x = false := by simp [zFy, zA8]; omega
         have HN : Hid (A2 = false) := by rw [← HA2.out]; exact zBZ hx hb
         clear hx hall hb;go_wp2_with fail
         go_quiet (fail)
         go_wp2;go_ret
         exact ⟨zAx (by rw [HN.out]; rfl), zCG (zAa HY.out.2 BB) _⟩
        ·have hb : zFy l x = true := by simp [zFy, zA8]; omega
         have HA : Hid ((xs.take (k + 1)).all (zFy l) = true) := zCZ hall hx hb;clear hx hall hb;go_wp2_with fail
         go_quiet (fail)
         go_wp2;go_roundw
         case rel => exact ⟨k + 1, by omega, by go_num, HA.out, zCG BB _⟩
         case measure => simp [intOf]; omega
      ·have hkl : k = xs.length := by omega
       subst hkl;rw [List.take_length] at hall;have hA2 : A2 = true := by rw [← HA2.out]; exact hall
       subst hA2;clear hall;go_wp2;go_ret
       exact ⟨rfl, zAa HY.out.2 BB⟩
  ·have hn' : (30 : Int) < (xs.length : Int) := by omega
   have HV : Hid (zDd c s y l xs = 2) := by unfold Hid zDd; rw [if_pos hc, if_neg hn]
   rw [HV.out];clear HV HS;go_enter Tryz.func92, Tryz.ntmps92;go_wp2_with fail
   generalize w.alloc (.cells #[.int .i64 c, .int .i64 s, .int .i64 y, .int .i64 l] 39) = W0 at X B ⊢;refine (zCs _ _ _ _ _).mono ?_;rintro e w1 ⟨rfl, b1⟩;replace B := zAa B b1;clear b1 X;rw [hc];go_wp2;go_ret
   exact ⟨rfl, B⟩
 ·have HV : Hid (zDd c s y l xs = 1) := by unfold Hid zDd; rw [if_neg hc]
  rw [HV.out];clear HV HS;have hcb : (zBe c s y l != 0) = true := by simp [hc]
  go_enter Tryz.func92, Tryz.ntmps92;go_wp2_with fail
  generalize w.alloc (.cells #[.int .i64 c, .int .i64 s, .int .i64 y, .int .i64 l] 39) = W0 at X B ⊢;refine (zCs _ _ _ _ _).mono ?_;rintro e w1 ⟨rfl, b1⟩;replace B := zAa B b1;clear b1 X;generalize zBe c s y l = q at hcb hc ⊢;go_wp2;go_ret
  exact ⟨rfl, B⟩
theorem zM4 (x : OpD) (w : World) :
    Calls Tryz.prog 247 #[.agg #[.int .i64 x.1, .int .i64 x.2.1, .int .i64 x.2.2.1, .int .i64 x.2.2.2]] w fun e w' => e = .returned (.bool (!zB2 x)) ∧ Below w.heap.size w w' := by
 have B := zAf w (.cells #[.int .i64 x.1, .int .i64 x.2.1, .int .i64 x.2.2.1, .int .i64 x.2.2.2] 121);have a : Hid (∀ W, Calls Tryz.prog 232 #[.agg #[.int .i64 x.1, .int .i64 x.2.1, .int .i64 x.2.2.1, .int .i64 x.2.2.2]] W fun e w' => e = .returned (.bool (zB2 x)) ∧ Below W.heap.size W w') := fun W => zEw x.1 x.2.1 x.2.2.1 x.2.2.2 W;generalize zB2 x = q at a ⊢;go_enter Tryz.func247, Tryz.ntmps247;go_wp2_with fail
 generalize w.alloc (.cells #[.int .i64 x.1, .int .i64 x.2.1, .int .i64 x.2.2.1, .int .i64 x.2.2.2] 121) = W0 at B ⊢;refine (a.out _).mono ?_;rintro e w1 ⟨rfl, b⟩;go_wp2;go_ret
 exact ⟨rfl, zAa B b⟩
theorem zIk (a : Option Addr) (xs : List OpD) (cap : Nat) (w : World) (h : zA4 opR w a xs) (hm : xs.length ≤ maxLen) :
    Calls Tryz.prog 270 #[.slice a xs.length cap, .func (.func 247) #[] #[]] w fun e w' => e = .returned (.int .i64 (zDW zB2 xs)) ∧ Below w.heap.size w w' := by
 have B : xs.length ≤ 9223372036854775807 := hm;have C : Hid (∀ W, Below w.heap.size w W → zA4 opR W a xs) := fun W f => zAq h fun k s => f.block k s;clear h hm;go_enter Tryz.func270, Tryz.ntmps270;go_wp2;go_loopw [8] (fun i wr => ∃ k : Nat, k ≤ xs.length ∧ i = .int .i64 k ∧ (∀ j v, j < k → xs[j]? = some v → zB2 v = true) ∧ Below w.heap.size w wr) (fun i _ => xs.length - (intOf i).toNat)
 case atStart => exact ⟨0, Nat.zero_le _, rfl, fun j v hj => by omega, Below.refl _ _⟩
 case round =>
  obtain ⟨k, s, rfl, d, c⟩ := hrel;by_cases m : k < xs.length
  ·have p : (k : Int) < (xs.length : Int) := by omega
   obtain ⟨x, o⟩ : ∃ x, xs[k]? = some x := ⟨_, List.getElem?_eq_getElem m⟩;obtain ⟨b, F, rfl, y, r, A, z, -⟩ := zHi (C.out _ c) o;have l := zM4 x wr;have q : Hid (xs[k]? = some x) := o;clear o;cases f : zB2 x
   ·have n : Hid (zDW zB2 xs = k) := zEu q.out f d;rw [f] at l;go_wp2_with fail
    refine l.mono ?_;rintro e E ⟨rfl, g⟩;replace c := zAa c g;clear g y r A z;go_wp2;go_ret
    exact ⟨zAx n.out.symm, c⟩
   ·rw [f] at l;go_wp2_with fail
    refine l.mono ?_;rintro e E ⟨rfl, g⟩;replace c := zAa c g;clear g y r A z;go_wp2;go_roundw
    case rel =>
     refine ⟨k + 1, by omega, by go_num, fun j v hj hv => ?_, c⟩;by_cases D : j < k
     ·exact d j v D hv
     ·have : j = k := by omega
      subst this;rw [q.out] at hv;cases hv;exact f
    case measure => simp [intOf]; omega
  ·have n : Hid (zDW zB2 xs = -1) := zDT fun j v hv => d j v (by have := (List.getElem?_eq_some_iff.1 hv).1; omega) hv;go_wp2;go_ret
   exact ⟨zAx n.out.symm, c⟩
theorem zGa (a : Option Addr) (xs : List OpD) (cap : Nat) (w : World) (h : zA4 opR w a xs) (hm : xs.length ≤ maxLen) :
    Calls Tryz.prog 246 #[.slice a xs.length cap, .func (.func 247) #[] #[]] w fun e w' => e = .returned (.bool (!xs.all zB2)) ∧ Below w.heap.size w w' := by
 have d := zIk a xs cap w h hm;have b := zD8 zB2 xs;clear h hm;generalize zDW zB2 xs = q at d b;generalize xs.all zB2 = y at b ⊢;subst b;by_cases g : q < 0
 ·have f : ¬ (0 ≤ q) := by omega
  go_enter Tryz.func246, Tryz.ntmps246;go_wp2_with fail
  refine d.mono ?_;rintro e i ⟨rfl, c⟩;go_wp2;go_ret
  exact ⟨by simp [g], c⟩
 ·have f : 0 ≤ q := by omega
  go_enter Tryz.func246, Tryz.ntmps246;go_wp2_with fail
  refine d.mono ?_;rintro e i ⟨rfl, c⟩;go_wp2;go_ret
  exact ⟨by simp [g], c⟩
def zM5 (xs : List OpD) : Bool := decide (xs.length ≤ 30) && xs.all zB2
theorem zIl (a : Option Addr) (xs : List OpD) (cap : Nat) (w : World) (h : zA4 opR w a xs) (hm : xs.length ≤ maxLen) :
    Calls Tryz.prog 213 #[.slice a xs.length cap] w fun e w' => e = .returned (.bool (zM5 xs)) ∧ Below w.heap.size w w' := by
 have c := zGa a xs cap w h hm;have d : xs.length ≤ 9223372036854775807 := hm;unfold zM5;generalize xs.all zB2 = y at c ⊢;clear h hm;by_cases g : xs.length ≤ 30
 ·have b : (xs.length : Int) ≤ 30 := by omega
  go_enter Tryz.func213, Tryz.ntmps213;go_wp2_with fail
  refine c.mono ?_;rintro e w1 ⟨rfl, f⟩;go_wp2;go_ret
  exact ⟨by simp [g], f⟩
 ·have b : ¬ ((xs.length : Int) ≤ 30) := by omega
  go_enter Tryz.func213, Tryz.ntmps213;go_wp2;go_ret
  exact ⟨by simp, Below.refl _ _⟩
open Go.ChangeShapes Go.WideShapes Go.ChangeAt Go.RowKit Go.Shelf
def zD0 (c : zA7) (line : Int) : Int × Int × Bool := if zA8 line 0 15 then (line % (c.1.length : Int), zDt (zB1 c line) line, zDt (zB1 c line) line != -1) else (0, 0, false)
theorem zFQ {c : zA7} (h : OkC isL zAH c) (line : Int) : zN6 c.1.length ∧ c.1[zCN c line]? = some (zB1 c line) ∧ zB1 c line ≠ [] ∧ (zB1 c line).length ≤ 4 ∧ ((zCN c line : Nat) : Int) = line % (c.1.length : Int) ∧ zCN c line < c.1.length := by
 obtain ⟨a, h2, m, f, g⟩ := h;have b := zH7 (line := line) a;have d := (g _ _ b).1;refine ⟨a, b, fun e => ?_, ?_, zH6 a, zLs a⟩
 ·rw [e] at d;simp at d
  have := zDP f;omega
 ·rcases f with rfl | rfl | rfl <;> omega
theorem putTwo {w : World} {g : Nat} {x y a b : Value} {t : TypeId} (h : w.heap[g]? = some (.cells #[x, y] t (0, 0))) :
    ((w.setCell ⟨g, 0, none⟩ a).setCell ⟨g, 1, none⟩ b).heap[g]? = some (.cells #[a, b] t (0, 0)) :=
 heap_setCell_same _ g 1 _ t b (heap_setCell_same w g 0 _ t a h)
theorem zFR (a b : Option Addr) (c : zA7) (cap cp : Nat) (line : Int) (w : World) (hok : OkC isL zAH c) (h1 : zA4 zBh w a c.1) :
    Calls Tryz.prog 196 #[.agg #[.slice a c.1.length cap, .slice b c.2.length cp], .int .i64 line] w fun e o => e = .returned (.tuple #[.agg #[.int .i64 (zD0 c line).1, .int .i64 (zD0 c line).2.1], .bool (zD0 c line).2.2]) ∧ Below w.heap.size w o := by
 obtain ⟨O, g, y, H, f, D⟩ := zFQ hok line;obtain ⟨l, m, G, C, rfl, d, -, -, n⟩ := zDV h1 g;cases q : zA8 line 0 15
 ·have r : Hid (zD0 c line = (0, 0, false)) := by unfold Hid zD0; simp [q]
  clear d n h1 g;go_enter Tryz.func196, Tryz.ntmps196;go_wp2_with (go_at_call 229; refine (zBD _ _).mono ?_; rintro e o ⟨rfl, rfl⟩; rw [q])
  have Y := zAn (w.alloc (.cells #[.slice (some ⟨l, m, none⟩) c.1.length cap, .slice b c.2.length cp] 92)) (.cells #[.int .i64 0, .int .i64 0] 217);rw [zAv] at Y;obtain ⟨I, J⟩ := zAK Y;refine bodyPost_ret (v := .tuple #[.agg #[.int .i64 0, .int .i64 0], .bool false]) (by simp [results, Tryz.results196, go_sem]) rfl ⟨by rw [r.out], zAa (zAf w _) (zAf _ _)⟩
 ·have F : 0 ≤ line := by simp [zA8] at q; omega
  have r : Hid (zD0 c line = (((zCN c line : Nat) : Int), zDt (zB1 c line) line, zDt (zB1 c line) line != -1)) := by unfold Hid zD0; rw [if_pos q, f]
  have E : Hid (∀ W, Calls Tryz.prog 236 #[.agg #[.slice (some ⟨l, m, none⟩) c.1.length cap, .slice b c.2.length cp], .int .i64 line] W fun e o => e = .returned (.int .i64 ((zCN c line : Nat) : Int)) ∧ Below W.heap.size W o) := fun W => by
   have := zJd (some ⟨l, m, none⟩) c.1.length cap (.slice b c.2.length cp) _ _ _ rfl line W O F;rwa [← f] at this
  have i : Hid (∀ W, Below w.heap.size w W → Calls Tryz.prog 237 #[.slice G (zB1 c line).length C, .int .i64 line] W fun e o => e = .returned (.int .i64 (zDt (zB1 c line) line)) ∧ Below W.heap.size W o) := fun W hbw =>
   zHU G _ C line W (zAq n fun k hk => hbw.block k hk) y (by omega)
  have s : ((zCN c line : Nat) : Int) < (c.1.length : Int) := by omega
  have z : Hid (∀ W, Below w.heap.size w W → W.cell? ⟨l, m + zCN c line, none⟩ = some (.slice G (zB1 c line).length C)) := fun W hbw => zAe hbw d (zAk d);clear d n h1 g y H f hok;generalize zCN c line = sn at r E D s z;generalize (zB1 c line).length = rn at i z;generalize zDt (zB1 c line) line = fi at r i;have X := zA3 (.cells #[.int .i64 0, .int .i64 0] 217) (zAn w (.cells #[.slice (some ⟨l, m, none⟩) c.1.length cap, .slice b c.2.length cp] 92));have Y := zAn (w.alloc (.cells #[.slice (some ⟨l, m, none⟩) c.1.length cap, .slice b c.2.length cp] 92)) (.cells #[.int .i64 0, .int .i64 0] 217);rw [zAv] at Y;have B := zAa (zAf w (.cells #[.slice (some ⟨l, m, none⟩) c.1.length cap, .slice b c.2.length cp] 92)) (zAf _ (.cells #[.int .i64 0, .int .i64 0] 217));go_enter Tryz.func196, Tryz.ntmps196;go_wp2_with (go_at_call 229; refine (zBD _ _).mono ?_; rintro e o ⟨rfl, rfl⟩; rw [q])
  generalize (w.alloc (.cells #[.slice (some ⟨l, m, none⟩) c.1.length cap, .slice b c.2.length cp] 92)).alloc (.cells #[.int .i64 0, .int .i64 0] 217) = W0 at X Y B ⊢;refine (E.out _).mono ?_;rintro e w1 ⟨rfl, j⟩;replace B := zAa B j;replace X := zAb j X;replace Y := zAb j Y;obtain ⟨M, L⟩ := zAK X;have K := z.out _ B;clear j;go_wp2_with fail
  refine (i.out _ B).mono ?_;rintro e A ⟨rfl, j⟩;replace B := zAa B j;replace Y := zAb j Y;obtain ⟨y0, y1⟩ := zAK Y;obtain ⟨f0, f1⟩ : A.frozen? ⟨w.heap.size + 1, 0, none⟩ = false ∧ A.frozen? ⟨w.heap.size + 1, 1, none⟩ = false := ⟨frozen_of_row A _ 0 _ _ Y, frozen_of_row A _ 1 _ _ Y⟩;have N : Hid _ := Y;clear j K M L X Y E i z;go_wp2;have Z := putTwo (a := .int .i64 (sn : Int)) (b := .int .i64 fi) N.out;obtain ⟨I, J⟩ := zAK Z;refine bodyPost_ret (v := .tuple #[.agg #[.int .i64 (sn : Int), .int .i64 fi], .bool (fi != -1)]) (by simp [results, Tryz.results196, go_sem, I, J]) rfl ⟨by rw [r.out], (B.setCell (p := ⟨w.heap.size + 1, 0, none⟩) (by simp) _).setCell (p := ⟨w.heap.size + 1, 1, none⟩) (by simp) _⟩
def zM6 (o : Option Nat) : Int := match o with
 | some i => (i : Int)
 | none => -1
theorem zOx (row : List zC3) (line : Int) : zDt row line = zM6 (row.findIdx? fun u => u.1 == line) := by
 unfold zDt zM6;cases row.findIdx? fun u => u.1 == line <;> rfl
theorem idxI_neg (o : Option Nat) : (zM6 o != -1) = o.isSome := by
 cases o with
 | none => rfl
 | some i =>
  have : ((i : Int) != -1) = true := by simp
  exact this
theorem at_first {c : zA7} {line : Int} (h0 : 0 ≤ line) : zDt (zB1 c line) line = zM6 (atC c line) := by
 rw [zOx];unfold atC;rw [if_neg (by omega)]
theorem at_out {c : zA7} (h : OkC isL zAH c) {line : Int} (hl : zA8 line 0 15 = false) : atC c line = none := by
 cases j : atC c line with
 | none => rfl
 | some i =>
  obtain ⟨h0, u, g, a⟩ := zER j;obtain ⟨f, h2, m, hm, d⟩ := h;rcases (d _ _ (zH7 (line := line) f)).2.2.1 i u g with k | ⟨b, _⟩
  ·rw [zE6 k] at a;simp [zB0] at a
   omega
  ·have := zFl b;simp [zA8] at hl
   omega
theorem zIm {c : zA7} (h : OkC isL zAH c) {line : Int} : zD0 c line = if zA8 line 0 15 then (((zCN c line : Nat) : Int), zM6 (atC c line), (atC c line).isSome) else (0, 0, false) := by
 unfold zD0;split
 ·rename_i hb
  have a : 0 ≤ line := by simp [zA8] at hb; omega
  rw [at_first a, idxI_neg, zH6 h.1]
 ·rfl
theorem go_in {t n : Int} (h : zAH t n = true) : 0 ≤ goI t n ∧ goI t n < n ∧ viI t n = goI t n := by
 refine ⟨?_, ?_, by unfold viI; rw [if_pos h]⟩
 all_goals
  simp only [zAH, decide_eq_true_eq] at h;unfold goI;rcases h with ⟨rfl, rfl⟩ | ⟨rfl, b, a⟩ | ⟨rfl, b, a⟩
  ·simp
  ·simp
   omega
  ·have c : t = 0 ∨ t = 1 ∨ t = 2 ∨ t = 3 ∨ t = 4 ∨ t = 5 ∨ t = 6 ∨ t = 7 := by omega
   rcases c with rfl | rfl | rfl | rfl | rfl | rfl | rfl | rfl <;> decide
theorem zOy {p : zC3 → Bool} {row : List zC3} {k : Nat} {u : zC3} (hu : row[k]? = some u) (hp : p u = true) (hno : ∀ j v, j < k → row[j]? = some v → p v = false) : row.findIdx? p = some k := by
 have a := (List.getElem?_eq_some_iff.1 hu).1;rw [List.findIdx?_eq_some_iff_getElem];refine ⟨a, ?_, fun j hj => ?_⟩
 ·rw [List.getElem?_eq_getElem a] at hu;cases hu;exact hp
 ·simpa using hno j _ hj (List.getElem?_eq_getElem (by omega))
theorem zOz {p : zC3 → Bool} {row : List zC3} (hno : ∀ (j : Nat) (v : zC3), row[j]? = some v → p v = false) : row.findIdx? p = none := by
 rw [List.findIdx?_eq_none_iff];intro u b;obtain ⟨j, a⟩ := List.mem_iff_getElem?.1 b;simpa using hno j u a
theorem zFB (a b : Option Addr) (c : zA7) (cap cp : Nat) (line : Int) (w : World) (hok : OkC isL zAH c) (h1 : zA4 zBh w a c.1) :
    Calls Tryz.prog 150 #[.agg #[.slice a c.1.length cap, .slice b c.2.length cp], .int .i64 line] w fun e w' => e = .returned (.int .i64 (zM6 (atC c line))) ∧ Below w.heap.size w w' := by
 have X := zAn w (.cells #[.slice a c.1.length cap, .slice b c.2.length cp] 92);have B := zAf w (.cells #[.slice a c.1.length cap, .slice b c.2.length cp] 92);by_cases o : line < 0
 ·have T : Hid (zM6 (atC c line) = -1) := by unfold Hid atC; rw [if_pos o]; rfl
  go_enter Tryz.func150, Tryz.ntmps150;go_wp2;go_ret
  exact ⟨zAx T.out.symm, B⟩
 ·have Y : 0 ≤ line := by omega
  have H : Hid (atC c line = (zB1 c line).findIdx? fun u => u.1 == line) := by unfold Hid atC; rw [if_neg o]
  obtain ⟨hp, p, I, K, n, D⟩ := zFQ hok line;obtain ⟨Z, o0, aj, cj, rfl, f, -, -, g⟩ := zDV h1 p;have hz : (c.1.length : Int) ≠ 0 := by omega
  have z : ((zCN c line : Nat) : Int) < (c.1.length : Int) := by omega
  have q : line % (c.1.length : Int) = ((zCN c line : Nat) : Int) := n.symm;have A := zAe B f (zAk f);have y : Hid (zA4 zBu w aj (zB1 c line)) := g;clear f g h1 p n hok I;obtain ⟨S, N⟩ := zAK X;generalize zCN c line = sn at D z q A;generalize zB1 c line = row at K A y H;go_enter Tryz.func150, Tryz.ntmps150;go_wp2_with fail
  generalize w.alloc (.cells #[.slice (some ⟨Z, o0, none⟩) c.1.length cap, .slice b c.2.length cp] 92) = W0 at X B S N A ⊢;go_quiet (fail)
  have G := zHQ B nq;clear S N A X B;go_wp2;go_loop [6] (fun i => ∃ k : Nat, k ≤ row.length ∧ i = .int .i64 k ∧ ∀ j v, j < k → row[j]? = some v → (v.1 == line) = false) (fun i => row.length - (intOf i).toNat)
  case atStart => exact ⟨0, Nat.zero_le _, rfl, fun j v hj => by omega⟩
  case round =>
   obtain ⟨k, O, rfl, r⟩ := hrel;by_cases C : k < row.length
   ·have s : (k : Int) < (row.length : Int) := by omega
    obtain ⟨u, E⟩ : ∃ u, row[k]? = some u := ⟨_, List.getElem?_eq_getElem C⟩;obtain ⟨bk, M, cs, rfl, g, f⟩ := zAy (zAq y.out fun k O => G.block k O) E;obtain ⟨ad, U, rfl, -, -, -, -, -⟩ := zBz g;have L := f 0 _ rfl;rw [show M + (k * zBu.size + 0) = M + k * 3 from rfl] at L;have R : Hid (row[k]? = some u) := E;obtain ⟨l, st, d⟩ := u;simp only at L
    clear f g E;by_cases J : l = line
    ·have m : Hid (zM6 (atC c line) = k) := by unfold Hid; rw [H.out, zOy R.out (by simp [J]) r]; rfl
     subst J;go_wp2;go_ret
     exact ⟨zAx m.out.symm, G⟩
    ·have F : (l == line) = false := by simpa using J
     go_wp2;go_round
     case rel =>
      refine ⟨k + 1, by omega, by go_num, fun j v hj hv => ?_⟩;by_cases V : j < k
      ·exact r j v V hv
      ·have : j = k := by omega
       subst this;rw [R.out] at hv;cases hv;exact F
     case measure => simp [intOf]; omega
   ·have m : Hid (zM6 (atC c line) = -1) := by
      unfold Hid;rw [H.out, zOz fun j v hv => r j v (by have := (List.getElem?_eq_some_iff.1 hv).1; omega) hv];rfl
    have s : ¬ (k : Int) < (row.length : Int) := by omega
    go_wp2;go_ret
    exact ⟨zAx m.out.symm, G⟩
end Go.Proofs.YtcocbafhcpdheaaGreatDoor
