import Derived.Test.YtcocbafhcpdheaaGreatDoorT00Box
import Derived.Test.YtcocbafhcpdheaaGreatDoorT30
import Derived.Test.YtcocbafhcpdheaaGreatDoorT25
namespace Go.Proofs.YtcocbafhcpdheaaGreatDoor
set_option maxHeartbeats 4000000
set_option maxRecDepth 20000
open Go.ChangeShapes Go.WideShapes Go.ChangeAt Go.RowKit
set_option linter.unusedVariables false
theorem zLA (w : World) (o : Obj) : (w.alloc o).heap.size = w.heap.size + 1 := by simp
def oneV (ok ad : Bool) (q : Int) : Value := if ok then (if ad then .nilIface else refV 4) else refV q
def FltV (v : Value) (q : Int) : Prop := (q = 0 ∧ v = .nilIface) ∨ (q ≠ 0 ∧ ErrV v q)
theorem addr_hw {k a x y : Int} (h : opB k a x y = true) : 0 ≤ a → wrap64 (a.tdiv 2) = a / 2 := by
 intro h0;have := op_addr (u := (k, a, x, y)) h;replace this : 0 ≤ a ∧ a ≤ 31 := this;rw [tdiv_two h0];unfold wrap64;omega
def adB (c s y l : Int) (u : OpD) : Bool := zFY c s y l u.2.1
def lnB (c s y l : Int) (u : zBU) : Bool := zEr c s y l u.2.1
theorem ad_eq {c s y l : Int} (h : zBe c s y l = 0) : adB c s y l = zJ1 l := by
 funext u
 unfold adB zFY zJ1;rw [h, Bool.eq_iff_iff];simp [zA8]
 omega
theorem ln_eq {c s y l : Int} (h : zBe c s y l = 0) : lnB c s y l = zFy l := by
 funext u
 unfold lnB zEr zFy;rw [h, Bool.eq_iff_iff];simp [zA8]
 omega
def zKF {α : Type} (xs : List α) (ok ad : α → Bool) (k : Nat) (v : Value) : Prop := (xs.take k).all ok = true ∧ ((v = .nilIface ∧ (xs.take k).all ad = true) ∨ ∃ m : Int, v = fltV m 4 ∧ xs.all ad = false)
theorem zLB {α : Type} {xs : List α} {ok ad : α → Bool} {v : Value} (q : Int) (h : zKF xs ok ad xs.length v) : FltV v (zEE (xs.all ok) (xs.all ad) q) := by
 obtain ⟨h1, h2⟩ := h;rw [List.take_length] at h1 h2;rw [h1];rcases h2 with ⟨rfl, h2⟩ | ⟨m, rfl, h2⟩
 ·rw [h2]; exact .inl ⟨rfl, rfl⟩
 ·rw [h2]; exact .inr ⟨by simp [zEE], .inr ⟨m, by simp [zEE]⟩⟩
theorem zLC {α : Type} {xs : List α} {ok ad : α → Bool} {k : Nat} {v : Value} {x : α} (h : zKF xs ok ad k v) (hx : xs[k]? = some x) (h1 : ok x = true) (h2 : ad x = true) : zKF xs ok ad (k + 1) v := by
 refine ⟨zCZ h.1 hx h1, ?_⟩;rcases h.2 with ⟨e, h3⟩ | h3
 ·exact .inl ⟨e, zCZ h3 hx h2⟩
 ·exact .inr h3
theorem zLD {α : Type} {xs : List α} {ok ad : α → Bool} {k : Nat} {v : Value} {x : α} (m : Int) (h : zKF xs ok ad k v) (hx : xs[k]? = some x) (h1 : ok x = true) (h2 : ad x = false) : zKF xs ok ad (k + 1) (fltV m 4) :=
 ⟨zCZ h.1 hx h1, .inr ⟨m, rfl, zBZ hx h2⟩⟩
theorem zO3 {α : Type} {xs : List α} {ok ad : α → Bool} {k : Nat} {x : α} (m q : Int) (hq : q ≠ 0) (hx : xs[k]? = some x) (h1 : ok x = false) : FltV (fltV m q) (zEE (xs.all ok) (xs.all ad) q) := by
 rw [zBZ hx h1];exact .inr ⟨by simpa [zEE] using hq, .inr ⟨m, by simp [zEE]⟩⟩
theorem zEJ (v : Value) (q : Int) (hv : FltV v q) (w : World) (hh : Hold w) : Calls Tryz.prog 183 #[v] w fun e w' => e = .returned (.int .i64 q) ∧ Below w.heap.size w w' := by
 rcases hv with ⟨rfl, rfl⟩ | ⟨_, hv⟩
 ·exact zHt w
 ·exact zHs v q hv w hh
theorem zEK (p : Bool) (q m : Int) (d : List Int) (a : Option Addr) (cap : Nat) (w : World) (h : zA4 zAG w a d) :
    Calls Tryz.prog 222 #[.agg #[.bool p, .int .i64 q, .int .i64 m, .slice a d.length cap]] w fun e w' => e = .returned (.bool (zBn (p, q, m, d))) ∧ Below w.heap.size w w' := by
 have HB : Hid _ := zAf w;have HL : Hid (∀ W, Below w.heap.size w W → Calls Tryz.prog 224 #[.slice a d.length cap] W fun e w' => e = .returned (.bool (isL d)) ∧ Below w.heap.size w w') := fun W hb => (zBK a d cap W (zBv (zAm h hb))).mono fun e w' ⟨h1, h2⟩ => ⟨h1, zAa hb h2⟩;clear h;cases p
 ·by_cases hm : m = 0
  ·subst hm;by_cases h9 : d.length = 0
   ·have hz5 : d = [] := List.eq_nil_of_length_eq_zero h9;subst hz5;go_enter Tryz.func222, Tryz.ntmps222;go_wp2_with fail
    go_ret
    exact ⟨rfl, HB.out _⟩
   ·have hz : ¬ ((d.length : Int) = 0) := by omega
    have hz2 : ((d.length : Int) == 0) = false := beq_false_of_ne hz;have HV : Hid (zBn (false, q, 0, d) = false) := by unfold Hid zBn; simp [h9]
    rw [HV.out];go_enter Tryz.func222, Tryz.ntmps222;go_wp2_with fail
    go_ret
    exact ⟨rfl, HB.out _⟩
  ·have hmb : (m == 0) = false := beq_false_of_ne hm;have HV : Hid (zBn (false, q, m, d) = false) := by unfold Hid zBn; simp [hm]
   rw [HV.out];go_enter Tryz.func222, Tryz.ntmps222;go_wp2_with fail
   go_ret
   exact ⟨rfl, HB.out _⟩
 ·cases hb : zA8 m 1 3
  ·have HV : Hid (zBn (true, q, m, d) = false) := by unfold Hid zBn; simp [hb]
   rw [HV.out];go_enter Tryz.func222, Tryz.ntmps222;go_wp2_with (go_at_call 76; refine (zAw _ _ _ _).mono ?_; rintro e w' ⟨rfl, rfl⟩; rw [hb])
   go_ret
   exact ⟨rfl, HB.out _⟩
  ·have HV : Hid (zBn (true, q, m, d) = isL d) := by unfold Hid zBn; simp [hb]
   rw [HV.out];go_enter Tryz.func222, Tryz.ntmps222;go_wp2_with (first | (go_at_call 76; refine (zAw _ _ _ _).mono ?_; rintro e w' ⟨rfl, rfl⟩; rw [hb]) | (go_at_call 224; refine (HL.out _ (HB.out _)).mono ?_; rintro e w2 ⟨rfl, b2⟩))
   go_ret
   exact ⟨rfl, b2⟩
theorem zGK (c s y l k a x z : Int) (w : World) :
    Calls Tryz.prog 217 #[.agg #[.int .i64 c, .int .i64 s, .int .i64 y, .int .i64 l], .agg #[.int .i64 k, .int .i64 a, .int .i64 x, .int .i64 z]] w fun e w' => e = .returned (oneV (opB k a x z) (zFY c s y l a) 3) ∧ Below w.heap.size w w' := by
 have X1 := zA3 (.cells #[.int .i64 k, .int .i64 a, .int .i64 x, .int .i64 z] 121) (zAn w (.cells #[.int .i64 c, .int .i64 s, .int .i64 y, .int .i64 l] 39));have X2 := zAn (w.alloc (.cells #[.int .i64 c, .int .i64 s, .int .i64 y, .int .i64 l] 39)) (.cells #[.int .i64 k, .int .i64 a, .int .i64 x, .int .i64 z] 121);rw [zLA] at X2;have B := zAa (zAf w (.cells #[.int .i64 c, .int .i64 s, .int .i64 y, .int .i64 l] 39)) (zAf (w.alloc (.cells #[.int .i64 c, .int .i64 s, .int .i64 y, .int .i64 l] 39)) (.cells #[.int .i64 k, .int .i64 a, .int .i64 x, .int .i64 z] 121));go_enter Tryz.func217, Tryz.ntmps217;go_wp2_with fail
 generalize (w.alloc (.cells #[.int .i64 c, .int .i64 s, .int .i64 y, .int .i64 l] 39)).alloc (.cells #[.int .i64 k, .int .i64 a, .int .i64 x, .int .i64 z] 121) = W0 at X1 X2 B ⊢;refine (zEw _ _ _ _ _).mono ?_;rintro e w1 ⟨rfl, b1⟩;cases h1 : opB k a x z
 ·have HE : Hid (Below w.heap.size w w1) := zAa B b1;clear X1 X2 B b1;go_wp2;go_ret
  exact ⟨by rw [h1]; rfl, HE.out⟩
 ·obtain ⟨p0, p1, p2, p3⟩ := zA5 (zAb b1 X1);obtain ⟨q0, q1, q2, q3⟩ := zA5 (zAb b1 X2);have HE : Hid (Below w.heap.size w w1) := zAa B b1;clear X1 X2 B b1;have hw := addr_hw h1;cases h2 : zFY c s y l a
  ·go_wp2_with (go_at_call 252; refine (zGE _ _ _ _ _ _ hw).mono ?_; rintro e w2 ⟨rfl, bb⟩; rw [h2])
   go_ret
   exact ⟨by rw [h1, h2]; rfl, zAa HE.out bb⟩
  ·go_wp2_with (go_at_call 252; refine (zGE _ _ _ _ _ _ hw).mono ?_; rintro e w2 ⟨rfl, bb⟩; rw [h2])
   go_ret
   exact ⟨by rw [h1, h2]; rfl, zAa HE.out bb⟩
theorem zGL (c s y l : Int) (a : Option Addr) (xs : List OpD) (cap : Nat) (w : World) (h : zA4 opR w a xs) (hm : xs.length ≤ 30) :
    Calls Tryz.prog 251 #[.agg #[.int .i64 c, .int .i64 s, .int .i64 y, .int .i64 l], .slice a xs.length cap, (.func (.func 217) #[] #[])] w fun e w' => ∃ v, e = .returned v ∧ FltV v (zEE (xs.all zB2) (xs.all (adB c s y l)) 3) ∧ Below w.heap.size w w' := by
 have HS : Hid (∀ W, Below w.heap.size w W → zA4 opR W a xs) := fun W hb => zAm h hb;clear h;go_enter Tryz.func251, Tryz.ntmps251;go_wp2;generalize hW0 : w.alloc _ = W0;have X := boxH hW0;have B := boxB hW0;clear hW0;go_loopw [7, 13] (fun v i wr => ∃ k : Nat, k ≤ xs.length ∧ i = .int .i64 k ∧ zKF xs zB2 (adB c s y l) k v ∧ Below W0.heap.size W0 wr) (fun _ i _ => xs.length - (intOf i).toNat)
 case atStart => exact ⟨0, Nat.zero_le _, rfl, ⟨rfl, .inl ⟨rfl, rfl⟩⟩, Below.refl _ _⟩
 case round =>
  obtain ⟨k, hk, rfl, KI, BB⟩ := hrel;have HK : Hid _ := KI;clear KI;by_cases hlt : k < xs.length
  ·have hlt' : (k : Int) < (xs.length : Int) := by omega
   obtain ⟨x, hx⟩ : ∃ x, xs[k]? = some x := ⟨_, List.getElem?_eq_getElem hlt⟩;obtain ⟨b, off, rfl, x0, x1, x2, x3, -⟩ := zHi (HS.out _ (zAa B BB)) hx;have HX : Hid _ := hx;clear hx;have XR := zAb BB X;have hsr : w.heap.size < wr.heap.size := (ltH XR);obtain ⟨p0, p1, p2, p3⟩ := zA5 XR;have HBW : Hid (Below w.heap.size w wr) := zAa B BB;have HBX : Hid _ := And.intro X (And.intro B BB);clear XR X B BB;have bx := zAf wr (.cells #[.int .i64 x.1, .int .i64 x.2.1, .int .i64 x.2.2.1, .int .i64 x.2.2.2] 121);go_wp2_with fail
   refine (zGK c s y l x.1 x.2.1 x.2.2.1 x.2.2.2 _).mono ?_;rintro e w1 ⟨rfl, bb⟩;obtain ⟨X, B, BB⟩ := HBX.out;have BE := zAa BB (zAa bx bb);have BF := zAa B BE;have HBE : Hid _ := And.intro BE BF;clear x0 x1 x2 x3 p0 p1 p2 p3 hsr bx bb BE BF BB X B HBX HBW;cases h1 : zB2 x
   ·first | rw [show opB x.1 x.2.1 x.2.2.1 x.2.2.2 = _ from h1] | skip
    rw [show oneV false (zFY c s y l x.2.1) 3 = refV 3 from rfl];go_wp2_with (go_at_call 261; refine (zDO _ _ _ _).mono ?_; rintro e w2 ⟨rfl, b2⟩)
    go_ret
    exact ⟨_, rfl, zO3 _ 3 (by decide) HX.out h1, zAa HBE.out.2 b2⟩
   ·cases h2 : adB c s y l x
    ·first | rw [show opB x.1 x.2.1 x.2.2.1 x.2.2.2 = _ from h1] | skip
     rw [show zFY c s y l x.2.1 = _ from h2, show oneV true false 3 = refV 4 from rfl];go_wp2_with (go_at_call 261; refine (zDO _ _ _ _).mono ?_; rintro e w2 ⟨rfl, b2⟩)
     go_roundw
     case rel => exact ⟨k + 1, by omega, by go_num, zLD _ HK.out HX.out h1 h2, zAa HBE.out.1 b2⟩
     case measure => simp [intOf]; omega
    ·first | rw [show opB x.1 x.2.1 x.2.2.1 x.2.2.2 = _ from h1] | skip
     rw [show zFY c s y l x.2.1 = _ from h2, show oneV true true 3 = .nilIface from rfl];go_wp2;go_roundw
     case rel => exact ⟨k + 1, by omega, by go_num, zLC HK.out HX.out h1 h2, HBE.out.1⟩
     case measure => simp [intOf]; omega
  ·have hkl : k = xs.length := by omega
   subst hkl;have HBW : Hid (Below w.heap.size w wr) := zAa B BB;clear X B BB;go_wp2;go_ret
   exact ⟨_, rfl, zLB 3 HK.out, HBW.out⟩
theorem zFC (c s y l : Int) (a : Option Addr) (xs : List OpD) (cap : Nat) (w : World) (h : zA4 opR w a xs) (hm : xs.length ≤ maxLen) :
    Calls Tryz.prog 216 #[.agg #[.int .i64 c, .int .i64 s, .int .i64 y, .int .i64 l], .slice a xs.length cap, (.func (.func 217) #[] #[])] w fun e w' => ∃ v, e = .returned v ∧ FltV v (zDk c s y l xs) ∧ Below w.heap.size w w' := by
 have hm' : xs.length ≤ 9223372036854775807 := hm;have HS : Hid (∀ W, Below w.heap.size w W → zA4 opR W a xs) := fun W hb => zAm h hb;clear h hm;go_enter Tryz.func216, Tryz.ntmps216;go_wp2_with fail
 generalize hW0 : w.alloc _ = W0;have X := boxH hW0;have B := boxB hW0;clear hW0;refine (zDc _ _ _ _ _).mono ?_;rintro e w1 ⟨rfl, b1⟩;obtain ⟨p0, p1, p2, p3⟩ := zA5 (zAb b1 X);have HB : Hid (Below w.heap.size w w1) := zAa B b1;clear X B b1;by_cases hc : zBe c s y l = 0
 ·by_cases hn : xs.length ≤ 30
  ·have hn' : ¬ ((30 : Int) < (xs.length : Int)) := by omega
   have HV : Hid (zDk c s y l xs = zEE (xs.all zB2) (xs.all (adB c s y l)) 3) := by unfold Hid zDk zEE; rw [if_pos hc, if_pos hn, ad_eq hc]
   have HF := zGL c s y l a xs cap w1 (HS.out _ HB.out) hn;rw [hc];clear hc;go_wp2_with (go_at_call 251; refine HF.mono ?_; rintro e w2 ⟨v, rfl, hv, b2⟩)
   go_ret
   exact ⟨_, rfl, by rw [HV.out]; exact hv, zAa HB.out b2⟩
  ·have hn' : (30 : Int) < (xs.length : Int) := by omega
   have HV : Hid (zDk c s y l xs = 2) := by unfold Hid zDk; rw [if_pos hc, if_neg hn]
   rw [hc];clear hc;go_wp2;go_ret
   exact ⟨_, rfl, by rw [HV.out]; exact .inr ⟨by decide, .inl rfl⟩, HB.out⟩
 ·have hcb : (zBe c s y l != 0) = true := by simp [hc]
  have HV : Hid (zDk c s y l xs = 1) := by unfold Hid zDk; rw [if_neg hc]
  generalize zBe c s y l = z at hcb ⊢;clear hc;go_wp2;go_ret
  exact ⟨_, rfl, by rw [HV.out]; exact .inr ⟨by decide, .inl rfl⟩, HB.out⟩
theorem zFe (c s y l : Int) (a : Option Addr) (xs : List OpD) (cap : Nat) (w : World) (hh : Hold w) (h : zA4 opR w a xs) (hm : xs.length ≤ maxLen) :
    Calls Tryz.prog 173 #[.agg #[.int .i64 c, .int .i64 s, .int .i64 y, .int .i64 l], .slice a xs.length cap] w fun e w' => e = .returned (.int .i64 (zDk c s y l xs)) ∧ Below w.heap.size w w' := by
 have B := zAf w (.cells #[.int .i64 c, .int .i64 s, .int .i64 y, .int .i64 l] 39);have HF := zFC c s y l a xs cap (w.alloc (.cells #[.int .i64 c, .int .i64 s, .int .i64 y, .int .i64 l] 39)) (zAm h B) hm;have HH : Hid (∀ W, Below w.heap.size w W → Hold W) := fun W hb => hh.goes hb;clear h hm hh;generalize zDk c s y l xs = q at HF ⊢;go_enter Tryz.func173, Tryz.ntmps173;go_wp2_with fail
 refine HF.mono ?_;rintro e w1 ⟨v, rfl, hv, b1⟩;have B1 := zAa B b1;have HC := zEJ v q hv w1 (HH.out _ B1);clear hv HF;go_wp2_with (go_at_call 183; refine HC.mono ?_; rintro e w2 ⟨rfl, b2⟩)
 go_ret
 exact ⟨rfl, zAa B1 b2⟩
theorem zFD (c s y l : Int) (p : Bool) (q m : Int) (d : List Int) (a : Option Addr) (cap : Nat) (w : World) (h : zA4 zAG w a d) :
    Calls Tryz.prog 185 #[.agg #[.int .i64 c, .int .i64 s, .int .i64 y, .int .i64 l], .agg #[.bool p, .int .i64 q, .int .i64 m, .slice a d.length cap]] w fun e w' => e = .returned (oneV (zBn (p, q, m, d)) (zEr c s y l q) 5) ∧ Below w.heap.size w w' := by
 have X1 := zA3 (.cells #[.bool p, .int .i64 q, .int .i64 m, .slice a d.length cap] 165) (zAn w (.cells #[.int .i64 c, .int .i64 s, .int .i64 y, .int .i64 l] 39));have X2 := zAn (w.alloc (.cells #[.int .i64 c, .int .i64 s, .int .i64 y, .int .i64 l] 39)) (.cells #[.bool p, .int .i64 q, .int .i64 m, .slice a d.length cap] 165);rw [zLA] at X2;have B := zAa (zAf w (.cells #[.int .i64 c, .int .i64 s, .int .i64 y, .int .i64 l] 39)) (zAf (w.alloc (.cells #[.int .i64 c, .int .i64 s, .int .i64 y, .int .i64 l] 39)) (.cells #[.bool p, .int .i64 q, .int .i64 m, .slice a d.length cap] 165));have HK : Hid (Calls Tryz.prog 222 #[.agg #[.bool p, .int .i64 q, .int .i64 m, .slice a d.length cap]] ((w.alloc (.cells #[.int .i64 c, .int .i64 s, .int .i64 y, .int .i64 l] 39)).alloc (.cells #[.bool p, .int .i64 q, .int .i64 m, .slice a d.length cap] 165)) fun e w' => e = .returned (.bool (zBn (p, q, m, d))) ∧ Below ((w.alloc (.cells #[.int .i64 c, .int .i64 s, .int .i64 y, .int .i64 l] 39)).alloc (.cells #[.bool p, .int .i64 q, .int .i64 m, .slice a d.length cap] 165)).heap.size ((w.alloc (.cells #[.int .i64 c, .int .i64 s, .int .i64 y, .int .i64 l] 39)).alloc (.cells #[.bool p, .int .i64 q, .int .i64 m, .slice a d.length cap] 165)) w') := zEK p q m d a cap _ (zAm h B);clear h;go_enter Tryz.func185, Tryz.ntmps185;go_wp2_with fail
 generalize (w.alloc (.cells #[.int .i64 c, .int .i64 s, .int .i64 y, .int .i64 l] 39)).alloc (.cells #[.bool p, .int .i64 q, .int .i64 m, .slice a d.length cap] 165) = W0 at X1 X2 B HK ⊢;refine (HK.out).mono ?_;rintro e w1 ⟨rfl, b1⟩;cases h1 : zBn (p, q, m, d)
 ·have HE : Hid (Below w.heap.size w w1) := zAa B b1;clear X1 X2 B b1;go_wp2;go_ret
  exact ⟨by rw [h1]; rfl, HE.out⟩
 ·obtain ⟨p0, p1, p2, p3⟩ := zA5 (zAb b1 X1);obtain ⟨q0, q1, q2, q3⟩ := zA5 (zAb b1 X2);have HE : Hid (Below w.heap.size w w1) := zAa B b1;clear X1 X2 B b1;cases h2 : zEr c s y l q
  ·go_wp2_with (go_at_call 36; refine (zCR _ _ _ _ _ _).mono ?_; rintro e w2 ⟨rfl, bb⟩; rw [h2])
   go_ret
   exact ⟨by rw [h1, h2]; rfl, zAa HE.out bb⟩
  ·go_wp2_with (go_at_call 36; refine (zCR _ _ _ _ _ _).mono ?_; rintro e w2 ⟨rfl, bb⟩; rw [h2])
   go_ret
   exact ⟨by rw [h1, h2]; rfl, zAa HE.out bb⟩
theorem zFE (c s y l : Int) (a : Option Addr) (xs : List zBU) (cap : Nat) (w : World) (h : zA4 zAR w a xs) (hm : xs.length ≤ 30) :
    Calls Tryz.prog 226 #[.agg #[.int .i64 c, .int .i64 s, .int .i64 y, .int .i64 l], .slice a xs.length cap, (.func (.func 185) #[] #[])] w fun e w' => ∃ v, e = .returned v ∧ FltV v (zEE (xs.all zBn) (xs.all (lnB c s y l)) 5) ∧ Below w.heap.size w w' := by
 have HS : Hid (∀ W, Below w.heap.size w W → zA4 zAR W a xs) := fun W hb => zAm h hb;clear h;go_enter Tryz.func226, Tryz.ntmps226;go_wp2;generalize hW0 : w.alloc _ = W0;have X := boxH hW0;have B := boxB hW0;clear hW0;go_loopw [7, 13] (fun v i wr => ∃ k : Nat, k ≤ xs.length ∧ i = .int .i64 k ∧ zKF xs zBn (lnB c s y l) k v ∧ Below W0.heap.size W0 wr) (fun _ i _ => xs.length - (intOf i).toNat)
 case atStart => exact ⟨0, Nat.zero_le _, rfl, ⟨rfl, .inl ⟨rfl, rfl⟩⟩, Below.refl _ _⟩
 case round =>
  obtain ⟨k, hk, rfl, KI, BB⟩ := hrel;have HK : Hid _ := KI;clear KI;by_cases hlt : k < xs.length
  ·have hlt' : (k : Int) < (xs.length : Int) := by omega
   obtain ⟨x, hx⟩ : ∃ x, xs[k]? = some x := ⟨_, List.getElem?_eq_getElem hlt⟩;obtain ⟨b, off, cs, rfl, hrd, hcell⟩ := zAy (HS.out _ (zAa B BB)) hx;obtain ⟨ad, cpw, rfl, -, -, -, -, rd3⟩ := zEn hrd;have x0 := hcell 0 _ rfl;have x1 := hcell 1 _ rfl;have x2 := hcell 2 _ rfl;have x3 := hcell 3 _ rfl;rw [show off + (k * zAR.size + 0) = off + k * 4 from rfl] at x0;rw [show off + (k * zAR.size + 1) = off + k * 4 + 1 from rfl] at x1;rw [show off + (k * zAR.size + 2) = off + k * 4 + 2 from rfl] at x2;rw [show off + (k * zAR.size + 3) = off + k * 4 + 3 from rfl] at x3;clear hcell hrd;have HX : Hid _ := hx;clear hx;have XR := zAb BB X;have hsr : w.heap.size < wr.heap.size := (ltH XR);obtain ⟨p0, p1, p2, p3⟩ := zA5 XR;have HBW : Hid (Below w.heap.size w wr) := zAa B BB;have HBX : Hid _ := And.intro X (And.intro B BB);clear XR X B BB;have HRD : Hid (zA4 zAG (wr.alloc (.cells #[.bool x.1, .int .i64 x.2.1, .int .i64 x.2.2.1, .slice ad x.2.2.2.length cpw] 165)) ad x.2.2.2) := zAm rd3 (zAf wr (.cells #[.bool x.1, .int .i64 x.2.1, .int .i64 x.2.2.1, .slice ad x.2.2.2.length cpw] 165));clear rd3;have bx := zAf wr (.cells #[.bool x.1, .int .i64 x.2.1, .int .i64 x.2.2.1, .slice ad x.2.2.2.length cpw] 165);go_wp2_with fail
   refine (zFD c s y l x.1 x.2.1 x.2.2.1 x.2.2.2 ad cpw _ HRD.out).mono ?_;rintro e w1 ⟨rfl, bb⟩;obtain ⟨X, B, BB⟩ := HBX.out;have BE := zAa BB (zAa bx bb);have BF := zAa B BE;have HBE : Hid _ := And.intro BE BF;clear x0 x1 x2 x3 p0 p1 p2 p3 hsr bx bb BE BF BB X B HBX HBW;cases h1 : zBn x
   ·first | rw [show zBn (x.1, x.2.1, x.2.2.1, x.2.2.2) = _ from h1] | skip
    rw [show oneV false (zEr c s y l x.2.1) 5 = refV 5 from rfl];go_wp2_with (go_at_call 261; refine (zDO _ _ _ _).mono ?_; rintro e w2 ⟨rfl, b2⟩)
    go_ret
    exact ⟨_, rfl, zO3 _ 5 (by decide) HX.out h1, zAa HBE.out.2 b2⟩
   ·cases h2 : lnB c s y l x
    ·first | rw [show zBn (x.1, x.2.1, x.2.2.1, x.2.2.2) = _ from h1] | skip
     rw [show zEr c s y l x.2.1 = _ from h2, show oneV true false 5 = refV 4 from rfl];go_wp2_with (go_at_call 261; refine (zDO _ _ _ _).mono ?_; rintro e w2 ⟨rfl, b2⟩)
     go_roundw
     case rel => exact ⟨k + 1, by omega, by go_num, zLD _ HK.out HX.out h1 h2, zAa HBE.out.1 b2⟩
     case measure => simp [intOf]; omega
    ·first | rw [show zBn (x.1, x.2.1, x.2.2.1, x.2.2.2) = _ from h1] | skip
     rw [show zEr c s y l x.2.1 = _ from h2, show oneV true true 5 = .nilIface from rfl];go_wp2;go_roundw
     case rel => exact ⟨k + 1, by omega, by go_num, zLC HK.out HX.out h1 h2, HBE.out.1⟩
     case measure => simp [intOf]; omega
  ·have hkl : k = xs.length := by omega
   subst hkl;have HBW : Hid (Below w.heap.size w wr) := zAa B BB;clear X B BB;go_wp2;go_ret
   exact ⟨_, rfl, zLB 5 HK.out, HBW.out⟩
theorem zFf (c s y l : Int) (a : Option Addr) (xs : List zBU) (cap : Nat) (w : World) (h : zA4 zAR w a xs) (hm : xs.length ≤ maxLen) :
    Calls Tryz.prog 184 #[.agg #[.int .i64 c, .int .i64 s, .int .i64 y, .int .i64 l], .slice a xs.length cap, (.func (.func 185) #[] #[])] w fun e w' => ∃ v, e = .returned v ∧ FltV v (zDd c s y l xs) ∧ Below w.heap.size w w' := by
 have hm' : xs.length ≤ 9223372036854775807 := hm;have HS : Hid (∀ W, Below w.heap.size w W → zA4 zAR W a xs) := fun W hb => zAm h hb;clear h hm;go_enter Tryz.func184, Tryz.ntmps184;go_wp2_with fail
 generalize hW0 : w.alloc _ = W0;have X := boxH hW0;have B := boxB hW0;clear hW0;refine (zDc _ _ _ _ _).mono ?_;rintro e w1 ⟨rfl, b1⟩;obtain ⟨p0, p1, p2, p3⟩ := zA5 (zAb b1 X);have HB : Hid (Below w.heap.size w w1) := zAa B b1;clear X B b1;by_cases hc : zBe c s y l = 0
 ·by_cases hn : xs.length ≤ 30
  ·have hn' : ¬ ((30 : Int) < (xs.length : Int)) := by omega
   have HV : Hid (zDd c s y l xs = zEE (xs.all zBn) (xs.all (lnB c s y l)) 5) := by unfold Hid zDd zEE; rw [if_pos hc, if_pos hn, ln_eq hc]
   have HF := zFE c s y l a xs cap w1 (HS.out _ HB.out) hn;rw [hc];clear hc;go_wp2_with (go_at_call 226; refine HF.mono ?_; rintro e w2 ⟨v, rfl, hv, b2⟩)
   go_ret
   exact ⟨_, rfl, by rw [HV.out]; exact hv, zAa HB.out b2⟩
  ·have hn' : (30 : Int) < (xs.length : Int) := by omega
   have HV : Hid (zDd c s y l xs = 2) := by unfold Hid zDd; rw [if_pos hc, if_neg hn]
   rw [hc];clear hc;go_wp2;go_ret
   exact ⟨_, rfl, by rw [HV.out]; exact .inr ⟨by decide, .inl rfl⟩, HB.out⟩
 ·have hcb : (zBe c s y l != 0) = true := by simp [hc]
  have HV : Hid (zDd c s y l xs = 1) := by unfold Hid zDd; rw [if_neg hc]
  generalize zBe c s y l = z at hcb ⊢;clear hc;go_wp2;go_ret
  exact ⟨_, rfl, by rw [HV.out]; exact .inr ⟨by decide, .inl rfl⟩, HB.out⟩
theorem zGb (c s y l : Int) (a : Option Addr) (xs : List zBU) (cap : Nat) (w : World) (hh : Hold w) (h : zA4 zAR w a xs) (hm : xs.length ≤ maxLen) :
    Calls Tryz.prog 126 #[.agg #[.int .i64 c, .int .i64 s, .int .i64 y, .int .i64 l], .slice a xs.length cap] w fun e w' => e = .returned (.int .i64 (zDd c s y l xs)) ∧ Below w.heap.size w w' := by
 have B := zAf w (.cells #[.int .i64 c, .int .i64 s, .int .i64 y, .int .i64 l] 39);have HF := zFf c s y l a xs cap (w.alloc (.cells #[.int .i64 c, .int .i64 s, .int .i64 y, .int .i64 l] 39)) (zAm h B) hm;have HH : Hid (∀ W, Below w.heap.size w W → Hold W) := fun W hb => hh.goes hb;clear h hm hh;generalize zDd c s y l xs = q at HF ⊢;go_enter Tryz.func126, Tryz.ntmps126;go_wp2_with fail
 refine HF.mono ?_;rintro e w1 ⟨v, rfl, hv, b1⟩;have B1 := zAa B b1;have HC := zEJ v q hv w1 (HH.out _ B1);clear hv HF;go_wp2_with (go_at_call 183; refine HC.mono ?_; rintro e w2 ⟨rfl, b2⟩)
 go_ret
 exact ⟨rfl, zAa B1 b2⟩
noncomputable def zD1 (c s y l : Int) (x : zBi) : Bool := zCd x && (decide (zDk c s y l x.2.1 = 0) && (zDS s y l x.1 (zB8 x.1) && zDY l x.2.2.2.2.1))
theorem zIs {x : zBi} (h : zCd x = true) : OkC isL zAH x.1 := by
 unfold zCd at h;rw [Bool.and_eq_true] at h;exact zEQ.1 h.1
theorem zO4 {x : zA7} (h : OkC isL zAH x) : (x.1.length = 1 ∨ x.1.length = 2 ∨ x.1.length = 4) ∧ (zB8 x = 1 ∨ zB8 x = 2 ∨ zB8 x = 4) ∧ ∀ row ∈ x.1, row.length = zB8 x := by
 obtain ⟨f, h2, m, g, c⟩ := h;have b : x.1.length = 1 ∨ x.1.length = 2 ∨ x.1.length = 4 := f;have a : 0 < x.1.length := by omega
 have e : zB8 x = m := by
  unfold zB8;rw [List.getD_eq_getElem?_getD, List.getElem?_eq_getElem a];exact (c 0 _ (List.getElem?_eq_getElem a)).1
 refine ⟨b, by rw [e]; exact g, fun row hr => ?_⟩;obtain ⟨i, d⟩ := List.getElem?_of_mem hr;rw [e];exact (c i row d).1
theorem zMC (c s y l : Int) (cs : List Value) (x : zBi) (w : World) (hh : Hold w) (hc : zBe c s y l = 0) (h : zAB.rd w cs x) :
    Calls Tryz.prog 124 #[.agg #[.int .i64 c, .int .i64 s, .int .i64 y, .int .i64 l], zBq cs] w fun e w' => e = .returned (.bool (zD1 c s y l x)) ∧ Below w.heap.size w w' := by
 have z : Hid _ := fun (W : World) (hb : Below w.heap.size w W) => zJ4 cs x W (zAr h hb);obtain ⟨v0, v1, v2, v5, v6, v7, v8, rfl, D, r1, i2, i3, I, r5⟩ := zC7 h;obtain ⟨F, J, G, K, O, -, -, -, -, T, -⟩ := zBO D;simp only [List.cons.injEq, and_true] at O;obtain ⟨rfl, rfl⟩ := O;obtain ⟨a1, c1, H, p, n, o⟩ := r1;simp only [List.cons.injEq, and_true] at H;obtain rfl := H;obtain ⟨U, V, E, -⟩ := zBz I;simp only [List.cons.injEq, and_true] at E;obtain ⟨rfl, rfl, rfl⟩ := E;obtain ⟨a5, c5, R, -, -, -⟩ := r5;simp only [List.cons.injEq, and_true] at R;obtain rfl := R;have L : Hid _ := fun (W : World) (hb : Below w.heap.size w W) => zFe c s y l a1 x.2.1 c1 W (hh.goes hb) (zAm o hb) (Nat.le_trans p n);have r : Hid (zCd x = true → ∀ W, Below w.heap.size w W → Calls Tryz.prog 174 #[.agg #[.int .i64 c, .int .i64 s, .int .i64 y, .int .i64 l], .agg #[.slice F x.1.1.length J, .slice G x.1.2.length K]] W fun e w' => e = .returned (.bool (zDS s y l x.1 (zB8 x.1))) ∧ Below W.heap.size W w') := fun hk W hb => by
  obtain ⟨p1, p2, p3⟩ := zO4 (zIs hk);exact zIj c s y l F G x.1 J K (zB8 x.1) W hc (zAm T hb) p1 p2 p3
 have M : Hid (∀ W, Calls Tryz.prog 175 #[.agg #[.int .i64 c, .int .i64 s, .int .i64 y, .int .i64 l], .agg #[.int .i64 x.2.2.2.2.1.1, .int .i64 x.2.2.2.2.1.2.1, .slice U x.2.2.2.2.1.2.2.length V]] W fun e w' => e = .returned (.bool (zDY l x.2.2.2.2.1)) ∧ Below W.heap.size W w') := fun W => zGG c s y l x.2.2.2.2.1 U V W hc;unfold zD1;generalize zCd x = q1 at z r ⊢;generalize zDk c s y l x.2.1 = kp at L ⊢;generalize zDS s y l x.1 (zB8 x.1) = q3 at r ⊢;generalize zDY l x.2.2.2.2.1 = q4 at M ⊢;rw [show zBq _ = .agg _ from rfl] at z ⊢;clear h D I i2 i3 hc hh o p n T;have B := Below.refl w.heap.size w;go_enter Tryz.func124, Tryz.ntmps124;go_upto_region 1 with fail
 generalize d : w.alloc _ = u1w;have X := boxH d;have i := boxB d;have v := boxL d;clear d;replace B := zAa B i;clear i;have oA := Nat.le_of_eq v;have fA := Nat.le_of_eq v.symm;clear v;generalize b : u1w.alloc _ = u2w;have C := boxH b;have i := boxB b;have q := boxL b;clear b;rw [show u1w.heap.size = w.heap.size + 1 from by omega] at C;replace B := zAa B i;replace X := zAb i X;clear i;have pA := Nat.le_of_eq q;have lA := Nat.le_of_eq q.symm;clear q;obtain ⟨Xc0, Xc1, Xc2, Xc3⟩ := zA5 X;have Xlt := (ltH X);obtain ⟨Cc0, Cc1, Cc2, Cc3, Cc4, Cc5, Cc6, Cc7, Cc8⟩ := zAh C;have Clt := (ltH C);go_wp2_with fail
 clear Xc0 Xc1 Xc2 Xc3 Xlt Cc0 Cc1 Cc2 Cc3 Cc4 Cc5 Cc6 Cc7 Cc8 Clt;refine (z.out _ B).mono ?_;rintro e m ⟨rfl, a⟩;have Z : u2w.heap.size ≤ m.heap.size := a.size;replace B := zAa B a;replace X := zAb a X;replace C := zAb a C;clear a;cases q1
 ·skip
  obtain ⟨Xc0, Xc1, Xc2, Xc3⟩ := zA5 X;have Xlt := (ltH X);obtain ⟨Cc0, Cc1, Cc2, Cc3, Cc4, Cc5, Cc6, Cc7, Cc8⟩ := zAh C;have Clt := (ltH C);have f : Hid _ := B;clear B X C;go_wp2;go_ret
  exact ⟨rfl, f.out⟩
 ·skip
  obtain ⟨Xc0, Xc1, Xc2, Xc3⟩ := zA5 X;have Xlt := (ltH X);obtain ⟨Cc0, Cc1, Cc2, Cc3, Cc4, Cc5, Cc6, Cc7, Cc8⟩ := zAh C;have Clt := (ltH C);go_wp2_with fail
  clear Xc0 Xc1 Xc2 Xc3 Xlt Cc0 Cc1 Cc2 Cc3 Cc4 Cc5 Cc6 Cc7 Cc8 Clt;refine (L.out _ B).mono ?_;rintro e k ⟨rfl, a⟩;have Y : m.heap.size ≤ k.heap.size := a.size;replace B := zAa B a;replace X := zAb a X;replace C := zAb a C;clear a;by_cases g : kp = 0
  ·have zt : (kp == 0) = true := by simp [g]
   subst g;have g : (0 : Int) = 0 := rfl;clear g;obtain ⟨Xc0, Xc1, Xc2, Xc3⟩ := zA5 X;have Xlt := (ltH X);obtain ⟨Cc0, Cc1, Cc2, Cc3, Cc4, Cc5, Cc6, Cc7, Cc8⟩ := zAh C;have Clt := (ltH C);go_wp2_with fail
   clear Xc0 Xc1 Xc2 Xc3 Xlt Cc0 Cc1 Cc2 Cc3 Cc4 Cc5 Cc6 Cc7 Cc8 Clt;refine (r.out (by first | rfl | trivial) _ B).mono ?_;rintro e j ⟨rfl, a⟩;have N : k.heap.size ≤ j.heap.size := a.size;replace B := zAa B a;replace X := zAb a X;replace C := zAb a C;clear a;cases q3
   ·skip
    obtain ⟨Xc0, Xc1, Xc2, Xc3⟩ := zA5 X;have Xlt := (ltH X);obtain ⟨Cc0, Cc1, Cc2, Cc3, Cc4, Cc5, Cc6, Cc7, Cc8⟩ := zAh C;have Clt := (ltH C);have f : Hid _ := B;clear B X C;go_wp2;go_ret
    exact ⟨by simp, f.out⟩
   ·skip
    obtain ⟨Xc0, Xc1, Xc2, Xc3⟩ := zA5 X;have Xlt := (ltH X);obtain ⟨Cc0, Cc1, Cc2, Cc3, Cc4, Cc5, Cc6, Cc7, Cc8⟩ := zAh C;have Clt := (ltH C);go_wp2_with fail
    clear Xc0 Xc1 Xc2 Xc3 Xlt Cc0 Cc1 Cc2 Cc3 Cc4 Cc5 Cc6 Cc7 Cc8 Clt;refine (M.out _).mono ?_;rintro e A ⟨rfl, a⟩;have S : j.heap.size ≤ A.heap.size := a.size;replace B := zAa B a;replace X := zAb a X;replace C := zAb a C;clear a;obtain ⟨Xc0, Xc1, Xc2, Xc3⟩ := zA5 X;have Xlt := (ltH X);obtain ⟨Cc0, Cc1, Cc2, Cc3, Cc4, Cc5, Cc6, Cc7, Cc8⟩ := zAh C;have Clt := (ltH C);have f : Hid _ := B;clear B X C;go_wp2;go_ret
    exact ⟨by simp, f.out⟩
  ·have zt : (kp == 0) = false := by simp [g]
   have HZ : Hid (¬ kp = 0) := g;clear g;obtain ⟨Xc0, Xc1, Xc2, Xc3⟩ := zA5 X;have Xlt := (ltH X);obtain ⟨Cc0, Cc1, Cc2, Cc3, Cc4, Cc5, Cc6, Cc7, Cc8⟩ := zAh C;have Clt := (ltH C);have f : Hid _ := B;clear B X C;go_wp2;go_ret
   exact ⟨by simp [HZ.out], f.out⟩
def zBc (k f l m : Int) (d : List Int) : Bool := decide (k = 0) && (decide (f = 0) && (decide (l = 0) && (decide (m = 0) && decide (d.length = 0))))
def zCS (k f l : Int) : Bool := if k ≤ 2 then zA8 f 0 3 else decide (f = 5) && !decide (l = 0)
def zDI (k m : Int) (d : List Int) : Bool := if k = 4 then zA8 m 0 3 && isL d else decide (m = 0) && decide (d.length = 0)
def zAL (k f l m : Int) (d : List Int) : Bool := zA8 k 1 4 && (zA8 l 0 4 && (zCS k f l && zDI k m d))
def zBw (o s : Int) : Bool := zA8 o (-1) 3 && (zA8 s 0 15 && !(decide (0 ≤ o) && !decide (s = 0)))
def zDD (u : zAW) : Bool := zBw u.1 u.2.1 && (if u.2.2.1 then zAL u.2.2.2.1 u.2.2.2.2.1 u.2.2.2.2.2.1 u.2.2.2.2.2.2.1 u.2.2.2.2.2.2.2 else zBc u.2.2.2.1 u.2.2.2.2.1 u.2.2.2.2.2.1 u.2.2.2.2.2.2.1 u.2.2.2.2.2.2.2)
theorem eb {o s : Int} {b : Bool} {k f l m : Int} {d : List Int} : zDD (o, s, b, k, f, l, m, d) = (zBw o s && (if b then zAL k f l m d else zBc k f l m d)) := rfl
end Go.Proofs.YtcocbafhcpdheaaGreatDoor
