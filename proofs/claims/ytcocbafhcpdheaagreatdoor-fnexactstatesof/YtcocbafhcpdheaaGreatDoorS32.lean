import Derived.Test.YtcocbafhcpdheaaGreatDoorS00Box
import Derived.Test.YtcocbafhcpdheaaGreatDoorS31
import Derived.Test.YtcocbafhcpdheaaGreatDoorS26
namespace Go.Proofs.YtcocbafhcpdheaaGreatDoor
set_option maxHeartbeats 4000000
set_option maxRecDepth 20000
open Go.ChangeShapes Go.WideShapes Go.ChangeAt Go.RowKit
set_option linter.unusedVariables false
theorem size_two (w : World) (o : Obj) : (w.alloc o).heap.size = w.heap.size + 1 := by simp
def oneV (ok ad : Bool) (q : Int) : Value := if ok then (if ad then .nilIface else refV 4) else refV q
def FltV (v : Value) (q : Int) : Prop := (q = 0 ∧ v = .nilIface) ∨ (q ≠ 0 ∧ ErrV v q)
theorem addr_hw {k a x y : Int} (h : opB k a x y = true) : 0 ≤ a → wrap64 (a.tdiv 2) = a / 2 := by
 intro h0;have := op_addr (u := (k, a, x, y)) h;replace this : 0 ≤ a ∧ a ≤ 31 := this;rw [tdiv_two h0];unfold wrap64;omega
def adB (c s y l : Int) (u : OpD) : Bool := addrB c s y l u.2.1
def lnB (c s y l : Int) (u : DescD) : Bool := lineB c s y l u.2.1
theorem ad_eq {c s y l : Int} (h : codeI c s y l = 0) : adB c s y l = adrOk l := by
 funext u
 unfold adB addrB adrOk;rw [h, Bool.eq_iff_iff];simp [betw]
 omega
theorem ln_eq {c s y l : Int} (h : codeI c s y l = 0) : lnB c s y l = dlnOk l := by
 funext u
 unfold lnB lineB dlnOk;rw [h, Bool.eq_iff_iff];simp [betw]
 omega
def KeptI {α : Type} (xs : List α) (ok ad : α → Bool) (k : Nat) (v : Value) : Prop := (xs.take k).all ok = true ∧ ((v = .nilIface ∧ (xs.take k).all ad = true) ∨ ∃ m : Int, v = fltV m 4 ∧ xs.all ad = false)
theorem kept_end {α : Type} {xs : List α} {ok ad : α → Bool} {v : Value} (q : Int) (h : KeptI xs ok ad xs.length v) : FltV v (codeV (xs.all ok) (xs.all ad) q) := by
 obtain ⟨h1, h2⟩ := h;rw [List.take_length] at h1 h2;rw [h1];rcases h2 with ⟨rfl, h2⟩ | ⟨m, rfl, h2⟩
 ·rw [h2]; exact .inl ⟨rfl, rfl⟩
 ·rw [h2]; exact .inr ⟨by simp [codeV], .inr ⟨m, by simp [codeV]⟩⟩
theorem kept_nil {α : Type} {xs : List α} {ok ad : α → Bool} {k : Nat} {v : Value} {x : α} (h : KeptI xs ok ad k v) (hx : xs[k]? = some x) (h1 : ok x = true) (h2 : ad x = true) : KeptI xs ok ad (k + 1) v := by
 refine ⟨all_step h.1 hx h1, ?_⟩;rcases h.2 with ⟨e, h3⟩ | h3
 ·exact .inl ⟨e, all_step h3 hx h2⟩
 ·exact .inr h3
theorem kept_flt {α : Type} {xs : List α} {ok ad : α → Bool} {k : Nat} {v : Value} {x : α} (m : Int) (h : KeptI xs ok ad k v) (hx : xs[k]? = some x) (h1 : ok x = true) (h2 : ad x = false) : KeptI xs ok ad (k + 1) (fltV m 4) :=
 ⟨all_step h.1 hx h1, .inr ⟨m, rfl, all_not hx h2⟩⟩
theorem flt_now {α : Type} {xs : List α} {ok ad : α → Bool} {k : Nat} {x : α} (m q : Int) (hq : q ≠ 0) (hx : xs[k]? = some x) (h1 : ok x = false) : FltV (fltV m q) (codeV (xs.all ok) (xs.all ad) q) := by
 rw [all_not hx h1];exact .inr ⟨by simpa [codeV] using hq, .inr ⟨m, by simp [codeV]⟩⟩
theorem implCodeOf_flt (v : Value) (q : Int) (hv : FltV v q) (w : World) (hh : Hold w) : Calls Tryz.prog 183 #[v] w fun e w' => e = .returned (.int .i64 q) ∧ Below w.heap.size w w' := by
 rcases hv with ⟨rfl, rfl⟩ | ⟨_, hv⟩
 ·exact implCodeOf_nil w
 ·exact implCodeOf_any v q hv w hh
theorem implDescOk_any (p : Bool) (q m : Int) (d : List Int) (a : Option Addr) (cap : Nat) (w : World) (h : SlRd intR w a d) :
    Calls Tryz.prog 222 #[.agg #[.bool p, .int .i64 q, .int .i64 m, .slice a d.length cap]] w fun e w' => e = .returned (.bool (descB (p, q, m, d))) ∧ Below w.heap.size w w' := by
 have HB : Hid _ := box_below w;have HL : Hid (∀ W, Below w.heap.size w W → Calls Tryz.prog 224 #[.slice a d.length cap] W fun e w' => e = .returned (.bool (isL d)) ∧ Below w.heap.size w w') := fun W hb => (implLineOk_any a d cap W (reads_of (slrd_next h hb))).mono fun e w' ⟨h1, h2⟩ => ⟨h1, below_step hb h2⟩;clear h;cases p
 ·by_cases hm : m = 0
  ·subst hm;by_cases h9 : d.length = 0
   ·have hz5 : d = [] := List.eq_nil_of_length_eq_zero h9;subst hz5;go_enter Tryz.func222, Tryz.ntmps222;go_wp2_with fail
    go_ret
    exact ⟨rfl, HB.out _⟩
   ·have hz : ¬ ((d.length : Int) = 0) := by omega
    have hz2 : ((d.length : Int) == 0) = false := beq_false_of_ne hz;have HV : Hid (descB (false, q, 0, d) = false) := by unfold Hid descB; simp [h9]
    rw [HV.out];go_enter Tryz.func222, Tryz.ntmps222;go_wp2_with fail
    go_ret
    exact ⟨rfl, HB.out _⟩
  ·have hmb : (m == 0) = false := beq_false_of_ne hm;have HV : Hid (descB (false, q, m, d) = false) := by unfold Hid descB; simp [hm]
   rw [HV.out];go_enter Tryz.func222, Tryz.ntmps222;go_wp2_with fail
   go_ret
   exact ⟨rfl, HB.out _⟩
 ·cases hb : betw m 1 3
  ·have HV : Hid (descB (true, q, m, d) = false) := by unfold Hid descB; simp [hb]
   rw [HV.out];go_enter Tryz.func222, Tryz.ntmps222;go_wp2_with (go_at_call 76; refine (between_any _ _ _ _).mono ?_; rintro e w' ⟨rfl, rfl⟩; rw [hb])
   go_ret
   exact ⟨rfl, HB.out _⟩
  ·have HV : Hid (descB (true, q, m, d) = isL d) := by unfold Hid descB; simp [hb]
   rw [HV.out];go_enter Tryz.func222, Tryz.ntmps222;go_wp2_with (first | (go_at_call 76; refine (between_any _ _ _ _).mono ?_; rintro e w' ⟨rfl, rfl⟩; rw [hb]) | (go_at_call 224; refine (HL.out _ (HB.out _)).mono ?_; rintro e w2 ⟨rfl, b2⟩))
   go_ret
   exact ⟨rfl, b2⟩
theorem implOpFault_any (c s y l k a x z : Int) (w : World) :
    Calls Tryz.prog 217 #[.agg #[.int .i64 c, .int .i64 s, .int .i64 y, .int .i64 l], .agg #[.int .i64 k, .int .i64 a, .int .i64 x, .int .i64 z]] w fun e w' => e = .returned (oneV (opB k a x z) (addrB c s y l a) 3) ∧ Below w.heap.size w w' := by
 have X1 := heap_on (.cells #[.int .i64 k, .int .i64 a, .int .i64 x, .int .i64 z] 121) (heap_at w (.cells #[.int .i64 c, .int .i64 s, .int .i64 y, .int .i64 l] 39));have X2 := heap_at (w.alloc (.cells #[.int .i64 c, .int .i64 s, .int .i64 y, .int .i64 l] 39)) (.cells #[.int .i64 k, .int .i64 a, .int .i64 x, .int .i64 z] 121);rw [size_two] at X2;have B := below_step (box_below w (.cells #[.int .i64 c, .int .i64 s, .int .i64 y, .int .i64 l] 39)) (box_below (w.alloc (.cells #[.int .i64 c, .int .i64 s, .int .i64 y, .int .i64 l] 39)) (.cells #[.int .i64 k, .int .i64 a, .int .i64 x, .int .i64 z] 121));go_enter Tryz.func217, Tryz.ntmps217;go_wp2_with fail
 generalize (w.alloc (.cells #[.int .i64 c, .int .i64 s, .int .i64 y, .int .i64 l] 39)).alloc (.cells #[.int .i64 k, .int .i64 a, .int .i64 x, .int .i64 z] 121) = W0 at X1 X2 B ⊢;refine (implOpOk_any _ _ _ _ _).mono ?_;rintro e w1 ⟨rfl, b1⟩;cases h1 : opB k a x z
 ·have HE : Hid (Below w.heap.size w w1) := below_step B b1;clear X1 X2 B b1;go_wp2;go_ret
  exact ⟨by rw [h1]; rfl, HE.out⟩
 ·obtain ⟨p0, p1, p2, p3⟩ := cells_4 (row_keep b1 X1);obtain ⟨q0, q1, q2, q3⟩ := cells_4 (row_keep b1 X2);have HE : Hid (Below w.heap.size w w1) := below_step B b1;clear X1 X2 B b1;have hw := addr_hw h1;cases h2 : addrB c s y l a
  ·go_wp2_with (go_at_call 252; refine (hasAddr_any _ _ _ _ _ _ hw).mono ?_; rintro e w2 ⟨rfl, bb⟩; rw [h2])
   go_ret
   exact ⟨by rw [h1, h2]; rfl, below_step HE.out bb⟩
  ·go_wp2_with (go_at_call 252; refine (hasAddr_any _ _ _ _ _ _ hw).mono ?_; rintro e w2 ⟨rfl, bb⟩; rw [h2])
   go_ret
   exact ⟨by rw [h1, h2]; rfl, below_step HE.out bb⟩
theorem implFaultOp_any (c s y l : Int) (a : Option Addr) (xs : List OpD) (cap : Nat) (w : World) (h : SlRd opR w a xs) (hm : xs.length ≤ 30) :
    Calls Tryz.prog 251 #[.agg #[.int .i64 c, .int .i64 s, .int .i64 y, .int .i64 l], .slice a xs.length cap, (.func (.func 217) #[] #[])] w fun e w' => ∃ v, e = .returned v ∧ FltV v (codeV (xs.all opOkD) (xs.all (adB c s y l)) 3) ∧ Below w.heap.size w w' := by
 have HS : Hid (∀ W, Below w.heap.size w W → SlRd opR W a xs) := fun W hb => slrd_next h hb;clear h;go_enter Tryz.func251, Tryz.ntmps251;go_wp2;generalize hW0 : w.alloc _ = W0;have X := boxH hW0;have B := boxB hW0;clear hW0;go_loopw [7, 13] (fun v i wr => ∃ k : Nat, k ≤ xs.length ∧ i = .int .i64 k ∧ KeptI xs opOkD (adB c s y l) k v ∧ Below W0.heap.size W0 wr) (fun _ i _ => xs.length - (intOf i).toNat)
 case atStart => exact ⟨0, Nat.zero_le _, rfl, ⟨rfl, .inl ⟨rfl, rfl⟩⟩, Below.refl _ _⟩
 case round =>
  obtain ⟨k, hk, rfl, KI, BB⟩ := hrel;have HK : Hid _ := KI;clear KI;by_cases hlt : k < xs.length
  ·have hlt' : (k : Int) < (xs.length : Int) := by omega
   obtain ⟨x, hx⟩ : ∃ x, xs[k]? = some x := ⟨_, List.getElem?_eq_getElem hlt⟩;obtain ⟨b, off, rfl, x0, x1, x2, x3, -⟩ := op_at (HS.out _ (below_step B BB)) hx;have HX : Hid _ := hx;clear hx;have XR := row_keep BB X;have hsr : w.heap.size < wr.heap.size := (ltH XR);obtain ⟨p0, p1, p2, p3⟩ := cells_4 XR;have HBW : Hid (Below w.heap.size w wr) := below_step B BB;have HBX : Hid _ := And.intro X (And.intro B BB);clear XR X B BB;have bx := box_below wr (.cells #[.int .i64 x.1, .int .i64 x.2.1, .int .i64 x.2.2.1, .int .i64 x.2.2.2] 121);go_wp2_with fail
   refine (implOpFault_any c s y l x.1 x.2.1 x.2.2.1 x.2.2.2 _).mono ?_;rintro e w1 ⟨rfl, bb⟩;obtain ⟨X, B, BB⟩ := HBX.out;have BE := below_step BB (below_step bx bb);have BF := below_step B BE;have HBE : Hid _ := And.intro BE BF;clear x0 x1 x2 x3 p0 p1 p2 p3 hsr bx bb BE BF BB X B HBX HBW;cases h1 : opOkD x
   ·first | rw [show opB x.1 x.2.1 x.2.2.1 x.2.2.2 = _ from h1] | skip
    rw [show oneV false (addrB c s y l x.2.1) 3 = refV 3 from rfl];go_wp2_with (go_at_call 261; refine (isFault_any _ _ _ _).mono ?_; rintro e w2 ⟨rfl, b2⟩)
    go_ret
    exact ⟨_, rfl, flt_now _ 3 (by decide) HX.out h1, below_step HBE.out.2 b2⟩
   ·cases h2 : adB c s y l x
    ·first | rw [show opB x.1 x.2.1 x.2.2.1 x.2.2.2 = _ from h1] | skip
     rw [show addrB c s y l x.2.1 = _ from h2, show oneV true false 3 = refV 4 from rfl];go_wp2_with (go_at_call 261; refine (isFault_any _ _ _ _).mono ?_; rintro e w2 ⟨rfl, b2⟩)
     go_roundw
     case rel => exact ⟨k + 1, by omega, by go_num, kept_flt _ HK.out HX.out h1 h2, below_step HBE.out.1 b2⟩
     case measure => simp [intOf]; omega
    ·first | rw [show opB x.1 x.2.1 x.2.2.1 x.2.2.2 = _ from h1] | skip
     rw [show addrB c s y l x.2.1 = _ from h2, show oneV true true 3 = .nilIface from rfl];go_wp2;go_roundw
     case rel => exact ⟨k + 1, by omega, by go_num, kept_nil HK.out HX.out h1 h2, HBE.out.1⟩
     case measure => simp [intOf]; omega
  ·have hkl : k = xs.length := by omega
   subst hkl;have HBW : Hid (Below w.heap.size w wr) := below_step B BB;clear X B BB;go_wp2;go_ret
   exact ⟨_, rfl, kept_end 3 HK.out, HBW.out⟩
theorem implRefusedOp_any (c s y l : Int) (a : Option Addr) (xs : List OpD) (cap : Nat) (w : World) (h : SlRd opR w a xs) (hm : xs.length ≤ maxLen) :
    Calls Tryz.prog 216 #[.agg #[.int .i64 c, .int .i64 s, .int .i64 y, .int .i64 l], .slice a xs.length cap, (.func (.func 217) #[] #[])] w fun e w' => ∃ v, e = .returned v ∧ FltV v (progI c s y l xs) ∧ Below w.heap.size w w' := by
 have hm' : xs.length ≤ 9223372036854775807 := hm;have HS : Hid (∀ W, Below w.heap.size w W → SlRd opR W a xs) := fun W hb => slrd_next h hb;clear h hm;go_enter Tryz.func216, Tryz.ntmps216;go_wp2_with fail
 generalize hW0 : w.alloc _ = W0;have X := boxH hW0;have B := boxB hW0;clear hW0;refine (implCode_any _ _ _ _ _).mono ?_;rintro e w1 ⟨rfl, b1⟩;obtain ⟨p0, p1, p2, p3⟩ := cells_4 (row_keep b1 X);have HB : Hid (Below w.heap.size w w1) := below_step B b1;clear X B b1;by_cases hc : codeI c s y l = 0
 ·by_cases hn : xs.length ≤ 30
  ·have hn' : ¬ ((30 : Int) < (xs.length : Int)) := by omega
   have HV : Hid (progI c s y l xs = codeV (xs.all opOkD) (xs.all (adB c s y l)) 3) := by unfold Hid progI codeV; rw [if_pos hc, if_pos hn, ad_eq hc]
   have HF := implFaultOp_any c s y l a xs cap w1 (HS.out _ HB.out) hn;rw [hc];clear hc;go_wp2_with (go_at_call 251; refine HF.mono ?_; rintro e w2 ⟨v, rfl, hv, b2⟩)
   go_ret
   exact ⟨_, rfl, by rw [HV.out]; exact hv, below_step HB.out b2⟩
  ·have hn' : (30 : Int) < (xs.length : Int) := by omega
   have HV : Hid (progI c s y l xs = 2) := by unfold Hid progI; rw [if_pos hc, if_neg hn]
   rw [hc];clear hc;go_wp2;go_ret
   exact ⟨_, rfl, by rw [HV.out]; exact .inr ⟨by decide, .inl rfl⟩, HB.out⟩
 ·have hcb : (codeI c s y l != 0) = true := by simp [hc]
  have HV : Hid (progI c s y l xs = 1) := by unfold Hid progI; rw [if_neg hc]
  generalize codeI c s y l = z at hcb ⊢;clear hc;go_wp2;go_ret
  exact ⟨_, rfl, by rw [HV.out]; exact .inr ⟨by decide, .inl rfl⟩, HB.out⟩
theorem implProgramCode_any (c s y l : Int) (a : Option Addr) (xs : List OpD) (cap : Nat) (w : World) (hh : Hold w) (h : SlRd opR w a xs) (hm : xs.length ≤ maxLen) :
    Calls Tryz.prog 173 #[.agg #[.int .i64 c, .int .i64 s, .int .i64 y, .int .i64 l], .slice a xs.length cap] w fun e w' => e = .returned (.int .i64 (progI c s y l xs)) ∧ Below w.heap.size w w' := by
 have B := box_below w (.cells #[.int .i64 c, .int .i64 s, .int .i64 y, .int .i64 l] 39);have HF := implRefusedOp_any c s y l a xs cap (w.alloc (.cells #[.int .i64 c, .int .i64 s, .int .i64 y, .int .i64 l] 39)) (slrd_next h B) hm;have HH : Hid (∀ W, Below w.heap.size w W → Hold W) := fun W hb => hh.goes hb;clear h hm hh;generalize progI c s y l xs = q at HF ⊢;go_enter Tryz.func173, Tryz.ntmps173;go_wp2_with fail
 refine HF.mono ?_;rintro e w1 ⟨v, rfl, hv, b1⟩;have B1 := below_step B b1;have HC := implCodeOf_flt v q hv w1 (HH.out _ B1);clear hv HF;go_wp2_with (go_at_call 183; refine HC.mono ?_; rintro e w2 ⟨rfl, b2⟩)
 go_ret
 exact ⟨rfl, below_step B1 b2⟩
theorem implDescFault_any (c s y l : Int) (p : Bool) (q m : Int) (d : List Int) (a : Option Addr) (cap : Nat) (w : World) (h : SlRd intR w a d) :
    Calls Tryz.prog 185 #[.agg #[.int .i64 c, .int .i64 s, .int .i64 y, .int .i64 l], .agg #[.bool p, .int .i64 q, .int .i64 m, .slice a d.length cap]] w fun e w' => e = .returned (oneV (descB (p, q, m, d)) (lineB c s y l q) 5) ∧ Below w.heap.size w w' := by
 have X1 := heap_on (.cells #[.bool p, .int .i64 q, .int .i64 m, .slice a d.length cap] 165) (heap_at w (.cells #[.int .i64 c, .int .i64 s, .int .i64 y, .int .i64 l] 39));have X2 := heap_at (w.alloc (.cells #[.int .i64 c, .int .i64 s, .int .i64 y, .int .i64 l] 39)) (.cells #[.bool p, .int .i64 q, .int .i64 m, .slice a d.length cap] 165);rw [size_two] at X2;have B := below_step (box_below w (.cells #[.int .i64 c, .int .i64 s, .int .i64 y, .int .i64 l] 39)) (box_below (w.alloc (.cells #[.int .i64 c, .int .i64 s, .int .i64 y, .int .i64 l] 39)) (.cells #[.bool p, .int .i64 q, .int .i64 m, .slice a d.length cap] 165));have HK : Hid (Calls Tryz.prog 222 #[.agg #[.bool p, .int .i64 q, .int .i64 m, .slice a d.length cap]] ((w.alloc (.cells #[.int .i64 c, .int .i64 s, .int .i64 y, .int .i64 l] 39)).alloc (.cells #[.bool p, .int .i64 q, .int .i64 m, .slice a d.length cap] 165)) fun e w' => e = .returned (.bool (descB (p, q, m, d))) ∧ Below ((w.alloc (.cells #[.int .i64 c, .int .i64 s, .int .i64 y, .int .i64 l] 39)).alloc (.cells #[.bool p, .int .i64 q, .int .i64 m, .slice a d.length cap] 165)).heap.size ((w.alloc (.cells #[.int .i64 c, .int .i64 s, .int .i64 y, .int .i64 l] 39)).alloc (.cells #[.bool p, .int .i64 q, .int .i64 m, .slice a d.length cap] 165)) w') := implDescOk_any p q m d a cap _ (slrd_next h B);clear h;go_enter Tryz.func185, Tryz.ntmps185;go_wp2_with fail
 generalize (w.alloc (.cells #[.int .i64 c, .int .i64 s, .int .i64 y, .int .i64 l] 39)).alloc (.cells #[.bool p, .int .i64 q, .int .i64 m, .slice a d.length cap] 165) = W0 at X1 X2 B HK ⊢;refine (HK.out).mono ?_;rintro e w1 ⟨rfl, b1⟩;cases h1 : descB (p, q, m, d)
 ·have HE : Hid (Below w.heap.size w w1) := below_step B b1;clear X1 X2 B b1;go_wp2;go_ret
  exact ⟨by rw [h1]; rfl, HE.out⟩
 ·obtain ⟨p0, p1, p2, p3⟩ := cells_4 (row_keep b1 X1);obtain ⟨q0, q1, q2, q3⟩ := cells_4 (row_keep b1 X2);have HE : Hid (Below w.heap.size w w1) := below_step B b1;clear X1 X2 B b1;cases h2 : lineB c s y l q
  ·go_wp2_with (go_at_call 36; refine (hasLine_any _ _ _ _ _ _).mono ?_; rintro e w2 ⟨rfl, bb⟩; rw [h2])
   go_ret
   exact ⟨by rw [h1, h2]; rfl, below_step HE.out bb⟩
  ·go_wp2_with (go_at_call 36; refine (hasLine_any _ _ _ _ _ _).mono ?_; rintro e w2 ⟨rfl, bb⟩; rw [h2])
   go_ret
   exact ⟨by rw [h1, h2]; rfl, below_step HE.out bb⟩
theorem implFaultDesc_any (c s y l : Int) (a : Option Addr) (xs : List DescD) (cap : Nat) (w : World) (h : SlRd descR w a xs) (hm : xs.length ≤ 30) :
    Calls Tryz.prog 226 #[.agg #[.int .i64 c, .int .i64 s, .int .i64 y, .int .i64 l], .slice a xs.length cap, (.func (.func 185) #[] #[])] w fun e w' => ∃ v, e = .returned v ∧ FltV v (codeV (xs.all descB) (xs.all (lnB c s y l)) 5) ∧ Below w.heap.size w w' := by
 have HS : Hid (∀ W, Below w.heap.size w W → SlRd descR W a xs) := fun W hb => slrd_next h hb;clear h;go_enter Tryz.func226, Tryz.ntmps226;go_wp2;generalize hW0 : w.alloc _ = W0;have X := boxH hW0;have B := boxB hW0;clear hW0;go_loopw [7, 13] (fun v i wr => ∃ k : Nat, k ≤ xs.length ∧ i = .int .i64 k ∧ KeptI xs descB (lnB c s y l) k v ∧ Below W0.heap.size W0 wr) (fun _ i _ => xs.length - (intOf i).toNat)
 case atStart => exact ⟨0, Nat.zero_le _, rfl, ⟨rfl, .inl ⟨rfl, rfl⟩⟩, Below.refl _ _⟩
 case round =>
  obtain ⟨k, hk, rfl, KI, BB⟩ := hrel;have HK : Hid _ := KI;clear KI;by_cases hlt : k < xs.length
  ·have hlt' : (k : Int) < (xs.length : Int) := by omega
   obtain ⟨x, hx⟩ : ∃ x, xs[k]? = some x := ⟨_, List.getElem?_eq_getElem hlt⟩;obtain ⟨b, off, cs, rfl, hrd, hcell⟩ := slrd_at (HS.out _ (below_step B BB)) hx;obtain ⟨ad, cpw, rfl, -, -, -, -, rd3⟩ := desc_rd hrd;have x0 := hcell 0 _ rfl;have x1 := hcell 1 _ rfl;have x2 := hcell 2 _ rfl;have x3 := hcell 3 _ rfl;rw [show off + (k * descR.size + 0) = off + k * 4 from rfl] at x0;rw [show off + (k * descR.size + 1) = off + k * 4 + 1 from rfl] at x1;rw [show off + (k * descR.size + 2) = off + k * 4 + 2 from rfl] at x2;rw [show off + (k * descR.size + 3) = off + k * 4 + 3 from rfl] at x3;clear hcell hrd;have HX : Hid _ := hx;clear hx;have XR := row_keep BB X;have hsr : w.heap.size < wr.heap.size := (ltH XR);obtain ⟨p0, p1, p2, p3⟩ := cells_4 XR;have HBW : Hid (Below w.heap.size w wr) := below_step B BB;have HBX : Hid _ := And.intro X (And.intro B BB);clear XR X B BB;have HRD : Hid (SlRd intR (wr.alloc (.cells #[.bool x.1, .int .i64 x.2.1, .int .i64 x.2.2.1, .slice ad x.2.2.2.length cpw] 165)) ad x.2.2.2) := slrd_next rd3 (box_below wr (.cells #[.bool x.1, .int .i64 x.2.1, .int .i64 x.2.2.1, .slice ad x.2.2.2.length cpw] 165));clear rd3;have bx := box_below wr (.cells #[.bool x.1, .int .i64 x.2.1, .int .i64 x.2.2.1, .slice ad x.2.2.2.length cpw] 165);go_wp2_with fail
   refine (implDescFault_any c s y l x.1 x.2.1 x.2.2.1 x.2.2.2 ad cpw _ HRD.out).mono ?_;rintro e w1 ⟨rfl, bb⟩;obtain ⟨X, B, BB⟩ := HBX.out;have BE := below_step BB (below_step bx bb);have BF := below_step B BE;have HBE : Hid _ := And.intro BE BF;clear x0 x1 x2 x3 p0 p1 p2 p3 hsr bx bb BE BF BB X B HBX HBW;cases h1 : descB x
   ·first | rw [show descB (x.1, x.2.1, x.2.2.1, x.2.2.2) = _ from h1] | skip
    rw [show oneV false (lineB c s y l x.2.1) 5 = refV 5 from rfl];go_wp2_with (go_at_call 261; refine (isFault_any _ _ _ _).mono ?_; rintro e w2 ⟨rfl, b2⟩)
    go_ret
    exact ⟨_, rfl, flt_now _ 5 (by decide) HX.out h1, below_step HBE.out.2 b2⟩
   ·cases h2 : lnB c s y l x
    ·first | rw [show descB (x.1, x.2.1, x.2.2.1, x.2.2.2) = _ from h1] | skip
     rw [show lineB c s y l x.2.1 = _ from h2, show oneV true false 5 = refV 4 from rfl];go_wp2_with (go_at_call 261; refine (isFault_any _ _ _ _).mono ?_; rintro e w2 ⟨rfl, b2⟩)
     go_roundw
     case rel => exact ⟨k + 1, by omega, by go_num, kept_flt _ HK.out HX.out h1 h2, below_step HBE.out.1 b2⟩
     case measure => simp [intOf]; omega
    ·first | rw [show descB (x.1, x.2.1, x.2.2.1, x.2.2.2) = _ from h1] | skip
     rw [show lineB c s y l x.2.1 = _ from h2, show oneV true true 5 = .nilIface from rfl];go_wp2;go_roundw
     case rel => exact ⟨k + 1, by omega, by go_num, kept_nil HK.out HX.out h1 h2, HBE.out.1⟩
     case measure => simp [intOf]; omega
  ·have hkl : k = xs.length := by omega
   subst hkl;have HBW : Hid (Below w.heap.size w wr) := below_step B BB;clear X B BB;go_wp2;go_ret
   exact ⟨_, rfl, kept_end 5 HK.out, HBW.out⟩
theorem implRefusedDesc_any (c s y l : Int) (a : Option Addr) (xs : List DescD) (cap : Nat) (w : World) (h : SlRd descR w a xs) (hm : xs.length ≤ maxLen) :
    Calls Tryz.prog 184 #[.agg #[.int .i64 c, .int .i64 s, .int .i64 y, .int .i64 l], .slice a xs.length cap, (.func (.func 185) #[] #[])] w fun e w' => ∃ v, e = .returned v ∧ FltV v (descI c s y l xs) ∧ Below w.heap.size w w' := by
 have hm' : xs.length ≤ 9223372036854775807 := hm;have HS : Hid (∀ W, Below w.heap.size w W → SlRd descR W a xs) := fun W hb => slrd_next h hb;clear h hm;go_enter Tryz.func184, Tryz.ntmps184;go_wp2_with fail
 generalize hW0 : w.alloc _ = W0;have X := boxH hW0;have B := boxB hW0;clear hW0;refine (implCode_any _ _ _ _ _).mono ?_;rintro e w1 ⟨rfl, b1⟩;obtain ⟨p0, p1, p2, p3⟩ := cells_4 (row_keep b1 X);have HB : Hid (Below w.heap.size w w1) := below_step B b1;clear X B b1;by_cases hc : codeI c s y l = 0
 ·by_cases hn : xs.length ≤ 30
  ·have hn' : ¬ ((30 : Int) < (xs.length : Int)) := by omega
   have HV : Hid (descI c s y l xs = codeV (xs.all descB) (xs.all (lnB c s y l)) 5) := by unfold Hid descI codeV; rw [if_pos hc, if_pos hn, ln_eq hc]
   have HF := implFaultDesc_any c s y l a xs cap w1 (HS.out _ HB.out) hn;rw [hc];clear hc;go_wp2_with (go_at_call 226; refine HF.mono ?_; rintro e w2 ⟨v, rfl, hv, b2⟩)
   go_ret
   exact ⟨_, rfl, by rw [HV.out]; exact hv, below_step HB.out b2⟩
  ·have hn' : (30 : Int) < (xs.length : Int) := by omega
   have HV : Hid (descI c s y l xs = 2) := by unfold Hid descI; rw [if_pos hc, if_neg hn]
   rw [hc];clear hc;go_wp2;go_ret
   exact ⟨_, rfl, by rw [HV.out]; exact .inr ⟨by decide, .inl rfl⟩, HB.out⟩
 ·have hcb : (codeI c s y l != 0) = true := by simp [hc]
  have HV : Hid (descI c s y l xs = 1) := by unfold Hid descI; rw [if_neg hc]
  generalize codeI c s y l = z at hcb ⊢;clear hc;go_wp2;go_ret
  exact ⟨_, rfl, by rw [HV.out]; exact .inr ⟨by decide, .inl rfl⟩, HB.out⟩
theorem implDescCode_any (c s y l : Int) (a : Option Addr) (xs : List DescD) (cap : Nat) (w : World) (hh : Hold w) (h : SlRd descR w a xs) (hm : xs.length ≤ maxLen) :
    Calls Tryz.prog 126 #[.agg #[.int .i64 c, .int .i64 s, .int .i64 y, .int .i64 l], .slice a xs.length cap] w fun e w' => e = .returned (.int .i64 (descI c s y l xs)) ∧ Below w.heap.size w w' := by
 have B := box_below w (.cells #[.int .i64 c, .int .i64 s, .int .i64 y, .int .i64 l] 39);have HF := implRefusedDesc_any c s y l a xs cap (w.alloc (.cells #[.int .i64 c, .int .i64 s, .int .i64 y, .int .i64 l] 39)) (slrd_next h B) hm;have HH : Hid (∀ W, Below w.heap.size w W → Hold W) := fun W hb => hh.goes hb;clear h hm hh;generalize descI c s y l xs = q at HF ⊢;go_enter Tryz.func126, Tryz.ntmps126;go_wp2_with fail
 refine HF.mono ?_;rintro e w1 ⟨v, rfl, hv, b1⟩;have B1 := below_step B b1;have HC := implCodeOf_flt v q hv w1 (HH.out _ B1);clear hv HF;go_wp2_with (go_at_call 183; refine HC.mono ?_; rintro e w2 ⟨rfl, b2⟩)
 go_ret
 exact ⟨rfl, below_step B1 b2⟩
noncomputable def coreFit (c s y l : Int) (x : CoreD) : Bool := coreB x && (decide (progI c s y l x.2.1 = 0) && (cacheIn s y l x.1 (waysN x.1) && wayIn l x.2.2.2.2.1))
theorem core_ok {x : CoreD} (h : coreB x = true) : OkC isL treeB x.1 := by
 unfold coreB at h;rw [Bool.and_eq_true] at h;exact okB_iff.1 h.1
theorem ok_ways {x : CacheD} (h : OkC isL treeB x) : (x.1.length = 1 ∨ x.1.length = 2 ∨ x.1.length = 4) ∧ (waysN x = 1 ∨ waysN x = 2 ∨ waysN x = 4) ∧ ∀ row ∈ x.1, row.length = waysN x := by
 obtain ⟨d, h2, m, g, c⟩ := h;have b : x.1.length = 1 ∨ x.1.length = 2 ∨ x.1.length = 4 := d;have a : 0 < x.1.length := by omega
 have e : waysN x = m := by
  unfold waysN;rw [List.getD_eq_getElem?_getD, List.getElem?_eq_getElem a];exact (c 0 _ (List.getElem?_eq_getElem a)).1
 refine ⟨b, by rw [e]; exact g, fun row hr => ?_⟩;obtain ⟨i, f⟩ := List.getElem?_of_mem hr;rw [e];exact (c i row f).1
theorem fitsCore_u (c s y l : Int) (cs : List Value) (x : CoreD) (w : World) (hh : Hold w) (hc : codeI c s y l = 0) (h : coreR.rd w cs x) :
    Calls Tryz.prog 124 #[.agg #[.int .i64 c, .int .i64 s, .int .i64 y, .int .i64 l], aggV cs] w fun e w' => e = .returned (.bool (coreFit c s y l x)) ∧ Below w.heap.size w w' := by
 have z : Hid _ := fun (W : World) (hb : Below w.heap.size w W) => implCoreOk_u cs x W (rd_next h hb);obtain ⟨v0, v1, v2, v5, v6, v7, v8, rfl, J, r1, i2, i3, F, r5⟩ := core_rd h;obtain ⟨H, U, T, R, N, -, -, -, -, D, -⟩ := cache_rd J;simp only [List.cons.injEq, and_true] at N;obtain ⟨rfl, rfl⟩ := N;obtain ⟨a1, c1, M, m, o, p⟩ := r1;simp only [List.cons.injEq, and_true] at M;obtain rfl := M;obtain ⟨E, O, V, -⟩ := way_rd F;simp only [List.cons.injEq, and_true] at V;obtain ⟨rfl, rfl, rfl⟩ := V;obtain ⟨a5, c5, Y, -, -, -⟩ := r5;simp only [List.cons.injEq, and_true] at Y;obtain rfl := Y;have L : Hid _ := fun (W : World) (hb : Below w.heap.size w W) => implProgramCode_any c s y l a1 x.2.1 c1 W (hh.goes hb) (slrd_next p hb) (Nat.le_trans m o);have v : Hid (coreB x = true → ∀ W, Below w.heap.size w W → Calls Tryz.prog 174 #[.agg #[.int .i64 c, .int .i64 s, .int .i64 y, .int .i64 l], .agg #[.slice H x.1.1.length U, .slice T x.1.2.length R]] W fun e w' => e = .returned (.bool (cacheIn s y l x.1 (waysN x.1))) ∧ Below W.heap.size W w') := fun hk W hb => by
  obtain ⟨p1, p2, p3⟩ := ok_ways (core_ok hk);exact fitsCache_any c s y l H T x.1 U R (waysN x.1) W hc (slrd_next D hb) p1 p2 p3
 have S : Hid (∀ W, Calls Tryz.prog 175 #[.agg #[.int .i64 c, .int .i64 s, .int .i64 y, .int .i64 l], .agg #[.int .i64 x.2.2.2.2.1.1, .int .i64 x.2.2.2.2.1.2.1, .slice E x.2.2.2.2.1.2.2.length O]] W fun e w' => e = .returned (.bool (wayIn l x.2.2.2.2.1)) ∧ Below W.heap.size W w') := fun W => fitsWay_any c s y l x.2.2.2.2.1 E O W hc;unfold coreFit;generalize coreB x = q1 at z v ⊢;generalize progI c s y l x.2.1 = kp at L ⊢;generalize cacheIn s y l x.1 (waysN x.1) = q3 at v ⊢;generalize wayIn l x.2.2.2.2.1 = q4 at S ⊢;rw [show aggV _ = .agg _ from rfl] at z ⊢;clear h J F i2 i3 hc hh p m o D;have B := Below.refl w.heap.size w;go_enter Tryz.func124, Tryz.ntmps124;go_upto_region 1 with fail
 generalize d : w.alloc _ = u1w;have X := boxH d;have i := boxB d;have r := boxL d;clear d;replace B := below_step B i;clear i;have nA := Nat.le_of_eq r;have eA := Nat.le_of_eq r.symm;clear r;generalize b : u1w.alloc _ = u2w;have C := boxH b;have i := boxB b;have q := boxL b;clear b;rw [show u1w.heap.size = w.heap.size + 1 from by omega] at C;replace B := below_step B i;replace X := row_keep i X;clear i;have mA := Nat.le_of_eq q;have aA := Nat.le_of_eq q.symm;clear q;obtain ⟨Xc0, Xc1, Xc2, Xc3⟩ := cells_4 X;have Xlt := (ltH X);obtain ⟨Cc0, Cc1, Cc2, Cc3, Cc4, Cc5, Cc6, Cc7, Cc8⟩ := cells_core C;have Clt := (ltH C);go_wp2_with fail
 clear Xc0 Xc1 Xc2 Xc3 Xlt Cc0 Cc1 Cc2 Cc3 Cc4 Cc5 Cc6 Cc7 Cc8 Clt;refine (z.out _ B).mono ?_;rintro e j ⟨rfl, a⟩;have K : u2w.heap.size ≤ j.heap.size := a.size;replace B := below_step B a;replace X := row_keep a X;replace C := row_keep a C;clear a;cases q1
 ·skip
  obtain ⟨Xc0, Xc1, Xc2, Xc3⟩ := cells_4 X;have Xlt := (ltH X);obtain ⟨Cc0, Cc1, Cc2, Cc3, Cc4, Cc5, Cc6, Cc7, Cc8⟩ := cells_core C;have Clt := (ltH C);have g : Hid _ := B;clear B X C;go_wp2;go_ret
  exact ⟨rfl, g.out⟩
 ·skip
  obtain ⟨Xc0, Xc1, Xc2, Xc3⟩ := cells_4 X;have Xlt := (ltH X);obtain ⟨Cc0, Cc1, Cc2, Cc3, Cc4, Cc5, Cc6, Cc7, Cc8⟩ := cells_core C;have Clt := (ltH C);go_wp2_with fail
  clear Xc0 Xc1 Xc2 Xc3 Xlt Cc0 Cc1 Cc2 Cc3 Cc4 Cc5 Cc6 Cc7 Cc8 Clt;refine (L.out _ B).mono ?_;rintro e k ⟨rfl, a⟩;have I : j.heap.size ≤ k.heap.size := a.size;replace B := below_step B a;replace X := row_keep a X;replace C := row_keep a C;clear a;by_cases f : kp = 0
  ·have zt : (kp == 0) = true := by simp [f]
   subst f;have f : (0 : Int) = 0 := rfl;clear f;obtain ⟨Xc0, Xc1, Xc2, Xc3⟩ := cells_4 X;have Xlt := (ltH X);obtain ⟨Cc0, Cc1, Cc2, Cc3, Cc4, Cc5, Cc6, Cc7, Cc8⟩ := cells_core C;have Clt := (ltH C);go_wp2_with fail
   clear Xc0 Xc1 Xc2 Xc3 Xlt Cc0 Cc1 Cc2 Cc3 Cc4 Cc5 Cc6 Cc7 Cc8 Clt;refine (v.out (by first | rfl | trivial) _ B).mono ?_;rintro e n ⟨rfl, a⟩;have Z : k.heap.size ≤ n.heap.size := a.size;replace B := below_step B a;replace X := row_keep a X;replace C := row_keep a C;clear a;cases q3
   ·skip
    obtain ⟨Xc0, Xc1, Xc2, Xc3⟩ := cells_4 X;have Xlt := (ltH X);obtain ⟨Cc0, Cc1, Cc2, Cc3, Cc4, Cc5, Cc6, Cc7, Cc8⟩ := cells_core C;have Clt := (ltH C);have g : Hid _ := B;clear B X C;go_wp2;go_ret
    exact ⟨by simp, g.out⟩
   ·skip
    obtain ⟨Xc0, Xc1, Xc2, Xc3⟩ := cells_4 X;have Xlt := (ltH X);obtain ⟨Cc0, Cc1, Cc2, Cc3, Cc4, Cc5, Cc6, Cc7, Cc8⟩ := cells_core C;have Clt := (ltH C);go_wp2_with fail
    clear Xc0 Xc1 Xc2 Xc3 Xlt Cc0 Cc1 Cc2 Cc3 Cc4 Cc5 Cc6 Cc7 Cc8 Clt;refine (S.out _).mono ?_;rintro e A ⟨rfl, a⟩;have G : n.heap.size ≤ A.heap.size := a.size;replace B := below_step B a;replace X := row_keep a X;replace C := row_keep a C;clear a;obtain ⟨Xc0, Xc1, Xc2, Xc3⟩ := cells_4 X;have Xlt := (ltH X);obtain ⟨Cc0, Cc1, Cc2, Cc3, Cc4, Cc5, Cc6, Cc7, Cc8⟩ := cells_core C;have Clt := (ltH C);have g : Hid _ := B;clear B X C;go_wp2;go_ret
    exact ⟨by simp, g.out⟩
  ·have zt : (kp == 0) = false := by simp [f]
   have HZ : Hid (¬ kp = 0) := f;clear f;obtain ⟨Xc0, Xc1, Xc2, Xc3⟩ := cells_4 X;have Xlt := (ltH X);obtain ⟨Cc0, Cc1, Cc2, Cc3, Cc4, Cc5, Cc6, Cc7, Cc8⟩ := cells_core C;have Clt := (ltH C);have g : Hid _ := B;clear B X C;go_wp2;go_ret
   exact ⟨by simp [HZ.out], g.out⟩
def restB (k f l m : Int) (d : List Int) : Bool := decide (k = 0) && (decide (f = 0) && (decide (l = 0) && (decide (m = 0) && decide (d.length = 0))))
def fromB (k f l : Int) : Bool := if k ≤ 2 then betw f 0 3 else decide (f = 5) && !decide (l = 0)
def loadB (k m : Int) (d : List Int) : Bool := if k = 4 then betw m 0 3 && isL d else decide (m = 0) && decide (d.length = 0)
def busyB (k f l m : Int) (d : List Int) : Bool := betw k 1 4 && (betw l 0 4 && (fromB k f l && loadB k m d))
def whoB (o s : Int) : Bool := betw o (-1) 3 && (betw s 0 15 && !(decide (0 ≤ o) && !decide (s = 0)))
def entB (u : EntryD) : Bool := whoB u.1 u.2.1 && (if u.2.2.1 then busyB u.2.2.2.1 u.2.2.2.2.1 u.2.2.2.2.2.1 u.2.2.2.2.2.2.1 u.2.2.2.2.2.2.2 else restB u.2.2.2.1 u.2.2.2.2.1 u.2.2.2.2.2.1 u.2.2.2.2.2.2.1 u.2.2.2.2.2.2.2)
theorem eb {o s : Int} {b : Bool} {k f l m : Int} {d : List Int} : entB (o, s, b, k, f, l, m, d) = (whoB o s && (if b then busyB k f l m d else restB k f l m d)) := rfl
end Go.Proofs.YtcocbafhcpdheaaGreatDoor
