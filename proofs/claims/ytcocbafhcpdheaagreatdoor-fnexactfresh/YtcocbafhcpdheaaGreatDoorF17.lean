import Derived.Test.YtcocbafhcpdheaaGreatDoorF00Box
import Derived.Test.YtcocbafhcpdheaaGreatDoorF16
namespace Go.Proofs.YtcocbafhcpdheaaGreatDoor
set_option maxHeartbeats 8000000
open Go.ChangeShapes Go.WideShapes Go.ChangeAt Go.RowKit
set_option linter.unusedVariables false
def opOkD (u : OpD) : Bool := opB u.1 u.2.1 u.2.2.1 u.2.2.2
def adrOk (l : Int) (u : OpD) : Bool := betw u.2.1 0 (2 * l - 1)
def progI (c s y l : Int) (xs : List OpD) : Int := if codeI c s y l = 0 then (if xs.length ≤ 30 then (if xs.all opOkD then (if xs.all (adrOk l) then 0 else 4) else 3) else 2) else 1
def descB (u : DescD) : Bool := if u.1 then betw u.2.2.1 1 3 && isL u.2.2.2 else decide (u.2.2.1 = 0) && decide (u.2.2.2.length = 0)
def dlnOk (l : Int) (u : DescD) : Bool := betw u.2.1 0 (l - 1)
def descI (c s y l : Int) (xs : List DescD) : Int := if codeI c s y l = 0 then (if xs.length ≤ 30 then (if xs.all descB then (if xs.all (dlnOk l) then 0 else 4) else 5) else 2) else 1
theorem all_step {α : Type} {p : α → Bool} {xs : List α} {k : Nat} {x : α} (h : (xs.take k).all p = true) (hx : xs[k]? = some x) (hp : p x = true) : (xs.take (k + 1)).all p = true := by
 rw [List.take_add_one, hx, List.all_append, h];simp [hp]
theorem all_not {α : Type} {p : α → Bool} {xs : List α} {k : Nat} {x : α} (hx : xs[k]? = some x) (hp : p x = false) : xs.all p = false := by
 rw [Bool.eq_false_iff];intro h;have := List.all_eq_true.1 h x (List.mem_of_getElem? hx);rw [hp] at this;cases this
theorem op_addr {u : OpD} (h : opOkD u = true) : 0 ≤ u.2.1 ∧ u.2.1 ≤ 31 := by
 simp [opOkD, opB, betw] at h
 omega
theorem tdiv_two {a : Int} (h : 0 ≤ a) : a.tdiv 2 = a / 2 := Int.tdiv_eq_ediv_of_nonneg h
def codeV (p q : Bool) (n : Int) : Int := if p then (if q then 0 else 4) else n
theorem specProgramCode_any (c s y l : Int) (a : Option Addr) (xs : List OpD) (cap : Nat) (w : World) (h : SlRd opR w a xs) (hm : xs.length ≤ maxLen) :
    Calls Tryz.prog 95 #[.agg #[.int .i64 c, .int .i64 s, .int .i64 y, .int .i64 l], .slice a xs.length cap] w fun e w' => e = .returned (.int .i64 (progI c s y l xs)) ∧ Below w.heap.size w w' := by
 have hm' : xs.length ≤ 9223372036854775807 := hm;have X := heap_at w (.cells #[.int .i64 c, .int .i64 s, .int .i64 y, .int .i64 l] 39);have B := box_below w (.cells #[.int .i64 c, .int .i64 s, .int .i64 y, .int .i64 l] 39);have HS : Hid (∀ W, Below w.heap.size w W → SlRd opR W a xs) := fun W hb => slrd_next h hb;clear h hm;by_cases hc : codeI c s y l = 0
 ·have hl := (code_zero hc).1;by_cases hn : xs.length ≤ 30
  ·have hn' : ¬ ((30 : Int) < (xs.length : Int)) := by omega
   have HV : Hid (progI c s y l xs = codeV (xs.all opOkD) (xs.all (adrOk l)) 3) := by unfold Hid progI codeV; rw [if_pos hc, if_pos hn]
   rw [HV.out];clear HV;generalize hA1 : xs.all opOkD = A1;generalize hA2 : xs.all (adrOk l) = A2;have HA1 : Hid _ := hA1;have HA2 : Hid _ := hA2;clear hA1 hA2;go_enter Tryz.func95, Tryz.ntmps95;go_wp2_with fail
   generalize w.alloc (.cells #[.int .i64 c, .int .i64 s, .int .i64 y, .int .i64 l] 39) = W0 at X B ⊢;refine (specCode_any _ _ _ _ _).mono ?_;rintro e w1 ⟨rfl, b1⟩;replace X := row_keep b1 X;replace B := below_step B b1;clear b1;rw [hc];have HX : Hid _ := And.intro X B;clear X B hc;go_wp2;go_loopw [5] (fun i wr => ∃ k : Nat, k ≤ xs.length ∧ i = .int .i64 k ∧ (xs.take k).all opOkD = true ∧ Below w1.heap.size w1 wr) (fun i _ => xs.length - (intOf i).toNat)
   case atStart => exact ⟨0, Nat.zero_le _, rfl, rfl, Below.refl _ _⟩
   case round =>
    obtain ⟨k, hk, rfl, hall, BB⟩ := hrel;by_cases hlt : k < xs.length
    ·have hlt' : (k : Int) < (xs.length : Int) := by omega
     obtain ⟨x, hx⟩ : ∃ x, xs[k]? = some x := ⟨_, List.getElem?_eq_getElem hlt⟩;obtain ⟨b, off, rfl, x0, x1, x2, x3, -⟩ := op_at (HS.out _ (below_step HX.out.2 BB)) hx;cases hb : opOkD x
     ·have HN : Hid (A1 = false) := by rw [← HA1.out]; exact all_not hx hb
      clear hx hall;go_wp2_with ((go_at_call 147; refine (specOpOk_any _ _ _ _ _).mono ?_; rintro e w' ⟨rfl, bb⟩; rw [show opB x.1 x.2.1 x.2.2.1 x.2.2.2 = _ from hb]; replace BB := below_step BB bb; clear bb))
      go_ret
      exact ⟨ret_int (by rw [HN.out]; rfl), below_step HX.out.2 BB⟩
     ·have HA : Hid ((xs.take (k + 1)).all opOkD = true) := all_step hall hx hb;clear hx hall;go_wp2_with ((go_at_call 147; refine (specOpOk_any _ _ _ _ _).mono ?_; rintro e w' ⟨rfl, bb⟩; rw [show opB x.1 x.2.1 x.2.2.1 x.2.2.2 = _ from hb]; replace BB := below_step BB bb; clear bb))
      go_roundw
      case rel => exact ⟨k + 1, by omega, by go_num, HA.out, BB⟩
      case measure => simp [intOf]; omega
    ·have hkl : k = xs.length := by omega
     subst hkl;rw [List.take_length] at hall;have hA1 : A1 = true := by rw [← HA1.out]; exact hall
     subst hA1;obtain ⟨X, B⟩ := HX.out;replace X := row_keep BB X;replace B := below_step B BB;have HY : Hid _ := And.intro X B;obtain ⟨w2, hw2⟩ : ∃ x, x = wr := ⟨_, rfl⟩;subst hw2;clear hall BB X B HX HA1;go_wp2;go_loopw [6] (fun i wr => ∃ k : Nat, k ≤ xs.length ∧ i = .int .i64 k ∧ (xs.take k).all (adrOk l) = true ∧ Below w2.heap.size w2 wr) (fun i _ => xs.length - (intOf i).toNat)
     case atStart => exact ⟨0, Nat.zero_le _, rfl, rfl, Below.refl _ _⟩
     case round =>
      obtain ⟨k, hk, rfl, hall, BB⟩ := hrel;by_cases hlt : k < xs.length
      ·have hlt' : (k : Int) < (xs.length : Int) := by omega
       obtain ⟨x, hx⟩ : ∃ x, xs[k]? = some x := ⟨_, List.getElem?_eq_getElem hlt⟩;obtain ⟨b, off, rfl, x0, x1, x2, x3, -⟩ := op_at (HS.out _ (below_step HY.out.2 BB)) hx;have X := row_keep BB HY.out.1;obtain ⟨c0, c1, c2, c3⟩ := cells_4 X;have d0 : ∀ n : Cls (fun wx => Below wr.heap.size wr wx), n.w.cell? ⟨w.heap.size, 0, none⟩ = some (.int .i64 c) := fun n => cell_keep n.h c0 (cell_lt c0);have d1 : ∀ n : Cls (fun wx => Below wr.heap.size wr wx), n.w.cell? ⟨w.heap.size, 1, none⟩ = some (.int .i64 s) := fun n => cell_keep n.h c1 (cell_lt c1);have d2 : ∀ n : Cls (fun wx => Below wr.heap.size wr wx), n.w.cell? ⟨w.heap.size, 2, none⟩ = some (.int .i64 y) := fun n => cell_keep n.h c2 (cell_lt c2);have d3 : ∀ n : Cls (fun wx => Below wr.heap.size wr wx), n.w.cell? ⟨w.heap.size, 3, none⟩ = some (.int .i64 l) := fun n => cell_keep n.h c3 (cell_lt c3);have d4 : ∀ n : Cls (fun wx => Below wr.heap.size wr wx), n.w.cell? ⟨b, off + k * 4 + 1, none⟩ = some (.int .i64 x.2.1) := fun n => cell_keep n.h x1 (cell_lt x1);clear c0 c1 c2 c3 x0 x1 x2 x3 X;cases hb : adrOk l x
       ·have HN : Hid (A2 = false) := by rw [← HA2.out]; exact all_not hx hb
        have hb' : betw x.2.1 0 (2 * l - 1) = false := hb;have KA : Hid (∀ W, Calls Tryz.prog 151 #[.agg #[.int .i64 c, .int .i64 s, .int .i64 y, .int .i64 l], .int .i64 x.2.1] W fun e w' => e = .returned (.bool false) ∧ Below W.heap.size W w') := fun W => by rw [← hb']; exact l2Addr_any c s y l x.2.1 W hl
        clear hx hall hb hb';go_wp2;refine region_class (fun wx => Below wr.heap.size wr wx) (by kernel_rfl) (by kernel_rfl) ((Below.refl _ wr).drew) ?_;intro hne;repeat (quiet_step ((go_at_call 151; exact calls_class (KA.out _) (fun w' hc bb => below_step hc bb))))
        refine wpQuiet_nil ?_;intro wx b2;replace BB := below_step BB b2;clear b2 hne d0 d1 d2 d3 d4;go_wp2;go_ret
        exact ⟨ret_int (by rw [HN.out]; rfl), below_step HY.out.2 BB⟩
       ·have HA : Hid ((xs.take (k + 1)).all (adrOk l) = true) := all_step hall hx hb;have hb' : betw x.2.1 0 (2 * l - 1) = true := hb;have KA : Hid (∀ W, Calls Tryz.prog 151 #[.agg #[.int .i64 c, .int .i64 s, .int .i64 y, .int .i64 l], .int .i64 x.2.1] W fun e w' => e = .returned (.bool true) ∧ Below W.heap.size W w') := fun W => by rw [← hb']; exact l2Addr_any c s y l x.2.1 W hl
        clear hx hall hb hb';go_wp2;refine region_class (fun wx => Below wr.heap.size wr wx) (by kernel_rfl) (by kernel_rfl) ((Below.refl _ wr).drew) ?_;intro hne;repeat (quiet_step ((go_at_call 151; exact calls_class (KA.out _) (fun w' hc bb => below_step hc bb))))
        refine wpQuiet_nil ?_;intro wx b2;replace BB := below_step BB b2;clear b2 hne d0 d1 d2 d3 d4;go_wp2;go_roundw
        case rel => exact ⟨k + 1, by omega, by go_num, HA.out, BB⟩
        case measure => simp [intOf]; omega
      ·have hkl : k = xs.length := by omega
       subst hkl;rw [List.take_length] at hall;have hA2 : A2 = true := by rw [← HA2.out]; exact hall
       subst hA2;clear hall;go_wp2;go_ret
       exact ⟨rfl, below_step HY.out.2 BB⟩
  ·have hn' : (30 : Int) < (xs.length : Int) := by omega
   have HV : Hid (progI c s y l xs = 2) := by unfold Hid progI; rw [if_pos hc, if_neg hn]
   rw [HV.out];clear HV HS;go_enter Tryz.func95, Tryz.ntmps95;go_wp2_with fail
   generalize w.alloc (.cells #[.int .i64 c, .int .i64 s, .int .i64 y, .int .i64 l] 39) = W0 at X B ⊢;refine (specCode_any _ _ _ _ _).mono ?_;rintro e w1 ⟨rfl, b1⟩;replace B := below_step B b1;clear b1 X;rw [hc];go_wp2;go_ret
   exact ⟨rfl, B⟩
 ·have HV : Hid (progI c s y l xs = 1) := by unfold Hid progI; rw [if_neg hc]
  rw [HV.out];clear HV HS;have hcb : (codeI c s y l != 0) = true := by simp [hc]
  go_enter Tryz.func95, Tryz.ntmps95;go_wp2_with fail
  generalize w.alloc (.cells #[.int .i64 c, .int .i64 s, .int .i64 y, .int .i64 l] 39) = W0 at X B ⊢;refine (specCode_any _ _ _ _ _).mono ?_;rintro e w1 ⟨rfl, b1⟩;replace B := below_step B b1;clear b1 X;generalize codeI c s y l = q at hcb hc ⊢;go_wp2;go_ret
  exact ⟨rfl, B⟩
theorem l11Desc_any (p : Bool) (q m : Int) (d : List Int) (a : Option Addr) (cap : Nat) (w : World) (h : SlRd intR w a d) :
    Calls Tryz.prog 143 #[.agg #[.bool p, .int .i64 q, .int .i64 m, .slice a d.length cap]] w fun e w' => e = .returned (.bool (descB (p, q, m, d))) ∧ Below w.heap.size w w' := by
 have HB : Hid _ := box_below w;have HL : Hid (∀ W, Below w.heap.size w W → Calls Tryz.prog 144 #[.slice a d.length cap] W fun e w' => e = .returned (.bool (isL d)) ∧ w' = W) := fun W hb => specLineOk_any a d cap W (reads_of (slrd_next h hb));clear h;cases p
 ·by_cases hm : m = 0
  ·subst hm;by_cases h9 : d.length = 0
   ·have hz5 : d = [] := List.eq_nil_of_length_eq_zero h9;subst hz5;go_enter Tryz.func143, Tryz.ntmps143;go_wp2_with fail
    go_ret
    exact ⟨rfl, HB.out _⟩
   ·have hz : ¬ ((d.length : Int) = 0) := by omega
    have hz2 : ((d.length : Int) == 0) = false := beq_false_of_ne hz;have HV : Hid (descB (false, q, 0, d) = false) := by unfold Hid descB; simp [h9]
    rw [HV.out];go_enter Tryz.func143, Tryz.ntmps143;go_wp2_with fail
    go_ret
    exact ⟨rfl, HB.out _⟩
  ·have hmb : (m == 0) = false := beq_false_of_ne hm;have HV : Hid (descB (false, q, m, d) = false) := by unfold Hid descB; simp [hm]
   rw [HV.out];go_enter Tryz.func143, Tryz.ntmps143;go_wp2_with fail
   go_ret
   exact ⟨rfl, HB.out _⟩
 ·cases hb : betw m 1 3
  ·have HV : Hid (descB (true, q, m, d) = false) := by unfold Hid descB; simp [hb]
   rw [HV.out];go_enter Tryz.func143, Tryz.ntmps143;go_wp2_with (go_at_call 98; refine (l1In_any _ _ _ _).mono ?_; rintro e w' ⟨rfl, rfl⟩)
   go_ret
   exact ⟨rfl, HB.out _⟩
  ·have HV : Hid (descB (true, q, m, d) = isL d) := by unfold Hid descB; simp [hb]
   rw [HV.out];go_enter Tryz.func143, Tryz.ntmps143;go_wp2_with (first | (go_at_call 98; refine (l1In_any _ _ _ _).mono ?_; rintro e w' ⟨rfl, rfl⟩) | (go_at_call 144; refine (HL.out _ (HB.out _)).mono ?_; rintro e w' ⟨rfl, rfl⟩))
   go_ret
   exact ⟨rfl, HB.out _⟩
theorem specDescCode_any (c s y l : Int) (a : Option Addr) (xs : List DescD) (cap : Nat) (w : World) (h : SlRd descR w a xs) (hm : xs.length ≤ maxLen) :
    Calls Tryz.prog 92 #[.agg #[.int .i64 c, .int .i64 s, .int .i64 y, .int .i64 l], .slice a xs.length cap] w fun e w' => e = .returned (.int .i64 (descI c s y l xs)) ∧ Below w.heap.size w w' := by
 have hm' : xs.length ≤ 9223372036854775807 := hm;have X := heap_at w (.cells #[.int .i64 c, .int .i64 s, .int .i64 y, .int .i64 l] 39);have B := box_below w (.cells #[.int .i64 c, .int .i64 s, .int .i64 y, .int .i64 l] 39);have HS : Hid (∀ W, Below w.heap.size w W → SlRd descR W a xs) := fun W hb => slrd_next h hb;clear h hm;by_cases hc : codeI c s y l = 0
 ·have hl := (code_zero hc).1;by_cases hn : xs.length ≤ 30
  ·have hn' : ¬ ((30 : Int) < (xs.length : Int)) := by omega
   have HV : Hid (descI c s y l xs = codeV (xs.all descB) (xs.all (dlnOk l)) 5) := by unfold Hid descI codeV; rw [if_pos hc, if_pos hn]
   rw [HV.out];clear HV;generalize hA1 : xs.all descB = A1;generalize hA2 : xs.all (dlnOk l) = A2;have HA1 : Hid _ := hA1;have HA2 : Hid _ := hA2;clear hA1 hA2;go_enter Tryz.func92, Tryz.ntmps92;go_wp2_with fail
   generalize w.alloc (.cells #[.int .i64 c, .int .i64 s, .int .i64 y, .int .i64 l] 39) = W0 at X B ⊢;refine (specCode_any _ _ _ _ _).mono ?_;rintro e w1 ⟨rfl, b1⟩;replace X := row_keep b1 X;replace B := below_step B b1;clear b1;rw [hc];have HX : Hid _ := And.intro X B;clear X B hc;go_wp2;go_loopw [5] (fun i wr => ∃ k : Nat, k ≤ xs.length ∧ i = .int .i64 k ∧ (xs.take k).all descB = true ∧ Below w1.heap.size w1 wr) (fun i _ => xs.length - (intOf i).toNat)
   case atStart => exact ⟨0, Nat.zero_le _, rfl, rfl, Below.refl _ _⟩
   case round =>
    obtain ⟨k, hk, rfl, hall, BB⟩ := hrel;by_cases hlt : k < xs.length
    ·have hlt' : (k : Int) < (xs.length : Int) := by omega
     obtain ⟨x, hx⟩ : ∃ x, xs[k]? = some x := ⟨_, List.getElem?_eq_getElem hlt⟩;obtain ⟨b, off, cs, rfl, hrd, hcell⟩ := slrd_at (HS.out _ (below_step HX.out.2 BB)) hx;obtain ⟨ad, cpw, rfl, -, -, -, -, rd3⟩ := desc_rd hrd;have x0 := hcell 0 _ rfl;have x1 := hcell 1 _ rfl;have x2 := hcell 2 _ rfl;have x3 := hcell 3 _ rfl;rw [show off + (k * descR.size + 0) = off + k * 4 from rfl] at x0;rw [show off + (k * descR.size + 1) = off + k * 4 + 1 from rfl] at x1;rw [show off + (k * descR.size + 2) = off + k * 4 + 2 from rfl] at x2;rw [show off + (k * descR.size + 3) = off + k * 4 + 3 from rfl] at x3;have HRD : Hid _ := rd3;clear hcell hrd rd3;cases hb : descB x
     ·have HN : Hid (A1 = false) := by rw [← HA1.out]; exact all_not hx hb
      clear hx hall;go_wp2_with ((go_at_call 143; refine (l11Desc_any x.1 x.2.1 x.2.2.1 x.2.2.2 _ _ _ HRD.out).mono ?_; rintro e w' ⟨rfl, bb⟩; rw [hb]; replace BB := below_step BB bb; clear bb))
      go_ret
      exact ⟨ret_int (by rw [HN.out]; rfl), below_step HX.out.2 BB⟩
     ·have HA : Hid ((xs.take (k + 1)).all descB = true) := all_step hall hx hb;clear hx hall;go_wp2_with ((go_at_call 143; refine (l11Desc_any x.1 x.2.1 x.2.2.1 x.2.2.2 _ _ _ HRD.out).mono ?_; rintro e w' ⟨rfl, bb⟩; rw [hb]; replace BB := below_step BB bb; clear bb))
      go_roundw
      case rel => exact ⟨k + 1, by omega, by go_num, HA.out, BB⟩
      case measure => simp [intOf]; omega
    ·have hkl : k = xs.length := by omega
     subst hkl;rw [List.take_length] at hall;have hA1 : A1 = true := by rw [← HA1.out]; exact hall
     subst hA1;obtain ⟨X, B⟩ := HX.out;replace X := row_keep BB X;replace B := below_step B BB;have HY : Hid _ := And.intro X B;obtain ⟨w2, hw2⟩ : ∃ x, x = wr := ⟨_, rfl⟩;subst hw2;clear hall BB X B HX HA1;go_wp2;go_loopw [6] (fun i wr => ∃ k : Nat, k ≤ xs.length ∧ i = .int .i64 k ∧ (xs.take k).all (dlnOk l) = true ∧ Below w2.heap.size w2 wr) (fun i _ => xs.length - (intOf i).toNat)
     case atStart => exact ⟨0, Nat.zero_le _, rfl, rfl, Below.refl _ _⟩
     case round =>
      obtain ⟨k, hk, rfl, hall, BB⟩ := hrel;by_cases hlt : k < xs.length
      ·have hlt' : (k : Int) < (xs.length : Int) := by omega
       obtain ⟨x, hx⟩ : ∃ x, xs[k]? = some x := ⟨_, List.getElem?_eq_getElem hlt⟩;obtain ⟨b, off, cs, rfl, hrd, hcell⟩ := slrd_at (HS.out _ (below_step HY.out.2 BB)) hx;obtain ⟨ad, cpw, rfl, -, -, -, -, rd3⟩ := desc_rd hrd;have x0 := hcell 0 _ rfl;have x1 := hcell 1 _ rfl;have x2 := hcell 2 _ rfl;have x3 := hcell 3 _ rfl;rw [show off + (k * descR.size + 0) = off + k * 4 from rfl] at x0;rw [show off + (k * descR.size + 1) = off + k * 4 + 1 from rfl] at x1;rw [show off + (k * descR.size + 2) = off + k * 4 + 2 from rfl] at x2;rw [show off + (k * descR.size + 3) = off + k * 4 + 3 from rfl] at x3;have HRD : Hid _ := rd3;clear hcell hrd rd3;have X := row_keep BB HY.out.1;obtain ⟨c0, c1, c2, c3⟩ := cells_4 X;clear X c0 c1 c2 x0 x2 x3 HRD;by_cases h0 : x.2.1 < 0
       ·have hb : dlnOk l x = false := by simp [dlnOk, betw]; omega
        have HN : Hid (A2 = false) := by rw [← HA2.out]; exact all_not hx hb
        clear hx hall hb;go_wp2_with fail
        go_quiet (fail)
        go_wp2;go_ret
        exact ⟨ret_int (by rw [HN.out]; rfl), be_drewN (below_step HY.out.2 BB) _⟩
       ·by_cases h1 : l ≤ x.2.1
        ·have hb : dlnOk l x = false := by simp [dlnOk, betw]; omega
         have HN : Hid (A2 = false) := by rw [← HA2.out]; exact all_not hx hb
         clear hx hall hb;go_wp2_with fail
         go_quiet (fail)
         go_wp2;go_ret
         exact ⟨ret_int (by rw [HN.out]; rfl), be_drewN (below_step HY.out.2 BB) _⟩
        ·have hb : dlnOk l x = true := by simp [dlnOk, betw]; omega
         have HA : Hid ((xs.take (k + 1)).all (dlnOk l) = true) := all_step hall hx hb;clear hx hall hb;go_wp2_with fail
         go_quiet (fail)
         go_wp2;go_roundw
         case rel => exact ⟨k + 1, by omega, by go_num, HA.out, be_drewN BB _⟩
         case measure => simp [intOf]; omega
      ·have hkl : k = xs.length := by omega
       subst hkl;rw [List.take_length] at hall;have hA2 : A2 = true := by rw [← HA2.out]; exact hall
       subst hA2;clear hall;go_wp2;go_ret
       exact ⟨rfl, below_step HY.out.2 BB⟩
  ·have hn' : (30 : Int) < (xs.length : Int) := by omega
   have HV : Hid (descI c s y l xs = 2) := by unfold Hid descI; rw [if_pos hc, if_neg hn]
   rw [HV.out];clear HV HS;go_enter Tryz.func92, Tryz.ntmps92;go_wp2_with fail
   generalize w.alloc (.cells #[.int .i64 c, .int .i64 s, .int .i64 y, .int .i64 l] 39) = W0 at X B ⊢;refine (specCode_any _ _ _ _ _).mono ?_;rintro e w1 ⟨rfl, b1⟩;replace B := below_step B b1;clear b1 X;rw [hc];go_wp2;go_ret
   exact ⟨rfl, B⟩
 ·have HV : Hid (descI c s y l xs = 1) := by unfold Hid descI; rw [if_neg hc]
  rw [HV.out];clear HV HS;have hcb : (codeI c s y l != 0) = true := by simp [hc]
  go_enter Tryz.func92, Tryz.ntmps92;go_wp2_with fail
  generalize w.alloc (.cells #[.int .i64 c, .int .i64 s, .int .i64 y, .int .i64 l] 39) = W0 at X B ⊢;refine (specCode_any _ _ _ _ _).mono ?_;rintro e w1 ⟨rfl, b1⟩;replace B := below_step B b1;clear b1 X;generalize codeI c s y l = q at hcb hc ⊢;go_wp2;go_ret
  exact ⟨rfl, B⟩
theorem opsOk1_any (x : OpD) (w : World) :
    Calls Tryz.prog 247 #[.agg #[.int .i64 x.1, .int .i64 x.2.1, .int .i64 x.2.2.1, .int .i64 x.2.2.2]] w fun e w' => e = .returned (.bool (!opOkD x)) ∧ Below w.heap.size w w' := by
 have B := box_below w (.cells #[.int .i64 x.1, .int .i64 x.2.1, .int .i64 x.2.2.1, .int .i64 x.2.2.2] 121);have HM : Hid (∀ W, Calls Tryz.prog 232 #[.agg #[.int .i64 x.1, .int .i64 x.2.1, .int .i64 x.2.2.1, .int .i64 x.2.2.2]] W fun e w' => e = .returned (.bool (opOkD x)) ∧ Below W.heap.size W w') := fun W => implOpOk_any x.1 x.2.1 x.2.2.1 x.2.2.2 W;generalize opOkD x = q at HM ⊢;go_enter Tryz.func247, Tryz.ntmps247;go_wp2_with fail
 generalize w.alloc (.cells #[.int .i64 x.1, .int .i64 x.2.1, .int .i64 x.2.2.1, .int .i64 x.2.2.2] 121) = W0 at B ⊢;refine (HM.out _).mono ?_;rintro e w1 ⟨rfl, b1⟩;go_wp2;go_ret
 exact ⟨rfl, below_step B b1⟩
theorem indexBadO_any (a : Option Addr) (xs : List OpD) (cap : Nat) (w : World) (h : SlRd opR w a xs) (hm : xs.length ≤ maxLen) :
    Calls Tryz.prog 270 #[.slice a xs.length cap, .func (.func 247) #[] #[]] w fun e w' => e = .returned (.int .i64 (badP opOkD xs)) ∧ Below w.heap.size w w' := by
 have hm' : xs.length ≤ 9223372036854775807 := hm;have H0 : Hid (∀ W, Below w.heap.size w W → SlRd opR W a xs) := fun W hb => slrd_keep h fun k hk => hb.block k hk;clear h hm;go_enter Tryz.func270, Tryz.ntmps270;go_wp2;go_loopw [8] (fun i wr => ∃ k : Nat, k ≤ xs.length ∧ i = .int .i64 k ∧ (∀ j v, j < k → xs[j]? = some v → opOkD v = true) ∧ Below w.heap.size w wr) (fun i _ => xs.length - (intOf i).toNat)
 case atStart => exact ⟨0, Nat.zero_le _, rfl, fun j v hj => by omega, Below.refl _ _⟩
 case round =>
  obtain ⟨k, hk, rfl, hno, BB⟩ := hrel;by_cases hlt : k < xs.length
  ·have hlt' : (k : Int) < (xs.length : Int) := by omega
   obtain ⟨x, hx⟩ : ∃ x, xs[k]? = some x := ⟨_, List.getElem?_eq_getElem hlt⟩;obtain ⟨b, off, rfl, x0, x1, x2, x3, -⟩ := op_at (H0.out _ BB) hx;have HC := opsOk1_any x wr;have HX : Hid (xs[k]? = some x) := hx;clear hx;cases hb : opOkD x
   ·have HR : Hid (badP opOkD xs = k) := badP_at HX.out hb hno;rw [hb] at HC;go_wp2_with fail
    refine HC.mono ?_;rintro e w2 ⟨rfl, b2⟩;replace BB := below_step BB b2;clear b2 x0 x1 x2 x3;go_wp2;go_ret
    exact ⟨ret_int HR.out.symm, BB⟩
   ·rw [hb] at HC;go_wp2_with fail
    refine HC.mono ?_;rintro e w2 ⟨rfl, b2⟩;replace BB := below_step BB b2;clear b2 x0 x1 x2 x3;go_wp2;go_roundw
    case rel =>
     refine ⟨k + 1, by omega, by go_num, fun j v hj hv => ?_, BB⟩;by_cases he : j < k
     ·exact hno j v he hv
     ·have : j = k := by omega
      subst this;rw [HX.out] at hv;cases hv;exact hb
    case measure => simp [intOf]; omega
  ·have HR : Hid (badP opOkD xs = -1) := badP_no fun j v hv => hno j v (by have := (List.getElem?_eq_some_iff.1 hv).1; omega) hv;go_wp2;go_ret
   exact ⟨ret_int HR.out.symm, BB⟩
theorem containsBadO_any (a : Option Addr) (xs : List OpD) (cap : Nat) (w : World) (h : SlRd opR w a xs) (hm : xs.length ≤ maxLen) :
    Calls Tryz.prog 246 #[.slice a xs.length cap, .func (.func 247) #[] #[]] w fun e w' => e = .returned (.bool (!xs.all opOkD)) ∧ Below w.heap.size w w' := by
 have HI := indexBadO_any a xs cap w h hm;have hab := badP_all opOkD xs;clear h hm;generalize badP opOkD xs = q at HI hab;generalize xs.all opOkD = y at hab ⊢;subst hab;by_cases hq : q < 0
 ·have hq2 : ¬ (0 ≤ q) := by omega
  go_enter Tryz.func246, Tryz.ntmps246;go_wp2_with fail
  refine HI.mono ?_;rintro e w1 ⟨rfl, b1⟩;go_wp2;go_ret
  exact ⟨by simp [hq], b1⟩
 ·have hq2 : 0 ≤ q := by omega
  go_enter Tryz.func246, Tryz.ntmps246;go_wp2_with fail
  refine HI.mono ?_;rintro e w1 ⟨rfl, b1⟩;go_wp2;go_ret
  exact ⟨by simp [hq], b1⟩
def progB (xs : List OpD) : Bool := decide (xs.length ≤ 30) && xs.all opOkD
theorem implOpsOk_any (a : Option Addr) (xs : List OpD) (cap : Nat) (w : World) (h : SlRd opR w a xs) (hm : xs.length ≤ maxLen) :
    Calls Tryz.prog 213 #[.slice a xs.length cap] w fun e w' => e = .returned (.bool (progB xs)) ∧ Below w.heap.size w w' := by
 have HC := containsBadO_any a xs cap w h hm;have hm' : xs.length ≤ 9223372036854775807 := hm;unfold progB;generalize xs.all opOkD = y at HC ⊢;clear h hm;by_cases hl : xs.length ≤ 30
 ·have hl' : (xs.length : Int) ≤ 30 := by omega
  go_enter Tryz.func213, Tryz.ntmps213;go_wp2_with fail
  refine HC.mono ?_;rintro e w1 ⟨rfl, b1⟩;go_wp2;go_ret
  exact ⟨by simp [hl], b1⟩
 ·have hl' : ¬ ((xs.length : Int) ≤ 30) := by omega
  go_enter Tryz.func213, Tryz.ntmps213;go_wp2;go_ret
  exact ⟨by simp, Below.refl _ _⟩
open Go.ChangeShapes Go.WideShapes Go.ChangeAt Go.RowKit Go.Shelf
section
variable {α : Type}
end
variable {α : Type}
variable {α : Type}
def At (w : World) (t : TypeId) (G off : Nat) (cs : List Value) : Prop := ∃ cur, w.heap[G]? = some (.cells cur t (0, 0)) ∧ off + cs.length ≤ cur.size ∧ ∀ j, j < cs.length → cur[off + j]? = cs[j]?
def In (G off n : Nat) (w w' : World) : Prop := ∀ cur t, w.heap[G]? = some (.cells cur t (0, 0)) → ∃ cur' : Array Value, w'.heap[G]? = some (.cells cur' t (0, 0)) ∧ cur'.size = cur.size ∧ ∀ i, i < off ∨ off + n ≤ i → cur'[i]? = cur[i]?
theorem In.refl (G off n : Nat) (w : World) : In G off n w w := fun cur t h => ⟨cur, h, rfl, fun _ _ => rfl⟩
theorem In.trans {G off n : Nat} {a b c : World} (h : In G off n a b) (k : In G off n b c) : In G off n a c := fun cur t hc => by
 obtain ⟨c1, e1, s1, q1⟩ := h cur t hc;obtain ⟨c2, e2, s2, q2⟩ := k c1 t e1;exact ⟨c2, e2, s2.trans s1, fun i hi => (q2 i hi).trans (q1 i hi)⟩
theorem In.same {G off n : Nat} {w w' : World} (h : w'.heap[G]? = w.heap[G]?) : In G off n w w' := fun cur t hc => ⟨cur, h.trans hc, rfl, fun _ _ => rfl⟩
theorem In.set {G off n j : Nat} {w : World} {v : Value} (hj : j < n) : In G off n w (w.setCell ⟨G, off + j, none⟩ v) := fun cur t hc =>
 ⟨_, heap_setCell_same w G (off + j) cur t v hc, by simp, fun i hi => Array.getElem?_setIfInBounds_ne (by omega)⟩
theorem In.mono {G off n off' n' : Nat} {w w' : World} (h : In G off n w w') (h1 : off' ≤ off) (h2 : off + n ≤ off' + n') : In G off' n' w w' := fun cur t hc => by
 obtain ⟨c1, e1, s1, q1⟩ := h cur t hc;exact ⟨c1, e1, s1, fun i hi => q1 i (by omega)⟩
structure Turn (G off n : Nat) (S : Foot) (w w' : World) : Prop where
 chg : Chg (fun k => S k ∨ k = G) w w'
 row : In G off n w w'
theorem Turn.refl (G off n : Nat) (S : Foot) (w : World) : Turn G off n S w w := ⟨Chg.refl _ _, In.refl _ _ _ _⟩
theorem Turn.mono {G off n : Nat} {S T : Foot} {w w' : World} (h : Turn G off n S w w') (hs : Sub S T) : Turn G off n T w w' := ⟨h.chg.mono (fun k hk => hk.imp (hs k) id), h.row⟩
theorem Turn.trans {G off n : Nat} {S S' : Foot} {a b c : World} (h : Turn G off n S a b) (k : Turn G off n S' b c) (hS : ∀ k, S' k → S k ∨ (a.heap.size ≤ k)) : Turn G off n S a c := by
 refine ⟨⟨k.chg.os.trans h.chg.os, k.chg.tape.trans h.chg.tape, k.chg.output.trans h.chg.output, Nat.le_trans h.chg.size k.chg.size, fun j hj hn => ?_⟩, h.row.trans k.row⟩;have hb := h.chg.size;refine (k.chg.block j (by omega) (fun hx => ?_)).trans (h.chg.block j hj hn);rcases hx with hx | hx
 ·rcases hS j hx with h1 | h1
  ·exact hn (.inl h1)
  ·omega
 ·exact hn (.inr hx)
theorem szOps_u : SzC 109 opsR opsM cell1 := by
 rintro cs x left w ⟨a, cap, rfl, l1, l2, l3⟩ h0 h1;exact (szOpS_rep a x cap left w h0 h1 (Nat.le_trans l1 l2)).mono fun e w' ⟨q, r⟩ => ⟨q, be_eq r⟩
theorem toOps_u : ToC 115 opsR opsM cell1 := by
 rintro cs x w ⟨a, cap, rfl, l1, l2, l3⟩ hm;refine (toOpS_rep a x cap w l3 hm).mono ?_;rintro e w' ⟨v, rfl, mm⟩;exact ⟨[v], rfl, mm⟩
theorem eqOps_u : EqC 135 opsR opsM cell1 := by
 rintro cs ds x w ⟨a, cap, rfl, l1, l2, l3⟩ ⟨b, cp, rfl, k1, k2, k3⟩ hm;exact eqOpS_rep a b x cap cp w l3 k3 (by have : lot = 4398046511104 := rfl; omega)
theorem szWay_u : SzC 110 wayR wayM aggV := by
 intro cs x left w h h0 h1;obtain ⟨a, cap, rfl, i1, i2, l1, l2, l3⟩ := way_rd h;exact szWay_rep x.1 x.2.1 x.2.2 a cap left w h0 h1 (Nat.le_trans l1 l2)
theorem toWay_u : ToC 116 wayR wayM aggV := by
 intro cs x w h hm;obtain ⟨a, cap, rfl, i1, i2, l1, l2, l3⟩ := way_rd h;refine (toWay_rep x.1 x.2.1 x.2.2 a cap w i1 i2 l3 (by have : wayM.bk x = 0 + (0 + intsM.bk x.2.2) := rfl; omega)).mono ?_;rintro e w' ⟨av, cv, rfl, mm⟩;exact ⟨_, rfl, mm⟩
theorem eqWay_u : EqC 136 wayR wayM aggV := by
 intro cs ds x w h k hm;obtain ⟨a, cap, rfl, i1, i2, l1, l2, l3⟩ := way_rd h;obtain ⟨b, cp, rfl, _, _, k1, k2, k3⟩ := way_rd k;exact eqWay_rep x.1 x.2.1 x.2.2 a b cap cp w l3 k3 (by have : wayM.bk x = 0 + (0 + intsM.bk x.2.2) := rfl; have : lot = 4398046511104 := rfl; omega)
theorem szCache_u : SzC 108 cacheR cacheM aggV := by
 intro cs x left w h h0 h1;obtain ⟨a, cap, b, cp, rfl, l1, l2, m1, m2, r1, r2⟩ := cache_rd h;exact szCache_rep a b x cap cp left w r1 h0 h1 (Nat.le_trans l1 l2) (Nat.le_trans m1 m2)
theorem toCache_u : ToC 114 cacheR cacheM aggV := by
 intro cs x w h hm;obtain ⟨a, cap, b, cp, rfl, l1, l2, m1, m2, r1, r2⟩ := cache_rd h;refine (toCache_rep a b x cap cp w r1 r2 hm).mono ?_;rintro e w' ⟨av, cv, bv, dv, rfl, mm⟩;exact ⟨_, rfl, mm⟩
theorem eqCache_u : EqC 134 cacheR cacheM aggV := by
 intro cs ds x w h k hm;obtain ⟨a, cap, b, cp, rfl, l1, l2, m1, m2, r1, r2⟩ := cache_rd h;obtain ⟨a', cap', b', cp', rfl, _, _, _, _, t1, t2⟩ := cache_rd k;exact eqCache_rep x a b a' b' cap cp cap' cp' w r1 r2 t1 t2 (by have : lot = 4398046511104 := rfl; omega)
end Go.Proofs.YtcocbafhcpdheaaGreatDoor
