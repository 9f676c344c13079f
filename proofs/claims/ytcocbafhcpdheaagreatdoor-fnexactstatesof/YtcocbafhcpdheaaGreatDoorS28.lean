import Derived.Test.YtcocbafhcpdheaaGreatDoorS00Box
import Derived.Test.YtcocbafhcpdheaaGreatDoorS27
import Derived.Test.YtcocbafhcpdheaaGreatDoorS25
namespace Go.Proofs.YtcocbafhcpdheaaGreatDoor
set_option maxHeartbeats 8000000
open Go.ChangeShapes Go.WideShapes Go.ChangeAt Go.RowKit
set_option linter.unusedVariables false
def opOkD (u : OpD) : Bool := opB u.1 u.2.1 u.2.2.1 u.2.2.2
def adrOk (l : Int) (u : OpD) : Bool := betw u.2.1 0 (2 * l - 1)
def progI (c s y l : Int) (xs : List OpD) : Int := if codeI c s y l = 0 then (if xs.length ≤ 30 then (if xs.all opOkD then (if xs.all (adrOk l) then 0 else 4) else 3) else 2) else 1
def descB (u : DescD) : Bool := if u.1 then betw u.2.2.1 1 3 && isL u.2.2.2 else decide (u.2.2.1 = 0) && decide (u.2.2.2.length = 0)
def dlnOk (l : Int) (u : DescD) : Bool := betw u.2.1 0 (l - 1)
def descI (c s y l : Int) (xs : List DescD) : Int := if codeI c s y l = 0 then (if xs.length ≤ 30 then (if xs.all descB then (if xs.all (dlnOk l) then 0 else 4) else 5) else 2) else 1
theorem all_step {α : Type} {p : α → Bool} {xs : List α} {k : Nat} {x : α} (h : (xs.take k).all p = true) (hx : xs[k]? = some x) (hp : p x = true) : (xs.take (k + 1)).all p = true := by
 rw [List.take_add_one, hx, List.all_append, h];simp [hp]
theorem all_not {α : Type} {p : α → Bool} {xs : List α} {k : Nat} {x : α} (hx : xs[k]? = some x) (hp : p x = false) : xs.all p = false := by
 rw [Bool.eq_false_iff];intro h;have := List.all_eq_true.1 h x (List.mem_of_getElem? hx);rw [hp] at this;cases this
theorem op_addr {u : OpD} (h : opOkD u = true) : 0 ≤ u.2.1 ∧ u.2.1 ≤ 31 := by
 simp [opOkD, opB, betw] at h
 omega
theorem tdiv_two {a : Int} (h : 0 ≤ a) : a.tdiv 2 = a / 2 := Int.tdiv_eq_ediv_of_nonneg h
def codeV (p q : Bool) (n : Int) : Int := if p then (if q then 0 else 4) else n
theorem specProgramCode_any (c s y l : Int) (a : Option Addr) (xs : List OpD) (cap : Nat) (w : World) (h : SlRd opR w a xs) (hm : xs.length ≤ maxLen) :
    Calls Tryz.prog 95 #[.agg #[.int .i64 c, .int .i64 s, .int .i64 y, .int .i64 l], .slice a xs.length cap] w fun e w' => e = .returned (.int .i64 (progI c s y l xs)) ∧ Below w.heap.size w w' := by
 have hm' : xs.length ≤ 9223372036854775807 := hm;have X := heap_at w (.cells #[.int .i64 c, .int .i64 s, .int .i64 y, .int .i64 l] 39);have B := box_below w (.cells #[.int .i64 c, .int .i64 s, .int .i64 y, .int .i64 l] 39);have HS : Hid (∀ W, Below w.heap.size w W → SlRd opR W a xs) := fun W hb => slrd_next h hb;clear h hm;by_cases hc : codeI c s y l = 0
 ·have hl := (code_zero hc).1;by_cases hn : xs.length ≤ 30
  ·have hn' : ¬ ((30 : Int) < (xs.length : Int)) := by omega
   have HV : Hid (progI c s y l xs = codeV (xs.all opOkD) (xs.all (adrOk l)) 3) := by unfold Hid progI codeV; rw [if_pos hc, if_pos hn]
   rw [HV.out];clear HV;generalize hA1 : xs.all opOkD = A1;generalize hA2 : xs.all (adrOk l) = A2;have HA1 : Hid _ := hA1;have HA2 : Hid _ := hA2;clear hA1 hA2;go_enter Tryz.func95, Tryz.ntmps95;go_wp2_with fail
   generalize w.alloc (.cells #[.int .i64 c, .int .i64 s, .int .i64 y, .int .i64 l] 39) = W0 at X B ⊢;refine (specCode_any _ _ _ _ _).mono ?_;rintro e w1 ⟨rfl, b1⟩;replace X := row_keep b1 X;replace B := below_step B b1;clear b1;rw [hc];have HX : Hid _ := And.intro X B;clear X B hc;go_wp2;go_loopw [5] (fun i wr => ∃ k : Nat, k ≤ xs.length ∧ i = .int .i64 k ∧ (xs.take k).all opOkD = true ∧ Below w1.heap.size w1 wr) (fun i _ => xs.length - (intOf i).toNat)
   case atStart => exact ⟨0, Nat.zero_le _, rfl, rfl, Below.refl _ _⟩
   case round =>
    obtain ⟨k, hk, rfl, hall, BB⟩ := hrel;by_cases hlt : k < xs.length
    ·have hlt' : (k : Int) < (xs.length : Int) := by omega
     obtain ⟨x, hx⟩ : ∃ x, xs[k]? = some x := ⟨_, List.getElem?_eq_getElem hlt⟩;obtain ⟨b, off, rfl, x0, x1, x2, x3, -⟩ := op_at (HS.out _ (below_step HX.out.2 BB)) hx;cases hb : opOkD x
     ·have HN : Hid (A1 = false) := by rw [← HA1.out]; exact all_not hx hb
      clear hx hall;go_wp2_with ((go_at_call 147; refine (specOpOk_any _ _ _ _ _).mono ?_; rintro e w' ⟨rfl, bb⟩; rw [show opB x.1 x.2.1 x.2.2.1 x.2.2.2 = _ from hb]; replace BB := below_step BB bb; clear bb))
      go_ret
      exact ⟨ret_int (by rw [HN.out]; rfl), below_step HX.out.2 BB⟩
     ·have HA : Hid ((xs.take (k + 1)).all opOkD = true) := all_step hall hx hb;clear hx hall;go_wp2_with ((go_at_call 147; refine (specOpOk_any _ _ _ _ _).mono ?_; rintro e w' ⟨rfl, bb⟩; rw [show opB x.1 x.2.1 x.2.2.1 x.2.2.2 = _ from hb]; replace BB := below_step BB bb; clear bb))
      go_roundw
      case rel => exact ⟨k + 1, by omega, by go_num, HA.out, BB⟩
      case measure => simp [intOf]; omega
    ·have hkl : k = xs.length := by omega
     subst hkl;rw [List.take_length] at hall;have hA1 : A1 = true := by rw [← HA1.out]; exact hall
     subst hA1;obtain ⟨X, B⟩ := HX.out;replace X := row_keep BB X;replace B := below_step B BB;have HY : Hid _ := And.intro X B;obtain ⟨w2, hw2⟩ : ∃ x, x = wr := ⟨_, rfl⟩;subst hw2;clear hall BB X B HX HA1;go_wp2;go_loopw [6] (fun i wr => ∃ k : Nat, k ≤ xs.length ∧ i = .int .i64 k ∧ (xs.take k).all (adrOk l) = true ∧ Below w2.heap.size w2 wr) (fun i _ => xs.length - (intOf i).toNat)
     case atStart => exact ⟨0, Nat.zero_le _, rfl, rfl, Below.refl _ _⟩
     case round =>
      obtain ⟨k, hk, rfl, hall, BB⟩ := hrel;by_cases hlt : k < xs.length
      ·have hlt' : (k : Int) < (xs.length : Int) := by omega
       obtain ⟨x, hx⟩ : ∃ x, xs[k]? = some x := ⟨_, List.getElem?_eq_getElem hlt⟩;obtain ⟨b, off, rfl, x0, x1, x2, x3, -⟩ := op_at (HS.out _ (below_step HY.out.2 BB)) hx;have X := row_keep BB HY.out.1;obtain ⟨c0, c1, c2, c3⟩ := cells_4 X;have d0 : ∀ n : Cls (fun wx => Below wr.heap.size wr wx), n.w.cell? ⟨w.heap.size, 0, none⟩ = some (.int .i64 c) := fun n => cell_keep n.h c0 (cell_lt c0);have d1 : ∀ n : Cls (fun wx => Below wr.heap.size wr wx), n.w.cell? ⟨w.heap.size, 1, none⟩ = some (.int .i64 s) := fun n => cell_keep n.h c1 (cell_lt c1);have d2 : ∀ n : Cls (fun wx => Below wr.heap.size wr wx), n.w.cell? ⟨w.heap.size, 2, none⟩ = some (.int .i64 y) := fun n => cell_keep n.h c2 (cell_lt c2);have d3 : ∀ n : Cls (fun wx => Below wr.heap.size wr wx), n.w.cell? ⟨w.heap.size, 3, none⟩ = some (.int .i64 l) := fun n => cell_keep n.h c3 (cell_lt c3);have d4 : ∀ n : Cls (fun wx => Below wr.heap.size wr wx), n.w.cell? ⟨b, off + k * 4 + 1, none⟩ = some (.int .i64 x.2.1) := fun n => cell_keep n.h x1 (cell_lt x1);clear c0 c1 c2 c3 x0 x1 x2 x3 X;cases hb : adrOk l x
       ·have HN : Hid (A2 = false) := by rw [← HA2.out]; exact all_not hx hb
        have hb' : betw x.2.1 0 (2 * l - 1) = false := hb;have KA : Hid (∀ W, Calls Tryz.prog 151 #[.agg #[.int .i64 c, .int .i64 s, .int .i64 y, .int .i64 l], .int .i64 x.2.1] W fun e w' => e = .returned (.bool false) ∧ Below W.heap.size W w') := fun W => by rw [← hb']; exact l2Addr_any c s y l x.2.1 W hl
        clear hx hall hb hb';go_wp2;refine region_class (fun wx => Below wr.heap.size wr wx) (by kernel_rfl) (by kernel_rfl) ((Below.refl _ wr).drew) ?_;intro hne;repeat (quiet_step ((go_at_call 151; exact calls_class (KA.out _) (fun w' hc bb => below_step hc bb))))
        refine wpQuiet_nil ?_;intro wx b2;replace BB := below_step BB b2;clear b2 hne d0 d1 d2 d3 d4;go_wp2;go_ret
        exact ⟨ret_int (by rw [HN.out]; rfl), below_step HY.out.2 BB⟩
       ·have HA : Hid ((xs.take (k + 1)).all (adrOk l) = true) := all_step hall hx hb;have hb' : betw x.2.1 0 (2 * l - 1) = true := hb;have KA : Hid (∀ W, Calls Tryz.prog 151 #[.agg #[.int .i64 c, .int .i64 s, .int .i64 y, .int .i64 l], .int .i64 x.2.1] W fun e w' => e = .returned (.bool true) ∧ Below W.heap.size W w') := fun W => by rw [← hb']; exact l2Addr_any c s y l x.2.1 W hl
        clear hx hall hb hb';go_wp2;refine region_class (fun wx => Below wr.heap.size wr wx) (by kernel_rfl) (by kernel_rfl) ((Below.refl _ wr).drew) ?_;intro hne;repeat (quiet_step ((go_at_call 151; exact calls_class (KA.out _) (fun w' hc bb => below_step hc bb))))
        refine wpQuiet_nil ?_;intro wx b2;replace BB := below_step BB b2;clear b2 hne d0 d1 d2 d3 d4;go_wp2;go_roundw
        case rel => exact ⟨k + 1, by omega, by go_num, HA.out, BB⟩
        case measure => simp [intOf]; omega
      ·have hkl : k = xs.length := by omega
       subst hkl;rw [List.take_length] at hall;have hA2 : A2 = true := by rw [← HA2.out]; exact hall
       subst hA2;clear hall;go_wp2;go_ret
       exact ⟨rfl, below_step HY.out.2 BB⟩
  ·have hn' : (30 : Int) < (xs.length : Int) := by omega
   have HV : Hid (progI c s y l xs = 2) := by unfold Hid progI; rw [if_pos hc, if_neg hn]
   rw [HV.out];clear HV HS;go_enter Tryz.func95, Tryz.ntmps95;go_wp2_with fail
   generalize w.alloc (.cells #[.int .i64 c, .int .i64 s, .int .i64 y, .int .i64 l] 39) = W0 at X B ⊢;refine (specCode_any _ _ _ _ _).mono ?_;rintro e w1 ⟨rfl, b1⟩;replace B := below_step B b1;clear b1 X;rw [hc];go_wp2;go_ret
   exact ⟨rfl, B⟩
 ·have HV : Hid (progI c s y l xs = 1) := by unfold Hid progI; rw [if_neg hc]
  rw [HV.out];clear HV HS;have hcb : (codeI c s y l != 0) = true := by simp [hc]
  go_enter Tryz.func95, Tryz.ntmps95;go_wp2_with fail
  generalize w.alloc (.cells #[.int .i64 c, .int .i64 s, .int .i64 y, .int .i64 l] 39) = W0 at X B ⊢;refine (specCode_any _ _ _ _ _).mono ?_;rintro e w1 ⟨rfl, b1⟩;replace B := below_step B b1;clear b1 X;generalize codeI c s y l = q at hcb hc ⊢;go_wp2;go_ret
  exact ⟨rfl, B⟩
theorem l11Desc_any (p : Bool) (q m : Int) (d : List Int) (a : Option Addr) (cap : Nat) (w : World) (h : SlRd intR w a d) :
    Calls Tryz.prog 143 #[.agg #[.bool p, .int .i64 q, .int .i64 m, .slice a d.length cap]] w fun e w' => e = .returned (.bool (descB (p, q, m, d))) ∧ Below w.heap.size w w' := by
 have HB : Hid _ := box_below w;have HL : Hid _ := fun (W : World) (hb : Below w.heap.size w W) => specLineOk_any a d cap W (reads_of (slrd_next h hb));clear h;cases p
 ·by_cases hm : m = 0
  ·subst hm;by_cases h9 : d.length = 0
   ·have hz5 : d = [] := List.eq_nil_of_length_eq_zero h9;subst hz5;go_enter Tryz.func143, Tryz.ntmps143;go_wp2_with fail
    go_ret
    exact ⟨rfl, HB.out _⟩
   ·have hz : ¬ ((d.length : Int) = 0) := by omega
    have hz2 : ((d.length : Int) == 0) = false := beq_false_of_ne hz;have HV : Hid (descB (false, q, 0, d) = false) := by unfold Hid descB; simp [h9]
    rw [HV.out];go_enter Tryz.func143, Tryz.ntmps143;go_wp2_with fail
    go_ret
    exact ⟨rfl, HB.out _⟩
  ·have hmb : (m == 0) = false := beq_false_of_ne hm;have HV : Hid (descB (false, q, m, d) = false) := by unfold Hid descB; simp [hm]
   rw [HV.out];go_enter Tryz.func143, Tryz.ntmps143;go_wp2_with fail
   go_ret
   exact ⟨rfl, HB.out _⟩
 ·cases hb : betw m 1 3
  ·have HV : Hid (descB (true, q, m, d) = false) := by unfold Hid descB; simp [hb]
   rw [HV.out];go_enter Tryz.func143, Tryz.ntmps143;go_wp2_with (go_at_call 98; refine (l1In_any _ _ _ _).mono ?_; rintro e w' ⟨rfl, rfl⟩)
   go_ret
   exact ⟨rfl, HB.out _⟩
  ·have HV : Hid (descB (true, q, m, d) = isL d) := by unfold Hid descB; simp [hb]
   rw [HV.out];go_enter Tryz.func143, Tryz.ntmps143;go_wp2_with (first | (go_at_call 98; refine (l1In_any _ _ _ _).mono ?_; rintro e w' ⟨rfl, rfl⟩) | (go_at_call 144; refine (HL.out _ (HB.out _)).mono ?_; rintro e w' ⟨rfl, rfl⟩))
   go_ret
   exact ⟨rfl, HB.out _⟩
theorem specDescCode_any (c s y l : Int) (a : Option Addr) (xs : List DescD) (cap : Nat) (w : World) (h : SlRd descR w a xs) (hm : xs.length ≤ maxLen) :
    Calls Tryz.prog 92 #[.agg #[.int .i64 c, .int .i64 s, .int .i64 y, .int .i64 l], .slice a xs.length cap] w fun e w' => e = .returned (.int .i64 (descI c s y l xs)) ∧ Below w.heap.size w w' := by
 have hm' : xs.length ≤ 9223372036854775807 := hm;have X := heap_at w (.cells #[.int .i64 c, .int .i64 s, .int .i64 y, .int .i64 l] 39);have B := box_below w (.cells #[.int .i64 c, .int .i64 s, .int .i64 y, .int .i64 l] 39);have HS : Hid (∀ W, Below w.heap.size w W → SlRd descR W a xs) := fun W hb => slrd_next h hb;clear h hm;by_cases hc : codeI c s y l = 0
 ·have hl := (code_zero hc).1;by_cases hn : xs.length ≤ 30
  ·have hn' : ¬ ((30 : Int) < (xs.length : Int)) := by omega
   have HV : Hid (descI c s y l xs = codeV (xs.all descB) (xs.all (dlnOk l)) 5) := by unfold Hid descI codeV; rw [if_pos hc, if_pos hn]
   rw [HV.out];clear HV;generalize hA1 : xs.all descB = A1;generalize hA2 : xs.all (dlnOk l) = A2;have HA1 : Hid _ := hA1;have HA2 : Hid _ := hA2;clear hA1 hA2;go_enter Tryz.func92, Tryz.ntmps92;go_wp2_with fail
   generalize w.alloc (.cells #[.int .i64 c, .int .i64 s, .int .i64 y, .int .i64 l] 39) = W0 at X B ⊢;refine (specCode_any _ _ _ _ _).mono ?_;rintro e w1 ⟨rfl, b1⟩;replace X := row_keep b1 X;replace B := below_step B b1;clear b1;rw [hc];have HX : Hid _ := And.intro X B;clear X B hc;go_wp2;go_loopw [5] (fun i wr => ∃ k : Nat, k ≤ xs.length ∧ i = .int .i64 k ∧ (xs.take k).all descB = true ∧ Below w1.heap.size w1 wr) (fun i _ => xs.length - (intOf i).toNat)
   case atStart => exact ⟨0, Nat.zero_le _, rfl, rfl, Below.refl _ _⟩
   case round =>
    obtain ⟨k, hk, rfl, hall, BB⟩ := hrel;by_cases hlt : k < xs.length
    ·have hlt' : (k : Int) < (xs.length : Int) := by omega
     obtain ⟨x, hx⟩ : ∃ x, xs[k]? = some x := ⟨_, List.getElem?_eq_getElem hlt⟩;obtain ⟨b, off, cs, rfl, hrd, hcell⟩ := slrd_at (HS.out _ (below_step HX.out.2 BB)) hx;obtain ⟨ad, cpw, rfl, -, -, -, -, rd3⟩ := desc_rd hrd;have x0 := hcell 0 _ rfl;have x1 := hcell 1 _ rfl;have x2 := hcell 2 _ rfl;have x3 := hcell 3 _ rfl;rw [show off + (k * descR.size + 0) = off + k * 4 from rfl] at x0;rw [show off + (k * descR.size + 1) = off + k * 4 + 1 from rfl] at x1;rw [show off + (k * descR.size + 2) = off + k * 4 + 2 from rfl] at x2;rw [show off + (k * descR.size + 3) = off + k * 4 + 3 from rfl] at x3;have HRD : Hid _ := rd3;clear hcell hrd rd3;cases hb : descB x
     ·have HN : Hid (A1 = false) := by rw [← HA1.out]; exact all_not hx hb
      clear hx hall;go_wp2_with ((go_at_call 143; refine (l11Desc_any x.1 x.2.1 x.2.2.1 x.2.2.2 _ _ _ HRD.out).mono ?_; rintro e w' ⟨rfl, bb⟩; rw [hb]; replace BB := below_step BB bb; clear bb))
      go_ret
      exact ⟨ret_int (by rw [HN.out]; rfl), below_step HX.out.2 BB⟩
     ·have HA : Hid ((xs.take (k + 1)).all descB = true) := all_step hall hx hb;clear hx hall;go_wp2_with ((go_at_call 143; refine (l11Desc_any x.1 x.2.1 x.2.2.1 x.2.2.2 _ _ _ HRD.out).mono ?_; rintro e w' ⟨rfl, bb⟩; rw [hb]; replace BB := below_step BB bb; clear bb))
      go_roundw
      case rel => exact ⟨k + 1, by omega, by go_num, HA.out, BB⟩
      case measure => simp [intOf]; omega
    ·have hkl : k = xs.length := by omega
     subst hkl;rw [List.take_length] at hall;have hA1 : A1 = true := by rw [← HA1.out]; exact hall
     subst hA1;obtain ⟨X, B⟩ := HX.out;replace X := row_keep BB X;replace B := below_step B BB;have HY : Hid _ := And.intro X B;obtain ⟨w2, hw2⟩ : ∃ x, x = wr := ⟨_, rfl⟩;subst hw2;clear hall BB X B HX HA1;go_wp2;go_loopw [6] (fun i wr => ∃ k : Nat, k ≤ xs.length ∧ i = .int .i64 k ∧ (xs.take k).all (dlnOk l) = true ∧ Below w2.heap.size w2 wr) (fun i _ => xs.length - (intOf i).toNat)
     case atStart => exact ⟨0, Nat.zero_le _, rfl, rfl, Below.refl _ _⟩
     case round =>
      obtain ⟨k, hk, rfl, hall, BB⟩ := hrel;by_cases hlt : k < xs.length
      ·have hlt' : (k : Int) < (xs.length : Int) := by omega
       obtain ⟨x, hx⟩ : ∃ x, xs[k]? = some x := ⟨_, List.getElem?_eq_getElem hlt⟩;obtain ⟨b, off, cs, rfl, hrd, hcell⟩ := slrd_at (HS.out _ (below_step HY.out.2 BB)) hx;obtain ⟨ad, cpw, rfl, -, -, -, -, rd3⟩ := desc_rd hrd;have x0 := hcell 0 _ rfl;have x1 := hcell 1 _ rfl;have x2 := hcell 2 _ rfl;have x3 := hcell 3 _ rfl;rw [show off + (k * descR.size + 0) = off + k * 4 from rfl] at x0;rw [show off + (k * descR.size + 1) = off + k * 4 + 1 from rfl] at x1;rw [show off + (k * descR.size + 2) = off + k * 4 + 2 from rfl] at x2;rw [show off + (k * descR.size + 3) = off + k * 4 + 3 from rfl] at x3;have HRD : Hid _ := rd3;clear hcell hrd rd3;have X := row_keep BB HY.out.1;obtain ⟨c0, c1, c2, c3⟩ := cells_4 X;clear X c0 c1 c2 x0 x2 x3 HRD;by_cases h0 : x.2.1 < 0
       ·have hb : dlnOk l x = false := by simp [dlnOk, betw]; omega
        have HN : Hid (A2 = false) := by rw [← HA2.out]; exact all_not hx hb
        clear hx hall hb;go_wp2_with fail
        go_quiet (fail)
        go_wp2;go_ret
        exact ⟨ret_int (by rw [HN.out]; rfl), be_drewN (below_step HY.out.2 BB) _⟩
       ·by_cases h1 : l ≤ x.2.1
        ·have hb : dlnOk l x = false := by simp [dlnOk, betw]; omega
         have HN : Hid (A2 = false) := by rw [← HA2.out]; exact all_not hx hb
         clear hx hall hb;go_wp2_with fail
         go_quiet (fail)
         go_wp2;go_ret
         exact ⟨ret_int (by rw [HN.out]; rfl), be_drewN (below_step HY.out.2 BB) _⟩
        ·have hb : dlnOk l x = true := by simp [dlnOk, betw]; omega
         have HA : Hid ((xs.take (k + 1)).all (dlnOk l) = true) := all_step hall hx hb;clear hx hall hb;go_wp2_with fail
         go_quiet (fail)
         go_wp2;go_roundw
         case rel => exact ⟨k + 1, by omega, by go_num, HA.out, be_drewN BB _⟩
         case measure => simp [intOf]; omega
      ·have hkl : k = xs.length := by omega
       subst hkl;rw [List.take_length] at hall;have hA2 : A2 = true := by rw [← HA2.out]; exact hall
       subst hA2;clear hall;go_wp2;go_ret
       exact ⟨rfl, below_step HY.out.2 BB⟩
  ·have hn' : (30 : Int) < (xs.length : Int) := by omega
   have HV : Hid (descI c s y l xs = 2) := by unfold Hid descI; rw [if_pos hc, if_neg hn]
   rw [HV.out];clear HV HS;go_enter Tryz.func92, Tryz.ntmps92;go_wp2_with fail
   generalize w.alloc (.cells #[.int .i64 c, .int .i64 s, .int .i64 y, .int .i64 l] 39) = W0 at X B ⊢;refine (specCode_any _ _ _ _ _).mono ?_;rintro e w1 ⟨rfl, b1⟩;replace B := below_step B b1;clear b1 X;rw [hc];go_wp2;go_ret
   exact ⟨rfl, B⟩
 ·have HV : Hid (descI c s y l xs = 1) := by unfold Hid descI; rw [if_neg hc]
  rw [HV.out];clear HV HS;have hcb : (codeI c s y l != 0) = true := by simp [hc]
  go_enter Tryz.func92, Tryz.ntmps92;go_wp2_with fail
  generalize w.alloc (.cells #[.int .i64 c, .int .i64 s, .int .i64 y, .int .i64 l] 39) = W0 at X B ⊢;refine (specCode_any _ _ _ _ _).mono ?_;rintro e w1 ⟨rfl, b1⟩;replace B := below_step B b1;clear b1 X;generalize codeI c s y l = q at hcb hc ⊢;go_wp2;go_ret
  exact ⟨rfl, B⟩
theorem opsOk1_any (x : OpD) (w : World) :
    Calls Tryz.prog 247 #[.agg #[.int .i64 x.1, .int .i64 x.2.1, .int .i64 x.2.2.1, .int .i64 x.2.2.2]] w fun e w' => e = .returned (.bool (!opOkD x)) ∧ Below w.heap.size w w' := by
 have B := box_below w (.cells #[.int .i64 x.1, .int .i64 x.2.1, .int .i64 x.2.2.1, .int .i64 x.2.2.2] 121);have a : Hid (∀ W, Calls Tryz.prog 232 #[.agg #[.int .i64 x.1, .int .i64 x.2.1, .int .i64 x.2.2.1, .int .i64 x.2.2.2]] W fun e w' => e = .returned (.bool (opOkD x)) ∧ Below W.heap.size W w') := fun W => implOpOk_any x.1 x.2.1 x.2.2.1 x.2.2.2 W;generalize opOkD x = q at a ⊢;go_enter Tryz.func247, Tryz.ntmps247;go_wp2_with fail
 generalize w.alloc (.cells #[.int .i64 x.1, .int .i64 x.2.1, .int .i64 x.2.2.1, .int .i64 x.2.2.2] 121) = W0 at B ⊢;refine (a.out _).mono ?_;rintro e w1 ⟨rfl, b⟩;go_wp2;go_ret
 exact ⟨rfl, below_step B b⟩
theorem indexBadO_any (a : Option Addr) (xs : List OpD) (cap : Nat) (w : World) (h : SlRd opR w a xs) (hm : xs.length ≤ maxLen) :
    Calls Tryz.prog 270 #[.slice a xs.length cap, .func (.func 247) #[] #[]] w fun e w' => e = .returned (.int .i64 (badP opOkD xs)) ∧ Below w.heap.size w w' := by
 have B : xs.length ≤ 9223372036854775807 := hm;have D : Hid (∀ W, Below w.heap.size w W → SlRd opR W a xs) := fun W f => slrd_keep h fun k A => f.block k A;clear h hm;go_enter Tryz.func270, Tryz.ntmps270;go_wp2;go_loopw [8] (fun i wr => ∃ k : Nat, k ≤ xs.length ∧ i = .int .i64 k ∧ (∀ j v, j < k → xs[j]? = some v → opOkD v = true) ∧ Below w.heap.size w wr) (fun i _ => xs.length - (intOf i).toNat)
 case atStart => exact ⟨0, Nat.zero_le _, rfl, fun j v hj => by omega, Below.refl _ _⟩
 case round =>
  obtain ⟨k, A, rfl, d, c⟩ := hrel;by_cases m : k < xs.length
  ·have z : (k : Int) < (xs.length : Int) := by omega
   obtain ⟨x, n⟩ : ∃ x, xs[k]? = some x := ⟨_, List.getElem?_eq_getElem m⟩;obtain ⟨b, C, rfl, p, r, y, q, -⟩ := op_at (D.out _ c) n;have l := opsOk1_any x wr;have s : Hid (xs[k]? = some x) := n;clear n;cases f : opOkD x
   ·have o : Hid (badP opOkD xs = k) := badP_at s.out f d;rw [f] at l;go_wp2_with fail
    refine l.mono ?_;rintro e E ⟨rfl, g⟩;replace c := below_step c g;clear g p r y q;go_wp2;go_ret
    exact ⟨ret_int o.out.symm, c⟩
   ·rw [f] at l;go_wp2_with fail
    refine l.mono ?_;rintro e E ⟨rfl, g⟩;replace c := below_step c g;clear g p r y q;go_wp2;go_roundw
    case rel =>
     refine ⟨k + 1, by omega, by go_num, fun j v hj hv => ?_, c⟩;by_cases F : j < k
     ·exact d j v F hv
     ·have : j = k := by omega
      subst this;rw [s.out] at hv;cases hv;exact f
    case measure => simp [intOf]; omega
  ·have o : Hid (badP opOkD xs = -1) := badP_no fun j v hv => d j v (by have := (List.getElem?_eq_some_iff.1 hv).1; omega) hv;go_wp2;go_ret
   exact ⟨ret_int o.out.symm, c⟩
theorem containsBadO_any (a : Option Addr) (xs : List OpD) (cap : Nat) (w : World) (h : SlRd opR w a xs) (hm : xs.length ≤ maxLen) :
    Calls Tryz.prog 246 #[.slice a xs.length cap, .func (.func 247) #[] #[]] w fun e w' => e = .returned (.bool (!xs.all opOkD)) ∧ Below w.heap.size w w' := by
 have d := indexBadO_any a xs cap w h hm;have b := badP_all opOkD xs;clear h hm;generalize badP opOkD xs = q at d b;generalize xs.all opOkD = y at b ⊢;subst b;by_cases g : q < 0
 ·have c : ¬ (0 ≤ q) := by omega
  go_enter Tryz.func246, Tryz.ntmps246;go_wp2_with fail
  refine d.mono ?_;rintro e i ⟨rfl, f⟩;go_wp2;go_ret
  exact ⟨by simp [g], f⟩
 ·have c : 0 ≤ q := by omega
  go_enter Tryz.func246, Tryz.ntmps246;go_wp2_with fail
  refine d.mono ?_;rintro e i ⟨rfl, f⟩;go_wp2;go_ret
  exact ⟨by simp [g], f⟩
def progB (xs : List OpD) : Bool := decide (xs.length ≤ 30) && xs.all opOkD
theorem implOpsOk_any (a : Option Addr) (xs : List OpD) (cap : Nat) (w : World) (h : SlRd opR w a xs) (hm : xs.length ≤ maxLen) :
    Calls Tryz.prog 213 #[.slice a xs.length cap] w fun e w' => e = .returned (.bool (progB xs)) ∧ Below w.heap.size w w' := by
 have c := containsBadO_any a xs cap w h hm;have d : xs.length ≤ 9223372036854775807 := hm;unfold progB;generalize xs.all opOkD = y at c ⊢;clear h hm;by_cases g : xs.length ≤ 30
 ·have b : (xs.length : Int) ≤ 30 := by omega
  go_enter Tryz.func213, Tryz.ntmps213;go_wp2_with fail
  refine c.mono ?_;rintro e w1 ⟨rfl, f⟩;go_wp2;go_ret
  exact ⟨by simp [g], f⟩
 ·have b : ¬ ((xs.length : Int) ≤ 30) := by omega
  go_enter Tryz.func213, Tryz.ntmps213;go_wp2;go_ret
  exact ⟨by simp, Below.refl _ _⟩
open Go.ChangeShapes Go.WideShapes Go.ChangeAt Go.RowKit Go.Shelf
def findP (c : CacheD) (line : Int) : Int × Int × Bool := if betw line 0 15 then (line % (c.1.length : Int), firstI (rowFor c line) line, firstI (rowFor c line) line != -1) else (0, 0, false)
theorem ok_row {c : CacheD} (h : OkC isL treeB c) (line : Int) : pow3 c.1.length ∧ c.1[setNo c line]? = some (rowFor c line) ∧ rowFor c line ≠ [] ∧ (rowFor c line).length ≤ 4 ∧ ((setNo c line : Nat) : Int) = line % (c.1.length : Int) ∧ setNo c line < c.1.length := by
 obtain ⟨a, h2, m, d, g⟩ := h;have b := rowFor_get (line := line) a;have f := (g _ _ b).1;refine ⟨a, b, fun e => ?_, ?_, setNo_cast a, setNo_lt a⟩
 ·rw [e] at f;simp at f
  have := pow3_pos d;omega
 ·rcases d with rfl | rfl | rfl <;> omega
theorem putTwo {w : World} {g : Nat} {x y a b : Value} {t : TypeId} (h : w.heap[g]? = some (.cells #[x, y] t (0, 0))) :
    ((w.setCell ⟨g, 0, none⟩ a).setCell ⟨g, 1, none⟩ b).heap[g]? = some (.cells #[a, b] t (0, 0)) :=
 heap_setCell_same _ g 1 _ t b (heap_setCell_same w g 0 _ t a h)
theorem implFind_any (a b : Option Addr) (c : CacheD) (cap cp : Nat) (line : Int) (w : World) (hok : OkC isL treeB c) (h1 : SlRd waysR w a c.1) :
    Calls Tryz.prog 196 #[.agg #[.slice a c.1.length cap, .slice b c.2.length cp], .int .i64 line] w fun e n => e = .returned (.tuple #[.agg #[.int .i64 (findP c line).1, .int .i64 (findP c line).2.1], .bool (findP c line).2.2]) ∧ Below w.heap.size w n := by
 obtain ⟨M, f, r, D, g, E⟩ := ok_row hok line;obtain ⟨j, m, H, C, rfl, d, -, -, o⟩ := set_at h1 f;cases q : betw line 0 15
 ·have y : Hid (findP c line = (0, 0, false)) := by unfold Hid findP; simp [q]
  clear d o h1 f;go_enter Tryz.func196, Tryz.ntmps196;go_wp2_with (go_at_call 229; refine (lineNumberOk_any _ _).mono ?_; rintro e n ⟨rfl, rfl⟩; rw [q])
  have Y := heap_at (w.alloc (.cells #[.slice (some ⟨j, m, none⟩) c.1.length cap, .slice b c.2.length cp] 92)) (.cells #[.int .i64 0, .int .i64 0] 217);rw [alloc_len] at Y;obtain ⟨I, J⟩ := cells_two Y;refine bodyPost_ret (v := .tuple #[.agg #[.int .i64 0, .int .i64 0], .bool false]) (by simp [results, Tryz.results196, go_sem]) rfl ⟨by rw [y.out], below_step (box_below w _) (box_below _ _)⟩
 ·have F : 0 ≤ line := by simp [betw] at q; omega
  have y : Hid (findP c line = (((setNo c line : Nat) : Int), firstI (rowFor c line) line, firstI (rowFor c line) line != -1)) := by unfold Hid findP; rw [if_pos q, g]
  have G : Hid (∀ W, Calls Tryz.prog 236 #[.agg #[.slice (some ⟨j, m, none⟩) c.1.length cap, .slice b c.2.length cp], .int .i64 line] W fun e n => e = .returned (.int .i64 ((setNo c line : Nat) : Int)) ∧ Below W.heap.size W n) := fun W => by
   have := setOf_any (some ⟨j, m, none⟩) c.1.length cap (.slice b c.2.length cp) _ _ _ rfl line W M F;rwa [← g] at this
  have i : Hid (∀ W, Below w.heap.size w W → Calls Tryz.prog 237 #[.slice H (rowFor c line).length C, .int .i64 line] W fun e n => e = .returned (.int .i64 (firstI (rowFor c line) line)) ∧ Below W.heap.size W n) := fun W hbw =>
   firstWith_any H _ C line W (slrd_keep o fun k hk => hbw.block k hk) r (by omega)
  have s : ((setNo c line : Nat) : Int) < (c.1.length : Int) := by omega
  have z : Hid (∀ W, Below w.heap.size w W → W.cell? ⟨j, m + setNo c line, none⟩ = some (.slice H (rowFor c line).length C)) := fun W hbw => cell_keep hbw d (cell_lt d);clear d o h1 f r D g hok;generalize setNo c line = sn at y G E s z;generalize (rowFor c line).length = rn at i z;generalize firstI (rowFor c line) line = fi at y i;have X := heap_on (.cells #[.int .i64 0, .int .i64 0] 217) (heap_at w (.cells #[.slice (some ⟨j, m, none⟩) c.1.length cap, .slice b c.2.length cp] 92));have Y := heap_at (w.alloc (.cells #[.slice (some ⟨j, m, none⟩) c.1.length cap, .slice b c.2.length cp] 92)) (.cells #[.int .i64 0, .int .i64 0] 217);rw [alloc_len] at Y;have B := below_step (box_below w (.cells #[.slice (some ⟨j, m, none⟩) c.1.length cap, .slice b c.2.length cp] 92)) (box_below _ (.cells #[.int .i64 0, .int .i64 0] 217));go_enter Tryz.func196, Tryz.ntmps196;go_wp2_with (go_at_call 229; refine (lineNumberOk_any _ _).mono ?_; rintro e n ⟨rfl, rfl⟩; rw [q])
  generalize (w.alloc (.cells #[.slice (some ⟨j, m, none⟩) c.1.length cap, .slice b c.2.length cp] 92)).alloc (.cells #[.int .i64 0, .int .i64 0] 217) = W0 at X Y B ⊢;refine (G.out _).mono ?_;rintro e w1 ⟨rfl, l⟩;replace B := below_step B l;replace X := row_keep l X;replace Y := row_keep l Y;obtain ⟨L, N⟩ := cells_two X;have O := z.out _ B;clear l;go_wp2_with fail
  refine (i.out _ B).mono ?_;rintro e A ⟨rfl, l⟩;replace B := below_step B l;replace Y := row_keep l Y;obtain ⟨y0, y1⟩ := cells_two Y;obtain ⟨f0, f1⟩ : A.frozen? ⟨w.heap.size + 1, 0, none⟩ = false ∧ A.frozen? ⟨w.heap.size + 1, 1, none⟩ = false := ⟨frozen_of_row A _ 0 _ _ Y, frozen_of_row A _ 1 _ _ Y⟩;have K : Hid _ := Y;clear l O L N X Y G i z;go_wp2;have Z := putTwo (a := .int .i64 (sn : Int)) (b := .int .i64 fi) K.out;obtain ⟨I, J⟩ := cells_two Z;refine bodyPost_ret (v := .tuple #[.agg #[.int .i64 (sn : Int), .int .i64 fi], .bool (fi != -1)]) (by simp [results, Tryz.results196, go_sem, I, J]) rfl ⟨by rw [y.out], (B.setCell (p := ⟨w.heap.size + 1, 0, none⟩) (by simp) _).setCell (p := ⟨w.heap.size + 1, 1, none⟩) (by simp) _⟩
def idxI (o : Option Nat) : Int := match o with
 | some i => (i : Int)
 | none => -1
theorem firstI_eq (row : List WayD) (line : Int) : firstI row line = idxI (row.findIdx? fun u => u.1 == line) := by
 unfold firstI idxI;cases row.findIdx? fun u => u.1 == line <;> rfl
theorem idxI_neg (o : Option Nat) : (idxI o != -1) = o.isSome := by
 cases o with
 | none => rfl
 | some i =>
  have : ((i : Int) != -1) = true := by simp
  exact this
theorem at_first {c : CacheD} {line : Int} (h0 : 0 ≤ line) : firstI (rowFor c line) line = idxI (atC c line) := by
 rw [firstI_eq];unfold atC;rw [if_neg (by omega)]
theorem at_out {c : CacheD} (h : OkC isL treeB c) {line : Int} (hl : betw line 0 15 = false) : atC c line = none := by
 cases f : atC c line with
 | none => rfl
 | some i =>
  obtain ⟨h0, u, d, a⟩ := at_some f;obtain ⟨j, h2, m, hm, g⟩ := h;rcases (g _ _ (rowFor_get (line := line) j)).2.2.1 i u d with b | ⟨k, _⟩
  ·rw [clear_eq b] at a;simp [emptyW] at a
   omega
  ·have := full_line k;simp [betw] at hl
   omega
theorem findP_eq {c : CacheD} (h : OkC isL treeB c) {line : Int} : findP c line = if betw line 0 15 then (((setNo c line : Nat) : Int), idxI (atC c line), (atC c line).isSome) else (0, 0, false) := by
 unfold findP;split
 ·rename_i hb
  have a : 0 ≤ line := by simp [betw] at hb; omega
  rw [at_first a, idxI_neg, setNo_cast h.1]
 ·rfl
theorem go_in {t n : Int} (h : treeB t n = true) : 0 ≤ goI t n ∧ goI t n < n ∧ viI t n = goI t n := by
 refine ⟨?_, ?_, by unfold viI; rw [if_pos h]⟩
 all_goals
  simp only [treeB, decide_eq_true_eq] at h;unfold goI;rcases h with ⟨rfl, rfl⟩ | ⟨rfl, a, b⟩ | ⟨rfl, a, b⟩
  ·simp
  ·simp
   omega
  ·have c : t = 0 ∨ t = 1 ∨ t = 2 ∨ t = 3 ∨ t = 4 ∨ t = 5 ∨ t = 6 ∨ t = 7 := by omega
   rcases c with rfl | rfl | rfl | rfl | rfl | rfl | rfl | rfl <;> decide
theorem idx_first {p : WayD → Bool} {row : List WayD} {k : Nat} {u : WayD} (hu : row[k]? = some u) (hp : p u = true) (hno : ∀ j v, j < k → row[j]? = some v → p v = false) : row.findIdx? p = some k := by
 have a := (List.getElem?_eq_some_iff.1 hu).1;rw [List.findIdx?_eq_some_iff_getElem];refine ⟨a, ?_, fun j hj => ?_⟩
 ·rw [List.getElem?_eq_getElem a] at hu;cases hu;exact hp
 ·simpa using hno j _ hj (List.getElem?_eq_getElem (by omega))
theorem idx_never {p : WayD → Bool} {row : List WayD} (hno : ∀ (j : Nat) (v : WayD), row[j]? = some v → p v = false) : row.findIdx? p = none := by
 rw [List.findIdx?_eq_none_iff];intro u a;obtain ⟨j, b⟩ := List.mem_iff_getElem?.1 a;simpa using hno j u b
theorem specAt_any (a b : Option Addr) (c : CacheD) (cap cp : Nat) (line : Int) (w : World) (hok : OkC isL treeB c) (h1 : SlRd waysR w a c.1) :
    Calls Tryz.prog 150 #[.agg #[.slice a c.1.length cap, .slice b c.2.length cp], .int .i64 line] w fun e w' => e = .returned (.int .i64 (idxI (atC c line))) ∧ Below w.heap.size w w' := by
 have X := heap_at w (.cells #[.slice a c.1.length cap, .slice b c.2.length cp] 92);have B := box_below w (.cells #[.slice a c.1.length cap, .slice b c.2.length cp] 92);by_cases p : line < 0
 ·have Z : Hid (idxI (atC c line) = -1) := by unfold Hid atC; rw [if_pos p]; rfl
  go_enter Tryz.func150, Tryz.ntmps150;go_wp2;go_ret
  exact ⟨ret_int Z.out.symm, B⟩
 ·have bA : 0 ≤ line := by omega
  have G : Hid (atC c line = (rowFor c line).findIdx? fun u => u.1 == line) := by unfold Hid atC; rw [if_neg p]
  obtain ⟨hp, n, H, D, o, F⟩ := ok_row hok line;obtain ⟨T, o0, V, cj, rfl, f, -, -, g⟩ := set_at h1 n;have hz : (c.1.length : Int) ≠ 0 := by omega
  have y : ((setNo c line : Nat) : Int) < (c.1.length : Int) := by omega
  have q : line % (c.1.length : Int) = ((setNo c line : Nat) : Int) := o.symm;have A := cell_keep B f (cell_lt f);have s : Hid (SlRd wayR w V (rowFor c line)) := g;clear f g h1 n o hok H;obtain ⟨L, N⟩ := cells_two X;generalize setNo c line = sn at F y q A;generalize rowFor c line = row at D A s G;go_enter Tryz.func150, Tryz.ntmps150;go_wp2_with fail
  generalize w.alloc (.cells #[.slice (some ⟨T, o0, none⟩) c.1.length cap, .slice b c.2.length cp] 92) = W0 at X B L N A ⊢;go_quiet (fail)
  have C := bl_drewN B nq;clear L N A X B;go_wp2;go_loop [6] (fun i => ∃ k : Nat, k ≤ row.length ∧ i = .int .i64 k ∧ ∀ j v, j < k → row[j]? = some v → (v.1 == line) = false) (fun i => row.length - (intOf i).toNat)
  case atStart => exact ⟨0, Nat.zero_le _, rfl, fun j v hj => by omega⟩
  case round =>
   obtain ⟨k, M, rfl, r⟩ := hrel;by_cases E : k < row.length
   ·have z : (k : Int) < (row.length : Int) := by omega
    obtain ⟨u, J⟩ : ∃ u, row[k]? = some u := ⟨_, List.getElem?_eq_getElem E⟩;obtain ⟨bk, O, cs, rfl, g, f⟩ := slrd_at (slrd_keep s.out fun k M => C.block k M) J;obtain ⟨ad, U, rfl, -, -, -, -, -⟩ := way_rd g;have R := f 0 _ rfl;rw [show O + (k * wayR.size + 0) = O + k * 3 from rfl] at R;have S : Hid (row[k]? = some u) := J;obtain ⟨l, st, d⟩ := u;simp only at R
    clear f g J;by_cases K : l = line
    ·have m : Hid (idxI (atC c line) = k) := by unfold Hid; rw [G.out, idx_first S.out (by simp [K]) r]; rfl
     subst K;go_wp2;go_ret
     exact ⟨ret_int m.out.symm, C⟩
    ·have I : (l == line) = false := by simpa using K
     go_wp2;go_round
     case rel =>
      refine ⟨k + 1, by omega, by go_num, fun j v hj hv => ?_⟩;by_cases Y : j < k
      ·exact r j v Y hv
      ·have : j = k := by omega
       subst this;rw [S.out] at hv;cases hv;exact I
     case measure => simp [intOf]; omega
   ·have m : Hid (idxI (atC c line) = -1) := by
      unfold Hid;rw [G.out, idx_never fun j v hv => r j v (by have := (List.getElem?_eq_some_iff.1 hv).1; omega) hv];rfl
    have z : ¬ (k : Int) < (row.length : Int) := by omega
    go_wp2;go_ret
    exact ⟨ret_int m.out.symm, C⟩
end Go.Proofs.YtcocbafhcpdheaaGreatDoor
