import Derived.Test.YthnfkacboijneaaGreatDoorP09OpL
import Derived.Test.YthnfkacboijneaaGreatDoorP10Ops
import Derived.Test.YthnfkacboijneaaGreatDoorP11Descs
import Derived.Deep.QuietTactic
namespace Go.Proofs.YthnfkacboijneaaGreatDoor
open Go.ChangeShapes Go.WideShapes Go.ChangeAt Go.RowKit
set_option linter.unusedVariables false
def opOkD (u : OpD) : Bool := opB u.1 u.2.1 u.2.2.1 u.2.2.2
def adrOk (l : Int) (u : OpD) : Bool := betw u.2.1 0 (2 * l - 1)
def progI (c s y l : Int) (xs : List OpD) : Int := if codeI c s y l = 0 then (if xs.length ≤ 30 then (if xs.all opOkD then (if xs.all (adrOk l) then 0 else 4) else 3) else 2) else 1
def descB (u : DescD) : Bool := if u.1 then betw u.2.2.1 1 3 && isL u.2.2.2 else decide (u.2.2.1 = 0) && decide (u.2.2.2.length = 0)
def dlnOk (l : Int) (u : DescD) : Bool := betw u.2.1 0 (l - 1)
def descI (c s y l : Int) (xs : List DescD) : Int := if codeI c s y l = 0 then (if xs.length ≤ 30 then (if xs.all descB then (if xs.all (dlnOk l) then 0 else 4) else 5) else 2) else 1
theorem all_step {α : Type} {p : α → Bool} {xs : List α} {k : Nat} {x : α} (h : (xs.take k).all p = true) (hx : xs[k]? = some x) (hp : p x = true) : (xs.take (k + 1)).all p = true := by
 rw [List.take_add_one, hx, List.all_append, h]
 simp [hp]
theorem all_not {α : Type} {p : α → Bool} {xs : List α} {k : Nat} {x : α} (hx : xs[k]? = some x) (hp : p x = false) : xs.all p = false := by
 rw [Bool.eq_false_iff]
 intro h
 have := List.all_eq_true.1 h x (List.mem_of_getElem? hx)
 rw [hp] at this
 cases this
theorem op_addr {u : OpD} (h : opOkD u = true) : 0 ≤ u.2.1 ∧ u.2.1 ≤ 31 := by
 simp [opOkD, opB, betw] at h
 omega
theorem tdiv_two {a : Int} (h : 0 ≤ a) : a.tdiv 2 = a / 2 := Int.tdiv_eq_ediv_of_nonneg h
def codeV (p q : Bool) (n : Int) : Int := if p then (if q then 0 else 4) else n
set_option maxHeartbeats 8000000 in
theorem specProgramCode_any (c s y l : Int) (a : Option Addr) (xs : List OpD) (cap : Nat) (w : World) (h : SlRd opR w a xs) (hm : xs.length ≤ maxLen) :
    Calls Tryz.prog 34 #[.agg #[.int .i64 c, .int .i64 s, .int .i64 y, .int .i64 l], .slice a xs.length cap] w fun e w' => e = .returned (.int .i64 (progI c s y l xs)) ∧ Below w.heap.size w w' := by
 have hm' : xs.length ≤ 9223372036854775807 := hm
 have X := heap_at w (.cells #[.int .i64 c, .int .i64 s, .int .i64 y, .int .i64 l] 38)
 have B := box_below w (.cells #[.int .i64 c, .int .i64 s, .int .i64 y, .int .i64 l] 38)
 have HS : Hid (∀ W, Below w.heap.size w W → SlRd opR W a xs) := fun W hb => slrd_next h hb
 clear h hm
 by_cases hc : codeI c s y l = 0
 ·have hl := (code_zero hc).1
  by_cases hn : xs.length ≤ 30
  ·have hn' : ¬ ((30 : Int) < (xs.length : Int)) := by omega
   have HV : Hid (progI c s y l xs = codeV (xs.all opOkD) (xs.all (adrOk l)) 3) := by unfold Hid progI codeV; rw [if_pos hc, if_pos hn]
   rw [HV.out]
   clear HV
   generalize hA1 : xs.all opOkD = A1
   generalize hA2 : xs.all (adrOk l) = A2
   have HA1 : Hid _ := hA1
   have HA2 : Hid _ := hA2
   clear hA1 hA2
   go_enter Tryz.func34, Tryz.ntmps34
   go_wp2_with fail
   generalize w.alloc (.cells #[.int .i64 c, .int .i64 s, .int .i64 y, .int .i64 l] 38) = W0 at X B ⊢
   refine (specCode_any _ _ _ _ _).mono ?_
   rintro e w1 ⟨rfl, b1⟩
   replace X := row_keep b1 X
   replace B := below_step B b1
   clear b1
   rw [hc]
   have HX : Hid _ := And.intro X B
   clear X B hc
   go_wp2
   go_loopw [5] (fun i wr => ∃ k : Nat, k ≤ xs.length ∧ i = .int .i64 k ∧ (xs.take k).all opOkD = true ∧ Below w1.heap.size w1 wr) (fun i _ => xs.length - (intOf i).toNat)
   case atStart => exact ⟨0, Nat.zero_le _, rfl, rfl, Below.refl _ _⟩
   case round =>
    obtain ⟨k, hk, rfl, hall, BB⟩ := hrel
    by_cases hlt : k < xs.length
    ·have hlt' : (k : Int) < (xs.length : Int) := by omega
     obtain ⟨x, hx⟩ : ∃ x, xs[k]? = some x := ⟨_, List.getElem?_eq_getElem hlt⟩
     obtain ⟨b, off, rfl, x0, x1, x2, x3, -⟩ := op_at (HS.out _ (below_step HX.out.2 BB)) hx
     cases hb : opOkD x
     ·have HN : Hid (A1 = false) := by rw [← HA1.out]; exact all_not hx hb
      clear hx hall
      go_wp2_with ((go_at_call 92; refine (specOpOk_any _ _ _ _ _).mono ?_; rintro e w' ⟨rfl, bb⟩; rw [show opB x.1 x.2.1 x.2.2.1 x.2.2.2 = _ from hb]; replace BB := below_step BB bb; clear bb))
      go_ret
      exact ⟨ret_int (by rw [HN.out]; rfl), below_step HX.out.2 BB⟩
     ·have HA : Hid ((xs.take (k + 1)).all opOkD = true) := all_step hall hx hb
      clear hx hall
      go_wp2_with ((go_at_call 92; refine (specOpOk_any _ _ _ _ _).mono ?_; rintro e w' ⟨rfl, bb⟩; rw [show opB x.1 x.2.1 x.2.2.1 x.2.2.2 = _ from hb]; replace BB := below_step BB bb; clear bb))
      go_roundw
      case rel => exact ⟨k + 1, by omega, by go_num, HA.out, BB⟩
      case measure => simp [intOf]; omega
    ·have hkl : k = xs.length := by omega
     subst hkl
     rw [List.take_length] at hall
     have hA1 : A1 = true := by rw [← HA1.out]; exact hall
     subst hA1
     obtain ⟨X, B⟩ := HX.out
     replace X := row_keep BB X
     replace B := below_step B BB
     have HY : Hid _ := And.intro X B
     obtain ⟨w2, hw2⟩ : ∃ x, x = wr := ⟨_, rfl⟩
     subst hw2
     clear hall BB X B HX HA1
     go_wp2
     go_loopw [6] (fun i wr => ∃ k : Nat, k ≤ xs.length ∧ i = .int .i64 k ∧ (xs.take k).all (adrOk l) = true ∧ Below w2.heap.size w2 wr) (fun i _ => xs.length - (intOf i).toNat)
     case atStart => exact ⟨0, Nat.zero_le _, rfl, rfl, Below.refl _ _⟩
     case round =>
      obtain ⟨k, hk, rfl, hall, BB⟩ := hrel
      by_cases hlt : k < xs.length
      ·have hlt' : (k : Int) < (xs.length : Int) := by omega
       obtain ⟨x, hx⟩ : ∃ x, xs[k]? = some x := ⟨_, List.getElem?_eq_getElem hlt⟩
       obtain ⟨b, off, rfl, x0, x1, x2, x3, -⟩ := op_at (HS.out _ (below_step HY.out.2 BB)) hx
       have X := row_keep BB HY.out.1
       obtain ⟨c0, c1, c2, c3⟩ := cells_4 X
       have d0 : ∀ n : Cls (fun wx => Below wr.heap.size wr wx), n.w.cell? ⟨w.heap.size, 0, none⟩ = some (.int .i64 c) := fun n => cell_keep n.h c0 (cell_lt c0)
       have d1 : ∀ n : Cls (fun wx => Below wr.heap.size wr wx), n.w.cell? ⟨w.heap.size, 1, none⟩ = some (.int .i64 s) := fun n => cell_keep n.h c1 (cell_lt c1)
       have d2 : ∀ n : Cls (fun wx => Below wr.heap.size wr wx), n.w.cell? ⟨w.heap.size, 2, none⟩ = some (.int .i64 y) := fun n => cell_keep n.h c2 (cell_lt c2)
       have d3 : ∀ n : Cls (fun wx => Below wr.heap.size wr wx), n.w.cell? ⟨w.heap.size, 3, none⟩ = some (.int .i64 l) := fun n => cell_keep n.h c3 (cell_lt c3)
       have d4 : ∀ n : Cls (fun wx => Below wr.heap.size wr wx), n.w.cell? ⟨b, off + k * 4 + 1, none⟩ = some (.int .i64 x.2.1) := fun n => cell_keep n.h x1 (cell_lt x1)
       clear c0 c1 c2 c3 x0 x1 x2 x3 X
       cases hb : adrOk l x
       ·have HN : Hid (A2 = false) := by rw [← HA2.out]; exact all_not hx hb
        have hb' : betw x.2.1 0 (2 * l - 1) = false := hb
        have KA : Hid (∀ W, Calls Tryz.prog 96 #[.agg #[.int .i64 c, .int .i64 s, .int .i64 y, .int .i64 l], .int .i64 x.2.1] W fun e w' => e = .returned (.bool false) ∧ Below W.heap.size W w') := fun W => by rw [← hb']; exact l2Addr_any c s y l x.2.1 W hl
        clear hx hall hb hb'
        go_wp2
        refine region_class (fun wx => Below wr.heap.size wr wx) (by kernel_rfl) (by kernel_rfl) ((Below.refl _ wr).drew) ?_
        intro hne
        repeat (quiet_step ((go_at_call 96; exact calls_class (KA.out _) (fun w' hc bb => below_step hc bb))))
        refine wpQuiet_nil ?_
        intro wx b2
        replace BB := below_step BB b2
        clear b2 hne d0 d1 d2 d3 d4
        go_wp2
        go_ret
        exact ⟨ret_int (by rw [HN.out]; rfl), below_step HY.out.2 BB⟩
       ·have HA : Hid ((xs.take (k + 1)).all (adrOk l) = true) := all_step hall hx hb
        have hb' : betw x.2.1 0 (2 * l - 1) = true := hb
        have KA : Hid (∀ W, Calls Tryz.prog 96 #[.agg #[.int .i64 c, .int .i64 s, .int .i64 y, .int .i64 l], .int .i64 x.2.1] W fun e w' => e = .returned (.bool true) ∧ Below W.heap.size W w') := fun W => by rw [← hb']; exact l2Addr_any c s y l x.2.1 W hl
        clear hx hall hb hb'
        go_wp2
        refine region_class (fun wx => Below wr.heap.size wr wx) (by kernel_rfl) (by kernel_rfl) ((Below.refl _ wr).drew) ?_
        intro hne
        repeat (quiet_step ((go_at_call 96; exact calls_class (KA.out _) (fun w' hc bb => below_step hc bb))))
        refine wpQuiet_nil ?_
        intro wx b2
        replace BB := below_step BB b2
        clear b2 hne d0 d1 d2 d3 d4
        go_wp2
        go_roundw
        case rel => exact ⟨k + 1, by omega, by go_num, HA.out, BB⟩
        case measure => simp [intOf]; omega
      ·have hkl : k = xs.length := by omega
       subst hkl
       rw [List.take_length] at hall
       have hA2 : A2 = true := by rw [← HA2.out]; exact hall
       subst hA2
       clear hall
       go_wp2
       go_ret
       exact ⟨rfl, below_step HY.out.2 BB⟩
  ·have hn' : (30 : Int) < (xs.length : Int) := by omega
   have HV : Hid (progI c s y l xs = 2) := by unfold Hid progI; rw [if_pos hc, if_neg hn]
   rw [HV.out]
   clear HV HS
   go_enter Tryz.func34, Tryz.ntmps34
   go_wp2_with fail
   generalize w.alloc (.cells #[.int .i64 c, .int .i64 s, .int .i64 y, .int .i64 l] 38) = W0 at X B ⊢
   refine (specCode_any _ _ _ _ _).mono ?_
   rintro e w1 ⟨rfl, b1⟩
   replace B := below_step B b1
   clear b1 X
   rw [hc]
   go_wp2
   go_ret
   exact ⟨rfl, B⟩
 ·have HV : Hid (progI c s y l xs = 1) := by unfold Hid progI; rw [if_neg hc]
  rw [HV.out]
  clear HV HS
  have hcb : (codeI c s y l != 0) = true := by simp [hc]
  go_enter Tryz.func34, Tryz.ntmps34
  go_wp2_with fail
  generalize w.alloc (.cells #[.int .i64 c, .int .i64 s, .int .i64 y, .int .i64 l] 38) = W0 at X B ⊢
  refine (specCode_any _ _ _ _ _).mono ?_
  rintro e w1 ⟨rfl, b1⟩
  replace B := below_step B b1
  clear b1 X
  generalize codeI c s y l = q at hcb hc ⊢
  go_wp2
  go_ret
  exact ⟨rfl, B⟩
set_option maxHeartbeats 4000000 in
theorem l11Desc_any (p : Bool) (q m : Int) (d : List Int) (a : Option Addr) (cap : Nat) (w : World) (h : SlRd intR w a d) :
    Calls Tryz.prog 88 #[.agg #[.bool p, .int .i64 q, .int .i64 m, .slice a d.length cap]] w fun e w' => e = .returned (.bool (descB (p, q, m, d))) ∧ Below w.heap.size w w' := by
 have HB : Hid _ := box_below w
 have HL : Hid (∀ W, Below w.heap.size w W → Calls Tryz.prog 89 #[.slice a d.length cap] W fun e w' => e = .returned (.bool (isL d)) ∧ w' = W) := fun W hb => specLineOk_any a d cap W (reads_of (slrd_next h hb))
 clear h
 cases p
 ·by_cases hm : m = 0
  ·subst hm
   by_cases h9 : d.length = 0
   ·have hz5 : d = [] := List.eq_nil_of_length_eq_zero h9
    subst hz5
    go_enter Tryz.func88, Tryz.ntmps88
    go_wp2_with fail
    go_ret
    exact ⟨rfl, HB.out _⟩
   ·have hz : ¬ ((d.length : Int) = 0) := by omega
    have hz2 : ((d.length : Int) == 0) = false := beq_false_of_ne hz
    have HV : Hid (descB (false, q, 0, d) = false) := by unfold Hid descB; simp [h9]
    rw [HV.out]
    go_enter Tryz.func88, Tryz.ntmps88
    go_wp2_with fail
    go_ret
    exact ⟨rfl, HB.out _⟩
  ·have hmb : (m == 0) = false := beq_false_of_ne hm
   have HV : Hid (descB (false, q, m, d) = false) := by unfold Hid descB; simp [hm]
   rw [HV.out]
   go_enter Tryz.func88, Tryz.ntmps88
   go_wp2_with fail
   go_ret
   exact ⟨rfl, HB.out _⟩
 ·cases hb : betw m 1 3
  ·have HV : Hid (descB (true, q, m, d) = false) := by unfold Hid descB; simp [hb]
   rw [HV.out]
   go_enter Tryz.func88, Tryz.ntmps88
   go_wp2_with (go_at_call 84; refine (l1In_any _ _ _ _).mono ?_; rintro e w' ⟨rfl, rfl⟩)
   go_ret
   exact ⟨rfl, HB.out _⟩
  ·have HV : Hid (descB (true, q, m, d) = isL d) := by unfold Hid descB; simp [hb]
   rw [HV.out]
   go_enter Tryz.func88, Tryz.ntmps88
   go_wp2_with (first | (go_at_call 84; refine (l1In_any _ _ _ _).mono ?_; rintro e w' ⟨rfl, rfl⟩) | (go_at_call 89; refine (HL.out _ (HB.out _)).mono ?_; rintro e w' ⟨rfl, rfl⟩))
   go_ret
   exact ⟨rfl, HB.out _⟩
set_option maxHeartbeats 8000000 in
theorem specDescCode_any (c s y l : Int) (a : Option Addr) (xs : List DescD) (cap : Nat) (w : World) (h : SlRd descR w a xs) (hm : xs.length ≤ maxLen) :
    Calls Tryz.prog 31 #[.agg #[.int .i64 c, .int .i64 s, .int .i64 y, .int .i64 l], .slice a xs.length cap] w fun e w' => e = .returned (.int .i64 (descI c s y l xs)) ∧ Below w.heap.size w w' := by
 have hm' : xs.length ≤ 9223372036854775807 := hm
 have X := heap_at w (.cells #[.int .i64 c, .int .i64 s, .int .i64 y, .int .i64 l] 38)
 have B := box_below w (.cells #[.int .i64 c, .int .i64 s, .int .i64 y, .int .i64 l] 38)
 have HS : Hid (∀ W, Below w.heap.size w W → SlRd descR W a xs) := fun W hb => slrd_next h hb
 clear h hm
 by_cases hc : codeI c s y l = 0
 ·have hl := (code_zero hc).1
  by_cases hn : xs.length ≤ 30
  ·have hn' : ¬ ((30 : Int) < (xs.length : Int)) := by omega
   have HV : Hid (descI c s y l xs = codeV (xs.all descB) (xs.all (dlnOk l)) 5) := by unfold Hid descI codeV; rw [if_pos hc, if_pos hn]
   rw [HV.out]
   clear HV
   generalize hA1 : xs.all descB = A1
   generalize hA2 : xs.all (dlnOk l) = A2
   have HA1 : Hid _ := hA1
   have HA2 : Hid _ := hA2
   clear hA1 hA2
   go_enter Tryz.func31, Tryz.ntmps31
   go_wp2_with fail
   generalize w.alloc (.cells #[.int .i64 c, .int .i64 s, .int .i64 y, .int .i64 l] 38) = W0 at X B ⊢
   refine (specCode_any _ _ _ _ _).mono ?_
   rintro e w1 ⟨rfl, b1⟩
   replace X := row_keep b1 X
   replace B := below_step B b1
   clear b1
   rw [hc]
   have HX : Hid _ := And.intro X B
   clear X B hc
   go_wp2
   go_loopw [5] (fun i wr => ∃ k : Nat, k ≤ xs.length ∧ i = .int .i64 k ∧ (xs.take k).all descB = true ∧ Below w1.heap.size w1 wr) (fun i _ => xs.length - (intOf i).toNat)
   case atStart => exact ⟨0, Nat.zero_le _, rfl, rfl, Below.refl _ _⟩
   case round =>
    obtain ⟨k, hk, rfl, hall, BB⟩ := hrel
    by_cases hlt : k < xs.length
    ·have hlt' : (k : Int) < (xs.length : Int) := by omega
     obtain ⟨x, hx⟩ : ∃ x, xs[k]? = some x := ⟨_, List.getElem?_eq_getElem hlt⟩
     obtain ⟨b, off, cs, rfl, hrd, hcell⟩ := slrd_at (HS.out _ (below_step HX.out.2 BB)) hx
     obtain ⟨ad, cpw, rfl, -, -, -, -, rd3⟩ := desc_rd hrd
     have x0 := hcell 0 _ rfl
     have x1 := hcell 1 _ rfl
     have x2 := hcell 2 _ rfl
     have x3 := hcell 3 _ rfl
     rw [show off + (k * descR.size + 0) = off + k * 4 from rfl] at x0
     rw [show off + (k * descR.size + 1) = off + k * 4 + 1 from rfl] at x1
     rw [show off + (k * descR.size + 2) = off + k * 4 + 2 from rfl] at x2
     rw [show off + (k * descR.size + 3) = off + k * 4 + 3 from rfl] at x3
     have HRD : Hid _ := rd3
     clear hcell hrd rd3
     cases hb : descB x
     ·have HN : Hid (A1 = false) := by rw [← HA1.out]; exact all_not hx hb
      clear hx hall
      go_wp2_with ((go_at_call 88; refine (l11Desc_any x.1 x.2.1 x.2.2.1 x.2.2.2 _ _ _ HRD.out).mono ?_; rintro e w' ⟨rfl, bb⟩; rw [hb]; replace BB := below_step BB bb; clear bb))
      go_ret
      exact ⟨ret_int (by rw [HN.out]; rfl), below_step HX.out.2 BB⟩
     ·have HA : Hid ((xs.take (k + 1)).all descB = true) := all_step hall hx hb
      clear hx hall
      go_wp2_with ((go_at_call 88; refine (l11Desc_any x.1 x.2.1 x.2.2.1 x.2.2.2 _ _ _ HRD.out).mono ?_; rintro e w' ⟨rfl, bb⟩; rw [hb]; replace BB := below_step BB bb; clear bb))
      go_roundw
      case rel => exact ⟨k + 1, by omega, by go_num, HA.out, BB⟩
      case measure => simp [intOf]; omega
    ·have hkl : k = xs.length := by omega
     subst hkl
     rw [List.take_length] at hall
     have hA1 : A1 = true := by rw [← HA1.out]; exact hall
     subst hA1
     obtain ⟨X, B⟩ := HX.out
     replace X := row_keep BB X
     replace B := below_step B BB
     have HY : Hid _ := And.intro X B
     obtain ⟨w2, hw2⟩ : ∃ x, x = wr := ⟨_, rfl⟩
     subst hw2
     clear hall BB X B HX HA1
     go_wp2
     go_loopw [6] (fun i wr => ∃ k : Nat, k ≤ xs.length ∧ i = .int .i64 k ∧ (xs.take k).all (dlnOk l) = true ∧ Below w2.heap.size w2 wr) (fun i _ => xs.length - (intOf i).toNat)
     case atStart => exact ⟨0, Nat.zero_le _, rfl, rfl, Below.refl _ _⟩
     case round =>
      obtain ⟨k, hk, rfl, hall, BB⟩ := hrel
      by_cases hlt : k < xs.length
      ·have hlt' : (k : Int) < (xs.length : Int) := by omega
       obtain ⟨x, hx⟩ : ∃ x, xs[k]? = some x := ⟨_, List.getElem?_eq_getElem hlt⟩
       obtain ⟨b, off, cs, rfl, hrd, hcell⟩ := slrd_at (HS.out _ (below_step HY.out.2 BB)) hx
       obtain ⟨ad, cpw, rfl, -, -, -, -, rd3⟩ := desc_rd hrd
       have x0 := hcell 0 _ rfl
       have x1 := hcell 1 _ rfl
       have x2 := hcell 2 _ rfl
       have x3 := hcell 3 _ rfl
       rw [show off + (k * descR.size + 0) = off + k * 4 from rfl] at x0
       rw [show off + (k * descR.size + 1) = off + k * 4 + 1 from rfl] at x1
       rw [show off + (k * descR.size + 2) = off + k * 4 + 2 from rfl] at x2
       rw [show off + (k * descR.size + 3) = off + k * 4 + 3 from rfl] at x3
       have HRD : Hid _ := rd3
       clear hcell hrd rd3
       have X := row_keep BB HY.out.1
       obtain ⟨c0, c1, c2, c3⟩ := cells_4 X
       clear X c0 c1 c2 x0 x2 x3 HRD
       by_cases h0 : x.2.1 < 0
       ·have hb : dlnOk l x = false := by simp [dlnOk, betw]; omega
        have HN : Hid (A2 = false) := by rw [← HA2.out]; exact all_not hx hb
        clear hx hall hb
        go_wp2_with fail
        go_quiet (fail)
        go_wp2
        go_ret
        exact ⟨ret_int (by rw [HN.out]; rfl), be_drewN (below_step HY.out.2 BB) _⟩
       ·by_cases h1 : l ≤ x.2.1
        ·have hb : dlnOk l x = false := by simp [dlnOk, betw]; omega
         have HN : Hid (A2 = false) := by rw [← HA2.out]; exact all_not hx hb
         clear hx hall hb
         go_wp2_with fail
         go_quiet (fail)
         go_wp2
         go_ret
         exact ⟨ret_int (by rw [HN.out]; rfl), be_drewN (below_step HY.out.2 BB) _⟩
        ·have hb : dlnOk l x = true := by simp [dlnOk, betw]; omega
         have HA : Hid ((xs.take (k + 1)).all (dlnOk l) = true) := all_step hall hx hb
         clear hx hall hb
         go_wp2_with fail
         go_quiet (fail)
         go_wp2
         go_roundw
         case rel => exact ⟨k + 1, by omega, by go_num, HA.out, be_drewN BB _⟩
         case measure => simp [intOf]; omega
      ·have hkl : k = xs.length := by omega
       subst hkl
       rw [List.take_length] at hall
       have hA2 : A2 = true := by rw [← HA2.out]; exact hall
       subst hA2
       clear hall
       go_wp2
       go_ret
       exact ⟨rfl, below_step HY.out.2 BB⟩
  ·have hn' : (30 : Int) < (xs.length : Int) := by omega
   have HV : Hid (descI c s y l xs = 2) := by unfold Hid descI; rw [if_pos hc, if_neg hn]
   rw [HV.out]
   clear HV HS
   go_enter Tryz.func31, Tryz.ntmps31
   go_wp2_with fail
   generalize w.alloc (.cells #[.int .i64 c, .int .i64 s, .int .i64 y, .int .i64 l] 38) = W0 at X B ⊢
   refine (specCode_any _ _ _ _ _).mono ?_
   rintro e w1 ⟨rfl, b1⟩
   replace B := below_step B b1
   clear b1 X
   rw [hc]
   go_wp2
   go_ret
   exact ⟨rfl, B⟩
 ·have HV : Hid (descI c s y l xs = 1) := by unfold Hid descI; rw [if_neg hc]
  rw [HV.out]
  clear HV HS
  have hcb : (codeI c s y l != 0) = true := by simp [hc]
  go_enter Tryz.func31, Tryz.ntmps31
  go_wp2_with fail
  generalize w.alloc (.cells #[.int .i64 c, .int .i64 s, .int .i64 y, .int .i64 l] 38) = W0 at X B ⊢
  refine (specCode_any _ _ _ _ _).mono ?_
  rintro e w1 ⟨rfl, b1⟩
  replace B := below_step B b1
  clear b1 X
  generalize codeI c s y l = q at hcb hc ⊢
  go_wp2
  go_ret
  exact ⟨rfl, B⟩
end Go.Proofs.YthnfkacboijneaaGreatDoor
