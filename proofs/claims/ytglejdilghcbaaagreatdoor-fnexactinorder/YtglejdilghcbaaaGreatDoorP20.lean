import Derived.Test.YtglejdilghcbaaaGreatDoorP00Box
import Derived.Test.YtglejdilghcbaaaGreatDoorP19
import Derived.Test.YtglejdilghcbaaaGreatDoorP15
import Derived.Test.YtglejdilghcbaaaGreatDoorP17
namespace Go.Proofs.YtglejdilghcbaaaGreatDoor
set_option maxHeartbeats 8000000
open Go.ChangeShapes Go.WideShapes Go.ChangeAt Go.RowKit
set_option linter.unusedVariables false
def opOkD (u : OpD) : Bool := opB u.1 u.2.1 u.2.2.1 u.2.2.2
def adrOk (l : Int) (u : OpD) : Bool := betw u.2.1 0 (2 * l - 1)
def progI (c s y l : Int) (xs : List OpD) : Int := if codeI c s y l = 0 then (if xs.length ≤ 30 then (if xs.all opOkD then (if xs.all (adrOk l) then 0 else 4) else 3) else 2) else 1
def descB (u : DescD) : Bool := if u.1 then betw u.2.2.1 1 3 && isL u.2.2.2 else decide (u.2.2.1 = 0) && decide (u.2.2.2.length = 0)
def dlnOk (l : Int) (u : DescD) : Bool := betw u.2.1 0 (l - 1)
def descI (c s y l : Int) (xs : List DescD) : Int := if codeI c s y l = 0 then (if xs.length ≤ 30 then (if xs.all descB then (if xs.all (dlnOk l) then 0 else 4) else 5) else 2) else 1
theorem all_step {α : Type} {p : α → Bool} {xs : List α} {k : Nat} {x : α} (h : (xs.take k).all p = true) (hx : xs[k]? = some x) (hp : p x = true) : (xs.take (k + 1)).all p = true := by
 rw [List.take_add_one, hx, List.all_append, h];simp [hp]
theorem all_not {α : Type} {p : α → Bool} {xs : List α} {k : Nat} {x : α} (hx : xs[k]? = some x) (hp : p x = false) : xs.all p = false := by
 rw [Bool.eq_false_iff];intro h;have := List.all_eq_true.1 h x (List.mem_of_getElem? hx);rw [hp] at this;cases this
theorem op_addr {u : OpD} (h : opOkD u = true) : 0 ≤ u.2.1 ∧ u.2.1 ≤ 31 := by
 simp [opOkD, opB, betw] at h
 omega
theorem tdiv_two {a : Int} (h : 0 ≤ a) : a.tdiv 2 = a / 2 := Int.tdiv_eq_ediv_of_nonneg h
def codeV (p q : Bool) (n : Int) : Int := if p then (if q then 0 else 4) else n
theorem specProgramCode_any (c s y l : Int) (a : Option Addr) (xs : List OpD) (cap : Nat) (w : World) (h : SlRd opR w a xs) (hm : xs.length ≤ maxLen) :
    Calls Tryz.prog 43 #[.agg #[nI c, nI s, nI y, nI l], sL a xs.length cap] w fun e r => e = .returned (nI (progI c s y l xs)) ∧ Bl w r := by
 have qA : xs.length ≤ 9223372036854775807 := hm;have X := heap_at w (.cells #[nI c, nI s, nI y, nI l] 38);have B := box_below w (.cells #[nI c, nI s, nI y, nI l] 38);have N : Hid (∀ W, Bl w W → SlRd opR W a xs) := fun W g => slrd_next h g;clear h hm;by_cases j : codeI c s y l = 0
 ·have hl := (code_zero j).1;by_cases hn : xs.length ≤ 30
  ·have Z : ¬ ((30 : Int) < (xs.length : Int)) := by omega
   have C : Hid (progI c s y l xs = codeV (xs.all opOkD) (xs.all (adrOk l)) 3) := by unfold Hid progI codeV; rw [if_pos j, if_pos hn]
   rw [C.out];clear C;generalize p : xs.all opOkD = A1;generalize A : xs.all (adrOk l) = A2;have D : Hid _ := p;have J : Hid _ := A;clear p A;go_enter Tryz.func43, Tryz.ntmps43;go_wp2_with fail
   generalize w.alloc (.cells #[nI c, nI s, nI y, nI l] 38) = W0 at X B ⊢;refine (specCode_any _ _ _ _ _).mono ?_;rintro e w1 ⟨rfl, v⟩;replace X := row_keep v X;replace B := below_step B v;clear v;rw [j];have O : Hid _ := aI X B;clear X B j;go_wp2;go_loopw [5] (fun i wr => ∃ k : Nat, k ≤ xs.length ∧ i = nI k ∧ (xs.take k).all opOkD = true ∧ Bl w1 wr) (fun i _ => xs.length - (intOf i).toNat)
   case atStart => exact ⟨0, Nat.zero_le _, rfl, rfl, Below.refl _ _⟩
   case round =>
    obtain ⟨k, hk, rfl, d, f⟩ := hrel;by_cases E : k < xs.length
    ·have H : (k : Int) < (xs.length : Int) := by omega
     obtain ⟨x, o⟩ : ∃ x, xs[k]? = some x := ⟨_, List.getElem?_eq_getElem E⟩;obtain ⟨b, K, rfl, x0, L, x2, x3, -⟩ := op_at (N.out _ (below_step O.out.2 f)) o;cases g : opOkD x
     ·have Y : Hid (A1 = false) := by rw [← D.out]; exact all_not o g
      clear o d;go_wp2_with ((go_at_call 82; refine (specOpOk_any _ _ _ _ _).mono ?_; rintro e r ⟨rfl, z⟩; rw [show opB x.1 x.2.1 x.2.2.1 x.2.2.2 = _ from g]; replace f := below_step f z; clear z))
      go_ret
      exact ⟨ret_int (by rw [Y.out]; rfl), below_step O.out.2 f⟩
     ·have T : Hid ((xs.take (k + 1)).all opOkD = true) := all_step d o g;clear o d;go_wp2_with ((go_at_call 82; refine (specOpOk_any _ _ _ _ _).mono ?_; rintro e r ⟨rfl, z⟩; rw [show opB x.1 x.2.1 x.2.2.1 x.2.2.2 = _ from g]; replace f := below_step f z; clear z))
      go_roundw
      case rel => exact ⟨k + 1, by omega, by go_num, T.out, f⟩
      case measure => simp [intOf]; omega
    ·have G : k = xs.length := by omega
     subst G;rw [List.take_length] at d;have p : A1 = true := by rw [← D.out]; exact d
     subst p;obtain ⟨X, B⟩ := O.out;replace X := row_keep f X;replace B := below_step B f;have M : Hid _ := aI X B;obtain ⟨w2, cA⟩ : ∃ x, x = wr := ⟨_, rfl⟩;subst cA;clear d f X B O D;go_wp2;go_loopw [6] (fun i wr => ∃ k : Nat, k ≤ xs.length ∧ i = nI k ∧ (xs.take k).all (adrOk l) = true ∧ Bl w2 wr) (fun i _ => xs.length - (intOf i).toNat)
     case atStart => exact ⟨0, Nat.zero_le _, rfl, rfl, Below.refl _ _⟩
     case round =>
      obtain ⟨k, hk, rfl, d, f⟩ := hrel;by_cases E : k < xs.length
      ·have H : (k : Int) < (xs.length : Int) := by omega
       obtain ⟨x, o⟩ : ∃ x, xs[k]? = some x := ⟨_, List.getElem?_eq_getElem E⟩;obtain ⟨b, K, rfl, x0, L, x2, x3, -⟩ := op_at (N.out _ (below_step M.out.2 f)) o;have X := row_keep f M.out.1;obtain ⟨R, S, c2, U⟩ := cells_4 X;have d0 : ∀ n : Cls (fun wx => Bl wr wx), n.w.cell? ⟨w.heap.size, 0, none⟩ = some (nI c) := fun n => cell_keep n.h R (cell_lt R);have d1 : ∀ n : Cls (fun wx => Bl wr wx), n.w.cell? ⟨w.heap.size, 1, none⟩ = some (nI s) := fun n => cell_keep n.h S (cell_lt S);have d2 : ∀ n : Cls (fun wx => Bl wr wx), n.w.cell? ⟨w.heap.size, 2, none⟩ = some (nI y) := fun n => cell_keep n.h c2 (cell_lt c2);have d3 : ∀ n : Cls (fun wx => Bl wr wx), n.w.cell? ⟨w.heap.size, 3, none⟩ = some (nI l) := fun n => cell_keep n.h U (cell_lt U);have d4 : ∀ n : Cls (fun wx => Bl wr wx), n.w.cell? ⟨b, K + k * 4 + 1, none⟩ = some (nI x.2.1) := fun n => cell_keep n.h L (cell_lt L);clear R S c2 U x0 L x2 x3 X;cases g : adrOk l x
       ·have Y : Hid (A2 = false) := by rw [← J.out]; exact all_not o g
        have m : betw x.2.1 0 (2 * l - 1) = false := g;have V : Hid (∀ W, Calls Tryz.prog 86 #[.agg #[nI c, nI s, nI y, nI l], nI x.2.1] W fun e r => e = .returned (.bool false) ∧ Bl W r) := fun W => by rw [← m]; exact l2Addr_any c s y l x.2.1 W hl
        clear o d g m;go_wp2;refine region_class (fun wx => Bl wr wx) (by kernel_rfl) (by kernel_rfl) ((Below.refl _ wr).drew) ?_;intro F;repeat (quiet_step ((go_at_call 86; exact calls_class (V.out _) (fun r j z => below_step j z))))
        refine wpQuiet_nil ?_;intro wx I;replace f := below_step f I;clear I F d0 d1 d2 d3 d4;go_wp2;go_ret
        exact ⟨ret_int (by rw [Y.out]; rfl), below_step M.out.2 f⟩
       ·have T : Hid ((xs.take (k + 1)).all (adrOk l) = true) := all_step d o g;have m : betw x.2.1 0 (2 * l - 1) = true := g;have V : Hid (∀ W, Calls Tryz.prog 86 #[.agg #[nI c, nI s, nI y, nI l], nI x.2.1] W fun e r => e = .returned (.bool true) ∧ Bl W r) := fun W => by rw [← m]; exact l2Addr_any c s y l x.2.1 W hl
        clear o d g m;go_wp2;refine region_class (fun wx => Bl wr wx) (by kernel_rfl) (by kernel_rfl) ((Below.refl _ wr).drew) ?_;intro F;repeat (quiet_step ((go_at_call 86; exact calls_class (V.out _) (fun r j z => below_step j z))))
        refine wpQuiet_nil ?_;intro wx I;replace f := below_step f I;clear I F d0 d1 d2 d3 d4;go_wp2;go_roundw
        case rel => exact ⟨k + 1, by omega, by go_num, T.out, f⟩
        case measure => simp [intOf]; omega
      ·have G : k = xs.length := by omega
       subst G;rw [List.take_length] at d;have A : A2 = true := by rw [← J.out]; exact d
       subst A;clear d;go_wp2;go_ret
       exact ⟨rfl, below_step M.out.2 f⟩
  ·have Z : (30 : Int) < (xs.length : Int) := by omega
   have C : Hid (progI c s y l xs = 2) := by unfold Hid progI; rw [if_pos j, if_neg hn]
   rw [C.out];clear C N;go_enter Tryz.func43, Tryz.ntmps43;go_wp2_with fail
   generalize w.alloc (.cells #[nI c, nI s, nI y, nI l] 38) = W0 at X B ⊢;refine (specCode_any _ _ _ _ _).mono ?_;rintro e w1 ⟨rfl, v⟩;replace B := below_step B v;clear v X;rw [j];go_wp2;go_ret
   exact ⟨rfl, B⟩
 ·have C : Hid (progI c s y l xs = 1) := by unfold Hid progI; rw [if_neg j]
  rw [C.out];clear C N;have aA : (codeI c s y l != 0) = true := by simp [j]
  go_enter Tryz.func43, Tryz.ntmps43;go_wp2_with fail
  generalize w.alloc (.cells #[nI c, nI s, nI y, nI l] 38) = W0 at X B ⊢;refine (specCode_any _ _ _ _ _).mono ?_;rintro e w1 ⟨rfl, v⟩;replace B := below_step B v;clear v X;generalize codeI c s y l = q at aA j ⊢;go_wp2;go_ret
  exact ⟨rfl, B⟩
theorem l11Desc_any (p : Bool) (q m : Int) (d : List Int) (a : Option Addr) (cap : Nat) (w : World) (h : SlRd intR w a d) :
    Calls Tryz.prog 78 #[.agg #[.bool p, nI q, nI m, sL a d.length cap]] w fun e f => e = .returned (.bool (descB (p, q, m, d))) ∧ Bl w f := by
 have c : Hid _ := box_below w;have l : Hid _ := fun (W : World) (g : Bl w W) => specLineOk_any a d cap W (reads_of (slrd_next h g));clear h;cases p
 ·by_cases i : m = 0
  ·subst i;by_cases k : d.length = 0
   ·have j : d = [] := List.eq_nil_of_length_eq_zero k;subst j;go_enter Tryz.func78, Tryz.ntmps78;go_wp2_with fail
    go_ret
    exact ⟨rfl, c.out _⟩
   ·have r : ¬ ((d.length : Int) = 0) := by omega
    have n : ((d.length : Int) == 0) = false := beq_false_of_ne r;have b : Hid (descB (false, q, 0, d) = false) := by unfold Hid descB; simp [k]
    rw [b.out];go_enter Tryz.func78, Tryz.ntmps78;go_wp2_with fail
    go_ret
    exact ⟨rfl, c.out _⟩
  ·have o : (m == 0) = false := beq_false_of_ne i;have b : Hid (descB (false, q, m, d) = false) := by unfold Hid descB; simp [i]
   rw [b.out];go_enter Tryz.func78, Tryz.ntmps78;go_wp2_with fail
   go_ret
   exact ⟨rfl, c.out _⟩
 ·cases g : betw m 1 3
  ·have b : Hid (descB (true, q, m, d) = false) := by unfold Hid descB; simp [g]
   rw [b.out];go_enter Tryz.func78, Tryz.ntmps78;go_wp2_with (go_at_call 74; refine (l1In_any _ _ _ _).mono ?_; rintro e f ⟨rfl, rfl⟩)
   go_ret
   exact ⟨rfl, c.out _⟩
  ·have b : Hid (descB (true, q, m, d) = isL d) := by unfold Hid descB; simp [g]
   rw [b.out];go_enter Tryz.func78, Tryz.ntmps78;go_wp2_with (first | (go_at_call 74; refine (l1In_any _ _ _ _).mono ?_; rintro e f ⟨rfl, rfl⟩) | (go_at_call 79; refine (l.out _ (c.out _)).mono ?_; rintro e f ⟨rfl, rfl⟩))
   go_ret
   exact ⟨rfl, c.out _⟩
theorem specDescCode_any (c s y l : Int) (a : Option Addr) (xs : List DescD) (cap : Nat) (w : World) (h : SlRd descR w a xs) (hm : xs.length ≤ maxLen) :
    Calls Tryz.prog 40 #[.agg #[nI c, nI s, nI y, nI l], sL a xs.length cap] w fun e T => e = .returned (nI (descI c s y l xs)) ∧ Bl w T := by
 have kA : xs.length ≤ 9223372036854775807 := hm;have X := heap_at w (.cells #[nI c, nI s, nI y, nI l] 38);have B := box_below w (.cells #[nI c, nI s, nI y, nI l] 38);have O : Hid (∀ W, Bl w W → SlRd descR W a xs) := fun W m => slrd_next h m;clear h hm;by_cases A : codeI c s y l = 0
 ·have hl := (code_zero A).1;by_cases hn : xs.length ≤ 30
  ·have Z : ¬ ((30 : Int) < (xs.length : Int)) := by omega
   have D : Hid (descI c s y l xs = codeV (xs.all descB) (xs.all (dlnOk l)) 5) := by unfold Hid descI codeV; rw [if_pos A, if_pos hn]
   rw [D.out];clear D;generalize r : xs.all descB = A1;generalize z : xs.all (dlnOk l) = A2;have E : Hid _ := r;have G : Hid _ := z;clear r z;go_enter Tryz.func40, Tryz.ntmps40;go_wp2_with fail
   generalize w.alloc (.cells #[nI c, nI s, nI y, nI l] 38) = W0 at X B ⊢;refine (specCode_any _ _ _ _ _).mono ?_;rintro e w1 ⟨rfl, v⟩;replace X := row_keep v X;replace B := below_step B v;clear v;rw [A];have S : Hid _ := aI X B;clear X B A;go_wp2;go_loopw [5] (fun i wr => ∃ k : Nat, k ≤ xs.length ∧ i = nI k ∧ (xs.take k).all descB = true ∧ Bl w1 wr) (fun i _ => xs.length - (intOf i).toNat)
   case atStart => exact ⟨0, Nat.zero_le _, rfl, rfl, Below.refl _ _⟩
   case round =>
    obtain ⟨k, hk, rfl, f, j⟩ := hrel;by_cases F : k < xs.length
    ·have J : (k : Int) < (xs.length : Int) := by omega
     obtain ⟨x, n⟩ : ∃ x, xs[k]? = some x := ⟨_, List.getElem?_eq_getElem F⟩;obtain ⟨b, g, cs, rfl, p, d⟩ := slrd_at (O.out _ (below_step S.out.2 j)) n;obtain ⟨ad, Y, rfl, -, -, -, -, o⟩ := desc_rd p;have N := d 0 _ rfl;have U := d 1 _ rfl;have R := d 2 _ rfl;have M := d 3 _ rfl;rw [show g + (k * descR.size + 0) = g + k * 4 from rfl] at N;rw [show g + (k * descR.size + 1) = g + k * 4 + 1 from rfl] at U;rw [show g + (k * descR.size + 2) = g + k * 4 + 2 from rfl] at R;rw [show g + (k * descR.size + 3) = g + k * 4 + 3 from rfl] at M;have C : Hid _ := o;clear d p o;cases m : descB x
     ·have L : Hid (A1 = false) := by rw [← E.out]; exact all_not n m
      clear n f;go_wp2_with ((go_at_call 78; refine (l11Desc_any x.1 x.2.1 x.2.2.1 x.2.2.2 _ _ _ C.out).mono ?_; rintro e T ⟨rfl, I⟩; rw [m]; replace j := below_step j I; clear I))
      go_ret
      exact ⟨ret_int (by rw [L.out]; rfl), below_step S.out.2 j⟩
     ·have V : Hid ((xs.take (k + 1)).all descB = true) := all_step f n m;clear n f;go_wp2_with ((go_at_call 78; refine (l11Desc_any x.1 x.2.1 x.2.2.1 x.2.2.2 _ _ _ C.out).mono ?_; rintro e T ⟨rfl, I⟩; rw [m]; replace j := below_step j I; clear I))
      go_roundw
      case rel => exact ⟨k + 1, by omega, by go_num, V.out, j⟩
      case measure => simp [intOf]; omega
    ·have H : k = xs.length := by omega
     subst H;rw [List.take_length] at f;have r : A1 = true := by rw [← E.out]; exact f
     subst r;obtain ⟨X, B⟩ := S.out;replace X := row_keep j X;replace B := below_step B j;have K : Hid _ := aI X B;obtain ⟨w2, cA⟩ : ∃ x, x = wr := ⟨_, rfl⟩;subst cA;clear f j X B S E;go_wp2;go_loopw [6] (fun i wr => ∃ k : Nat, k ≤ xs.length ∧ i = nI k ∧ (xs.take k).all (dlnOk l) = true ∧ Bl w2 wr) (fun i _ => xs.length - (intOf i).toNat)
     case atStart => exact ⟨0, Nat.zero_le _, rfl, rfl, Below.refl _ _⟩
     case round =>
      obtain ⟨k, hk, rfl, f, j⟩ := hrel;by_cases F : k < xs.length
      ·have J : (k : Int) < (xs.length : Int) := by omega
       obtain ⟨x, n⟩ : ∃ x, xs[k]? = some x := ⟨_, List.getElem?_eq_getElem F⟩;obtain ⟨b, g, cs, rfl, p, d⟩ := slrd_at (O.out _ (below_step K.out.2 j)) n;obtain ⟨ad, Y, rfl, -, -, -, -, o⟩ := desc_rd p;have N := d 0 _ rfl;have U := d 1 _ rfl;have R := d 2 _ rfl;have M := d 3 _ rfl;rw [show g + (k * descR.size + 0) = g + k * 4 from rfl] at N;rw [show g + (k * descR.size + 1) = g + k * 4 + 1 from rfl] at U;rw [show g + (k * descR.size + 2) = g + k * 4 + 2 from rfl] at R;rw [show g + (k * descR.size + 3) = g + k * 4 + 3 from rfl] at M;have C : Hid _ := o;clear d p o;have X := row_keep j K.out.1;obtain ⟨c0, c1, c2, c3⟩ := cells_4 X;clear X c0 c1 c2 N R M C;by_cases h0 : x.2.1 < 0
       ·have m : dlnOk l x = false := by simp [dlnOk, betw]; omega
        have L : Hid (A2 = false) := by rw [← G.out]; exact all_not n m
        clear n f m;go_wp2_with fail
        go_quiet (fail)
        go_wp2;go_ret
        exact ⟨ret_int (by rw [L.out]; rfl), be_drewN (below_step K.out.2 j) _⟩
       ·by_cases h1 : l ≤ x.2.1
        ·have m : dlnOk l x = false := by simp [dlnOk, betw]; omega
         have L : Hid (A2 = false) := by rw [← G.out]; exact all_not n m
         clear n f m;go_wp2_with fail
         go_quiet (fail)
         go_wp2;go_ret
         exact ⟨ret_int (by rw [L.out]; rfl), be_drewN (below_step K.out.2 j) _⟩
        ·have m : dlnOk l x = true := by simp [dlnOk, betw]; omega
         have V : Hid ((xs.take (k + 1)).all (dlnOk l) = true) := all_step f n m;clear n f m;go_wp2_with fail
         go_quiet (fail)
         go_wp2;go_roundw
         case rel => exact ⟨k + 1, by omega, by go_num, V.out, be_drewN j _⟩
         case measure => simp [intOf]; omega
      ·have H : k = xs.length := by omega
       subst H;rw [List.take_length] at f;have z : A2 = true := by rw [← G.out]; exact f
       subst z;clear f;go_wp2;go_ret
       exact ⟨rfl, below_step K.out.2 j⟩
  ·have Z : (30 : Int) < (xs.length : Int) := by omega
   have D : Hid (descI c s y l xs = 2) := by unfold Hid descI; rw [if_pos A, if_neg hn]
   rw [D.out];clear D O;go_enter Tryz.func40, Tryz.ntmps40;go_wp2_with fail
   generalize w.alloc (.cells #[nI c, nI s, nI y, nI l] 38) = W0 at X B ⊢;refine (specCode_any _ _ _ _ _).mono ?_;rintro e w1 ⟨rfl, v⟩;replace B := below_step B v;clear v X;rw [A];go_wp2;go_ret
   exact ⟨rfl, B⟩
 ·have D : Hid (descI c s y l xs = 1) := by unfold Hid descI; rw [if_neg A]
  rw [D.out];clear D O;have aA : (codeI c s y l != 0) = true := by simp [A]
  go_enter Tryz.func40, Tryz.ntmps40;go_wp2_with fail
  generalize w.alloc (.cells #[nI c, nI s, nI y, nI l] 38) = W0 at X B ⊢;refine (specCode_any _ _ _ _ _).mono ?_;rintro e w1 ⟨rfl, v⟩;replace B := below_step B v;clear v X;generalize codeI c s y l = q at aA A ⊢;go_wp2;go_ret
  exact ⟨rfl, B⟩
theorem opsOk1_any (x : OpD) (w : World) :
    Calls Tryz.prog 213 #[.agg #[nI x.1, nI x.2.1, nI x.2.2.1, nI x.2.2.2]] w fun e w' => e = .returned (.bool (!opOkD x)) ∧ Bl w w' := by
 have B := box_below w (.cells #[nI x.1, nI x.2.1, nI x.2.2.1, nI x.2.2.2] 69);have a : Hid (∀ W, Calls Tryz.prog 200 #[.agg #[nI x.1, nI x.2.1, nI x.2.2.1, nI x.2.2.2]] W fun e w' => e = .returned (.bool (opOkD x)) ∧ Bl W w') := fun W => implOpOk_any x.1 x.2.1 x.2.2.1 x.2.2.2 W;generalize opOkD x = q at a ⊢;go_enter Tryz.func213, Tryz.ntmps213;go_wp2_with fail
 generalize w.alloc (.cells #[nI x.1, nI x.2.1, nI x.2.2.1, nI x.2.2.2] 69) = W0 at B ⊢;refine (a.out _).mono ?_;rintro e w1 ⟨rfl, b⟩;go_wp2;go_ret
 exact ⟨rfl, below_step B b⟩
theorem indexBadO_any (a : Option Addr) (xs : List OpD) (cap : Nat) (w : World) (h : SlRd opR w a xs) (hm : xs.length ≤ maxLen) :
    Calls Tryz.prog 239 #[sL a xs.length cap, .func (.func 213) #[] #[]] w fun e w' => e = .returned (nI (badP opOkD xs)) ∧ Bl w w' := by
 have D : xs.length ≤ 9223372036854775807 := hm;have F : Hid (∀ W, Bl w W → SlRd opR W a xs) := fun W f => slrd_keep h fun k s => f.block k s;clear h hm;go_enter Tryz.func239, Tryz.ntmps239;go_wp2;go_loopw [8] (fun i wr => ∃ k : Nat, k ≤ xs.length ∧ i = nI k ∧ (∀ j v, j < k → xs[j]? = some v → opOkD v = true) ∧ Bl w wr) (fun i _ => xs.length - (intOf i).toNat)
 case atStart => exact ⟨0, Nat.zero_le _, rfl, fun j v hj => by omega, Below.refl _ _⟩
 case round =>
  obtain ⟨k, s, rfl, d, c⟩ := hrel;by_cases m : k < xs.length
  ·have r : (k : Int) < (xs.length : Int) := by omega
   obtain ⟨x, n⟩ : ∃ x, xs[k]? = some x := ⟨_, List.getElem?_eq_getElem m⟩;obtain ⟨b, C, rfl, y, q, z, p, -⟩ := op_at (F.out _ c) n;have l := opsOk1_any x wr;have A : Hid (xs[k]? = some x) := n;clear n;cases f : opOkD x
   ·have o : Hid (badP opOkD xs = k) := badP_at A.out f d;rw [f] at l;go_wp2_with fail
    refine l.mono ?_;rintro e E ⟨rfl, g⟩;replace c := below_step c g;clear g y q z p;go_wp2;go_ret
    exact ⟨ret_int o.out.symm, c⟩
   ·rw [f] at l;go_wp2_with fail
    refine l.mono ?_;rintro e E ⟨rfl, g⟩;replace c := below_step c g;clear g y q z p;go_wp2;go_roundw
    case rel =>
     refine ⟨k + 1, by omega, by go_num, fun j v hj hv => ?_, c⟩;by_cases B : j < k
     ·exact d j v B hv
     ·have : j = k := by omega
      subst this;rw [A.out] at hv;cases hv;exact f
    case measure => simp [intOf]; omega
  ·have o : Hid (badP opOkD xs = -1) := badP_no fun j v hv => d j v (by have := (List.getElem?_eq_some_iff.1 hv).1; omega) hv;go_wp2;go_ret
   exact ⟨ret_int o.out.symm, c⟩
theorem containsBadO_any (a : Option Addr) (xs : List OpD) (cap : Nat) (w : World) (h : SlRd opR w a xs) (hm : xs.length ≤ maxLen) :
    Calls Tryz.prog 212 #[sL a xs.length cap, .func (.func 213) #[] #[]] w fun e w' => e = .returned (.bool (!xs.all opOkD)) ∧ Bl w w' := by
 have f := indexBadO_any a xs cap w h hm;have b := badP_all opOkD xs;clear h hm;generalize badP opOkD xs = q at f b;generalize xs.all opOkD = y at b ⊢;subst b;by_cases g : q < 0
 ·have c : ¬ (0 ≤ q) := by omega
  go_enter Tryz.func212, Tryz.ntmps212;go_wp2_with fail
  refine f.mono ?_;rintro e i ⟨rfl, d⟩;go_wp2;go_ret
  exact ⟨by simp [g], d⟩
 ·have c : 0 ≤ q := by omega
  go_enter Tryz.func212, Tryz.ntmps212;go_wp2_with fail
  refine f.mono ?_;rintro e i ⟨rfl, d⟩;go_wp2;go_ret
  exact ⟨by simp [g], d⟩
def progB (xs : List OpD) : Bool := decide (xs.length ≤ 30) && xs.all opOkD
theorem implOpsOk_any (a : Option Addr) (xs : List OpD) (cap : Nat) (w : World) (h : SlRd opR w a xs) (hm : xs.length ≤ maxLen) :
    Calls Tryz.prog 181 #[sL a xs.length cap] w fun e w' => e = .returned (.bool (progB xs)) ∧ Bl w w' := by
 have c := containsBadO_any a xs cap w h hm;have d : xs.length ≤ 9223372036854775807 := hm;unfold progB;generalize xs.all opOkD = y at c ⊢;clear h hm;by_cases g : xs.length ≤ 30
 ·have b : (xs.length : Int) ≤ 30 := by omega
  go_enter Tryz.func181, Tryz.ntmps181;go_wp2_with fail
  refine c.mono ?_;rintro e w1 ⟨rfl, f⟩;go_wp2;go_ret
  exact ⟨by simp [g], f⟩
 ·have b : ¬ ((xs.length : Int) ≤ 30) := by omega
  go_enter Tryz.func181, Tryz.ntmps181;go_wp2;go_ret
  exact ⟨by simp, Below.refl _ _⟩
end Go.Proofs.YtglejdilghcbaaaGreatDoor
