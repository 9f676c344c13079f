import Derived.Test.YtdamokokcdcedaaGreatDoorE00Box
import Derived.Test.YtdamokokcdcedaaGreatDoorE17
namespace Go.Proofs.YtdamokokcdcedaaGreatDoor
set_option maxHeartbeats 8000000
open Go.ChangeShapes Go.WideShapes Go.ChangeAt Go.RowKit
set_option linter.unusedVariables false
def opOkD (u : OpD) : Bool := opB u.1 u.2.1 u.2.2.1 u.2.2.2
def adrOk (l : Int) (u : OpD) : Bool := betw u.2.1 0 (2 * l - 1)
def progI (c s y l : Int) (xs : List OpD) : Int := if codeI c s y l = 0 then (if xs.length ≤ 30 then (if xs.all opOkD then (if xs.all (adrOk l) then 0 else 4) else 3) else 2) else 1
def descB (u : DescD) : Bool := if u.1 then betw u.2.2.1 1 3 && isL u.2.2.2 else decide (u.2.2.1 = 0) && decide (u.2.2.2.length = 0)
def dlnOk (l : Int) (u : DescD) : Bool := betw u.2.1 0 (l - 1)
def descI (c s y l : Int) (xs : List DescD) : Int := if codeI c s y l = 0 then (if xs.length ≤ 30 then (if xs.all descB then (if xs.all (dlnOk l) then 0 else 4) else 5) else 2) else 1
theorem all_step {α : Type} {p : α → Bool} {xs : List α} {k : Nat} {x : α} (h : (xs.take k).all p = true) (hx : xs[k]? = some x) (hp : p x = true) : (xs.take (k + 1)).all p = true := by
 rw [List.take_add_one, hx, List.all_append, h];simp [hp]
theorem all_not {α : Type} {p : α → Bool} {xs : List α} {k : Nat} {x : α} (hx : xs[k]? = some x) (hp : p x = false) : xs.all p = false := by
 rw [Bool.eq_false_iff];intro h;have := List.all_eq_true.1 h x (List.mem_of_getElem? hx);rw [hp] at this;cases this
theorem op_addr {u : OpD} (h : opOkD u = true) : 0 ≤ u.2.1 ∧ u.2.1 ≤ 31 := by
 simp [opOkD, opB, betw] at h
 omega
theorem tdiv_two {a : Int} (h : 0 ≤ a) : a.tdiv 2 = a / 2 := Int.tdiv_eq_ediv_of_nonneg h
def codeV (p q : Bool) (n : Int) : Int := if p then (if q then 0 else 4) else n
theorem specProgramCode_any (c s y l : Int) (a : Option Addr) (xs : List OpD) (cap : Nat) (w : World) (h : SlRd opR w a xs) (hm : xs.length ≤ maxLen) :
    Calls Tryz.prog 72 #[.agg #[nI c, nI s, nI y, nI l], sL a xs.length cap] w fun e p => e = .returned (nI (progI c s y l xs)) ∧ Bl w p := by
 have qA : xs.length ≤ 9223372036854775807 := hm;have X := heap_at w (.cells #[nI c, nI s, nI y, nI l] 38);have B := box_below w (.cells #[nI c, nI s, nI y, nI l] 38);have O : Hid (∀ W, Bl w W → SlRd opR W a xs) := fun W g => slrd_next h g;clear h hm;by_cases j : codeI c s y l = 0
 ·have hl := (code_zero j).1;by_cases hn : xs.length ≤ 30
  ·have U : ¬ ((30 : Int) < (xs.length : Int)) := by omega
   have C : Hid (progI c s y l xs = codeV (xs.all opOkD) (xs.all (adrOk l)) 3) := by unfold Hid progI codeV; rw [if_pos j, if_pos hn]
   rw [C.out];clear C;generalize r : xs.all opOkD = A1;generalize A : xs.all (adrOk l) = A2;have E : Hid _ := r;have K : Hid _ := A;clear r A;go_enter Tryz.func72, Tryz.ntmps72;go_wp2_with fail
   generalize w.alloc (.cells #[nI c, nI s, nI y, nI l] 38) = W0 at X B ⊢;refine (specCode_any _ _ _ _ _).mono ?_;rintro e Y ⟨rfl, v⟩;replace X := row_keep v X;replace B := below_step B v;clear v;rw [j];have M : Hid _ := aI X B;clear X B j;go_wp2;go_loopw [5] (fun i wr => ∃ k : Nat, k ≤ xs.length ∧ i = nI k ∧ (xs.take k).all opOkD = true ∧ Bl Y wr) (fun i _ => xs.length - (intOf i).toNat)
   case atStart => exact ⟨0, Nat.zero_le _, rfl, rfl, Below.refl _ _⟩
   case round =>
    obtain ⟨k, hk, rfl, d, f⟩ := hrel;by_cases F : k < xs.length
    ·have H : (k : Int) < (xs.length : Int) := by omega
     obtain ⟨x, o⟩ : ∃ x, xs[k]? = some x := ⟨_, List.getElem?_eq_getElem F⟩;obtain ⟨b, I, rfl, x0, N, x2, x3, -⟩ := op_at (O.out _ (below_step M.out.2 f)) o;cases g : opOkD x
     ·have HN : Hid (A1 = false) := by rw [← E.out]; exact all_not o g
      clear o d;go_wp2_with ((go_at_call 134; refine (specOpOk_any _ _ _ _ _).mono ?_; rintro e p ⟨rfl, z⟩; rw [show opB x.1 x.2.1 x.2.2.1 x.2.2.2 = _ from g]; replace f := below_step f z; clear z))
      go_ret
      exact ⟨ret_int (by rw [HN.out]; rfl), below_step M.out.2 f⟩
     ·have S : Hid ((xs.take (k + 1)).all opOkD = true) := all_step d o g;clear o d;go_wp2_with ((go_at_call 134; refine (specOpOk_any _ _ _ _ _).mono ?_; rintro e p ⟨rfl, z⟩; rw [show opB x.1 x.2.1 x.2.2.1 x.2.2.2 = _ from g]; replace f := below_step f z; clear z))
      go_roundw
      case rel => exact ⟨k + 1, by omega, by go_num, S.out, f⟩
      case measure => simp [intOf]; omega
    ·have D : k = xs.length := by omega
     subst D;rw [List.take_length] at d;have r : A1 = true := by rw [← E.out]; exact d
     subst r;obtain ⟨X, B⟩ := M.out;replace X := row_keep f X;replace B := below_step B f;have L : Hid _ := aI X B;obtain ⟨w2, bA⟩ : ∃ x, x = wr := ⟨_, rfl⟩;subst bA;clear d f X B M E;go_wp2;go_loopw [6] (fun i wr => ∃ k : Nat, k ≤ xs.length ∧ i = nI k ∧ (xs.take k).all (adrOk l) = true ∧ Bl w2 wr) (fun i _ => xs.length - (intOf i).toNat)
     case atStart => exact ⟨0, Nat.zero_le _, rfl, rfl, Below.refl _ _⟩
     case round =>
      obtain ⟨k, hk, rfl, d, f⟩ := hrel;by_cases F : k < xs.length
      ·have H : (k : Int) < (xs.length : Int) := by omega
       obtain ⟨x, o⟩ : ∃ x, xs[k]? = some x := ⟨_, List.getElem?_eq_getElem F⟩;obtain ⟨b, I, rfl, x0, N, x2, x3, -⟩ := op_at (O.out _ (below_step L.out.2 f)) o;have X := row_keep f L.out.1;obtain ⟨T, Z, c2, R⟩ := cells_4 X;have d0 : ∀ n : Cls (fun wx => Bl wr wx), n.w.cell? ⟨w.heap.size, 0, none⟩ = some (nI c) := fun n => cell_keep n.h T (cell_lt T);have d1 : ∀ n : Cls (fun wx => Bl wr wx), n.w.cell? ⟨w.heap.size, 1, none⟩ = some (nI s) := fun n => cell_keep n.h Z (cell_lt Z);have d2 : ∀ n : Cls (fun wx => Bl wr wx), n.w.cell? ⟨w.heap.size, 2, none⟩ = some (nI y) := fun n => cell_keep n.h c2 (cell_lt c2);have d3 : ∀ n : Cls (fun wx => Bl wr wx), n.w.cell? ⟨w.heap.size, 3, none⟩ = some (nI l) := fun n => cell_keep n.h R (cell_lt R);have d4 : ∀ n : Cls (fun wx => Bl wr wx), n.w.cell? ⟨b, I + k * 4 + 1, none⟩ = some (nI x.2.1) := fun n => cell_keep n.h N (cell_lt N);clear T Z c2 R x0 N x2 x3 X;cases g : adrOk l x
       ·have HN : Hid (A2 = false) := by rw [← K.out]; exact all_not o g
        have m : betw x.2.1 0 (2 * l - 1) = false := g;have KA : Hid (∀ W, Calls Tryz.prog 137 #[.agg #[nI c, nI s, nI y, nI l], nI x.2.1] W fun e p => e = .returned (.bool false) ∧ Bl W p) := fun W => by rw [← m]; exact l2Addr_any c s y l x.2.1 W hl
        clear o d g m;go_wp2;refine region_class (fun wx => Bl wr wx) (by kernel_rfl) (by kernel_rfl) ((Below.refl _ wr).drew) ?_;intro G;repeat (quiet_step ((go_at_call 137; exact calls_class (KA.out _) (fun p j z => below_step j z))))
        refine wpQuiet_nil ?_;intro wx J;replace f := below_step f J;clear J G d0 d1 d2 d3 d4;go_wp2;go_ret
        exact ⟨ret_int (by rw [HN.out]; rfl), below_step L.out.2 f⟩
       ·have S : Hid ((xs.take (k + 1)).all (adrOk l) = true) := all_step d o g;have m : betw x.2.1 0 (2 * l - 1) = true := g;have KA : Hid (∀ W, Calls Tryz.prog 137 #[.agg #[nI c, nI s, nI y, nI l], nI x.2.1] W fun e p => e = .returned (.bool true) ∧ Bl W p) := fun W => by rw [← m]; exact l2Addr_any c s y l x.2.1 W hl
        clear o d g m;go_wp2;refine region_class (fun wx => Bl wr wx) (by kernel_rfl) (by kernel_rfl) ((Below.refl _ wr).drew) ?_;intro G;repeat (quiet_step ((go_at_call 137; exact calls_class (KA.out _) (fun p j z => below_step j z))))
        refine wpQuiet_nil ?_;intro wx J;replace f := below_step f J;clear J G d0 d1 d2 d3 d4;go_wp2;go_roundw
        case rel => exact ⟨k + 1, by omega, by go_num, S.out, f⟩
        case measure => simp [intOf]; omega
      ·have D : k = xs.length := by omega
       subst D;rw [List.take_length] at d;have A : A2 = true := by rw [← K.out]; exact d
       subst A;clear d;go_wp2;go_ret
       exact ⟨rfl, below_step L.out.2 f⟩
  ·have U : (30 : Int) < (xs.length : Int) := by omega
   have C : Hid (progI c s y l xs = 2) := by unfold Hid progI; rw [if_pos j, if_neg hn]
   rw [C.out];clear C O;go_enter Tryz.func72, Tryz.ntmps72;go_wp2_with fail
   generalize w.alloc (.cells #[nI c, nI s, nI y, nI l] 38) = W0 at X B ⊢;refine (specCode_any _ _ _ _ _).mono ?_;rintro e Y ⟨rfl, v⟩;replace B := below_step B v;clear v X;rw [j];go_wp2;go_ret
   exact ⟨rfl, B⟩
 ·have C : Hid (progI c s y l xs = 1) := by unfold Hid progI; rw [if_neg j]
  rw [C.out];clear C O;have V : (codeI c s y l != 0) = true := by simp [j]
  go_enter Tryz.func72, Tryz.ntmps72;go_wp2_with fail
  generalize w.alloc (.cells #[nI c, nI s, nI y, nI l] 38) = W0 at X B ⊢;refine (specCode_any _ _ _ _ _).mono ?_;rintro e Y ⟨rfl, v⟩;replace B := below_step B v;clear v X;generalize codeI c s y l = q at V j ⊢;go_wp2;go_ret
  exact ⟨rfl, B⟩
theorem l11Desc_any (p : Bool) (q m : Int) (d : List Int) (a : Option Addr) (cap : Nat) (w : World) (h : SlRd intR w a d) :
    Calls Tryz.prog 130 #[.agg #[.bool p, nI q, nI m, sL a d.length cap]] w fun e g => e = .returned (.bool (descB (p, q, m, d))) ∧ Bl w g := by
 have c : Hid _ := box_below w;have l : Hid _ := fun (W : World) (f : Bl w W) => specLineOk_any a d cap W (reads_of (slrd_next h f));clear h;cases p
 ·by_cases i : m = 0
  ·subst i;by_cases k : d.length = 0
   ·have j : d = [] := List.eq_nil_of_length_eq_zero k;subst j;go_enter Tryz.func130, Tryz.ntmps130;go_wp2_with fail
    go_ret
    exact ⟨rfl, c.out _⟩
   ·have o : ¬ ((d.length : Int) = 0) := by omega
    have n : ((d.length : Int) == 0) = false := beq_false_of_ne o;have b : Hid (descB (false, q, 0, d) = false) := by unfold Hid descB; simp [k]
    rw [b.out];go_enter Tryz.func130, Tryz.ntmps130;go_wp2_with fail
    go_ret
    exact ⟨rfl, c.out _⟩
  ·have r : (m == 0) = false := beq_false_of_ne i;have b : Hid (descB (false, q, m, d) = false) := by unfold Hid descB; simp [i]
   rw [b.out];go_enter Tryz.func130, Tryz.ntmps130;go_wp2_with fail
   go_ret
   exact ⟨rfl, c.out _⟩
 ·cases f : betw m 1 3
  ·have b : Hid (descB (true, q, m, d) = false) := by unfold Hid descB; simp [f]
   rw [b.out];go_enter Tryz.func130, Tryz.ntmps130;go_wp2_with (go_at_call 126; refine (l1In_any _ _ _ _).mono ?_; rintro e g ⟨rfl, rfl⟩)
   go_ret
   exact ⟨rfl, c.out _⟩
  ·have b : Hid (descB (true, q, m, d) = isL d) := by unfold Hid descB; simp [f]
   rw [b.out];go_enter Tryz.func130, Tryz.ntmps130;go_wp2_with (first | (go_at_call 126; refine (l1In_any _ _ _ _).mono ?_; rintro e g ⟨rfl, rfl⟩) | (go_at_call 131; refine (l.out _ (c.out _)).mono ?_; rintro e g ⟨rfl, rfl⟩))
   go_ret
   exact ⟨rfl, c.out _⟩
theorem specDescCode_any (c s y l : Int) (a : Option Addr) (xs : List DescD) (cap : Nat) (w : World) (h : SlRd descR w a xs) (hm : xs.length ≤ maxLen) :
    Calls Tryz.prog 69 #[.agg #[nI c, nI s, nI y, nI l], sL a xs.length cap] w fun e U => e = .returned (nI (descI c s y l xs)) ∧ Bl w U := by
 have fA : xs.length ≤ 9223372036854775807 := hm;have X := heap_at w (.cells #[nI c, nI s, nI y, nI l] 38);have B := box_below w (.cells #[nI c, nI s, nI y, nI l] 38);have N : Hid (∀ W, Bl w W → SlRd descR W a xs) := fun W m => slrd_next h m;clear h hm;by_cases A : codeI c s y l = 0
 ·have hl := (code_zero A).1;by_cases hn : xs.length ≤ 30
  ·have V : ¬ ((30 : Int) < (xs.length : Int)) := by omega
   have D : Hid (descI c s y l xs = codeV (xs.all descB) (xs.all (dlnOk l)) 5) := by unfold Hid descI codeV; rw [if_pos A, if_pos hn]
   rw [D.out];clear D;generalize v : xs.all descB = A1;generalize C : xs.all (dlnOk l) = A2;have F : Hid _ := v;have H : Hid _ := C;clear v C;go_enter Tryz.func69, Tryz.ntmps69;go_wp2_with fail
   generalize w.alloc (.cells #[nI c, nI s, nI y, nI l] 38) = W0 at X B ⊢;refine (specCode_any _ _ _ _ _).mono ?_;rintro e Z ⟨rfl, z⟩;replace X := row_keep z X;replace B := below_step B z;clear z;rw [A];have M : Hid _ := aI X B;clear X B A;go_wp2;go_loopw [5] (fun i wr => ∃ k : Nat, k ≤ xs.length ∧ i = nI k ∧ (xs.take k).all descB = true ∧ Bl Z wr) (fun i _ => xs.length - (intOf i).toNat)
   case atStart => exact ⟨0, Nat.zero_le _, rfl, rfl, Below.refl _ _⟩
   case round =>
    obtain ⟨k, hk, rfl, f, j⟩ := hrel;by_cases G : k < xs.length
    ·have J : (k : Int) < (xs.length : Int) := by omega
     obtain ⟨x, n⟩ : ∃ x, xs[k]? = some x := ⟨_, List.getElem?_eq_getElem G⟩;obtain ⟨b, g, cs, rfl, p, d⟩ := slrd_at (N.out _ (below_step M.out.2 j)) n;obtain ⟨ad, bA, rfl, -, -, -, -, o⟩ := desc_rd p;have S := d 0 _ rfl;have x1 := d 1 _ rfl;have R := d 2 _ rfl;have O := d 3 _ rfl;rw [show g + (k * descR.size + 0) = g + k * 4 from rfl] at S;rw [show g + (k * descR.size + 1) = g + k * 4 + 1 from rfl] at x1;rw [show g + (k * descR.size + 2) = g + k * 4 + 2 from rfl] at R;rw [show g + (k * descR.size + 3) = g + k * 4 + 3 from rfl] at O;have r : Hid _ := o;clear d p o;cases m : descB x
     ·have L : Hid (A1 = false) := by rw [← F.out]; exact all_not n m
      clear n f;go_wp2_with ((go_at_call 130; refine (l11Desc_any x.1 x.2.1 x.2.2.1 x.2.2.2 _ _ _ r.out).mono ?_; rintro e U ⟨rfl, K⟩; rw [m]; replace j := below_step j K; clear K))
      go_ret
      exact ⟨ret_int (by rw [L.out]; rfl), below_step M.out.2 j⟩
     ·have T : Hid ((xs.take (k + 1)).all descB = true) := all_step f n m;clear n f;go_wp2_with ((go_at_call 130; refine (l11Desc_any x.1 x.2.1 x.2.2.1 x.2.2.2 _ _ _ r.out).mono ?_; rintro e U ⟨rfl, K⟩; rw [m]; replace j := below_step j K; clear K))
      go_roundw
      case rel => exact ⟨k + 1, by omega, by go_num, T.out, j⟩
      case measure => simp [intOf]; omega
    ·have E : k = xs.length := by omega
     subst E;rw [List.take_length] at f;have v : A1 = true := by rw [← F.out]; exact f
     subst v;obtain ⟨X, B⟩ := M.out;replace X := row_keep j X;replace B := below_step B j;have I : Hid _ := aI X B;obtain ⟨w2, cA⟩ : ∃ x, x = wr := ⟨_, rfl⟩;subst cA;clear f j X B M F;go_wp2;go_loopw [6] (fun i wr => ∃ k : Nat, k ≤ xs.length ∧ i = nI k ∧ (xs.take k).all (dlnOk l) = true ∧ Bl w2 wr) (fun i _ => xs.length - (intOf i).toNat)
     case atStart => exact ⟨0, Nat.zero_le _, rfl, rfl, Below.refl _ _⟩
     case round =>
      obtain ⟨k, hk, rfl, f, j⟩ := hrel;by_cases G : k < xs.length
      ·have J : (k : Int) < (xs.length : Int) := by omega
       obtain ⟨x, n⟩ : ∃ x, xs[k]? = some x := ⟨_, List.getElem?_eq_getElem G⟩;obtain ⟨b, g, cs, rfl, p, d⟩ := slrd_at (N.out _ (below_step I.out.2 j)) n;obtain ⟨ad, bA, rfl, -, -, -, -, o⟩ := desc_rd p;have S := d 0 _ rfl;have x1 := d 1 _ rfl;have R := d 2 _ rfl;have O := d 3 _ rfl;rw [show g + (k * descR.size + 0) = g + k * 4 from rfl] at S;rw [show g + (k * descR.size + 1) = g + k * 4 + 1 from rfl] at x1;rw [show g + (k * descR.size + 2) = g + k * 4 + 2 from rfl] at R;rw [show g + (k * descR.size + 3) = g + k * 4 + 3 from rfl] at O;have r : Hid _ := o;clear d p o;have X := row_keep j I.out.1;obtain ⟨c0, c1, c2, c3⟩ := cells_4 X;clear X c0 c1 c2 S R O r;by_cases h0 : x.2.1 < 0
       ·have m : dlnOk l x = false := by simp [dlnOk, betw]; omega
        have L : Hid (A2 = false) := by rw [← H.out]; exact all_not n m
        clear n f m;go_wp2_with fail
        go_quiet (fail)
        go_wp2;go_ret
        exact ⟨ret_int (by rw [L.out]; rfl), be_drewN (below_step I.out.2 j) _⟩
       ·by_cases h1 : l ≤ x.2.1
        ·have m : dlnOk l x = false := by simp [dlnOk, betw]; omega
         have L : Hid (A2 = false) := by rw [← H.out]; exact all_not n m
         clear n f m;go_wp2_with fail
         go_quiet (fail)
         go_wp2;go_ret
         exact ⟨ret_int (by rw [L.out]; rfl), be_drewN (below_step I.out.2 j) _⟩
        ·have m : dlnOk l x = true := by simp [dlnOk, betw]; omega
         have T : Hid ((xs.take (k + 1)).all (dlnOk l) = true) := all_step f n m;clear n f m;go_wp2_with fail
         go_quiet (fail)
         go_wp2;go_roundw
         case rel => exact ⟨k + 1, by omega, by go_num, T.out, be_drewN j _⟩
         case measure => simp [intOf]; omega
      ·have E : k = xs.length := by omega
       subst E;rw [List.take_length] at f;have C : A2 = true := by rw [← H.out]; exact f
       subst C;clear f;go_wp2;go_ret
       exact ⟨rfl, below_step I.out.2 j⟩
  ·have V : (30 : Int) < (xs.length : Int) := by omega
   have D : Hid (descI c s y l xs = 2) := by unfold Hid descI; rw [if_pos A, if_neg hn]
   rw [D.out];clear D N;go_enter Tryz.func69, Tryz.ntmps69;go_wp2_with fail
   generalize w.alloc (.cells #[nI c, nI s, nI y, nI l] 38) = W0 at X B ⊢;refine (specCode_any _ _ _ _ _).mono ?_;rintro e Z ⟨rfl, z⟩;replace B := below_step B z;clear z X;rw [A];go_wp2;go_ret
   exact ⟨rfl, B⟩
 ·have D : Hid (descI c s y l xs = 1) := by unfold Hid descI; rw [if_neg A]
  rw [D.out];clear D N;have Y : (codeI c s y l != 0) = true := by simp [A]
  go_enter Tryz.func69, Tryz.ntmps69;go_wp2_with fail
  generalize w.alloc (.cells #[nI c, nI s, nI y, nI l] 38) = W0 at X B ⊢;refine (specCode_any _ _ _ _ _).mono ?_;rintro e Z ⟨rfl, z⟩;replace B := below_step B z;clear z X;generalize codeI c s y l = q at Y A ⊢;go_wp2;go_ret
  exact ⟨rfl, B⟩
theorem opsOk1_any (x : OpD) (w : World) :
    Calls Tryz.prog 259 #[.agg #[nI x.1, nI x.2.1, nI x.2.2.1, nI x.2.2.2]] w fun e w' => e = .returned (.bool (!opOkD x)) ∧ Bl w w' := by
 have B := box_below w (.cells #[nI x.1, nI x.2.1, nI x.2.2.1, nI x.2.2.2] 133);have a : Hid (∀ W, Calls Tryz.prog 247 #[.agg #[nI x.1, nI x.2.1, nI x.2.2.1, nI x.2.2.2]] W fun e w' => e = .returned (.bool (opOkD x)) ∧ Bl W w') := fun W => implOpOk_any x.1 x.2.1 x.2.2.1 x.2.2.2 W;generalize opOkD x = q at a ⊢;go_enter Tryz.func259, Tryz.ntmps259;go_wp2_with fail
 generalize w.alloc (.cells #[nI x.1, nI x.2.1, nI x.2.2.1, nI x.2.2.2] 133) = W0 at B ⊢;refine (a.out _).mono ?_;rintro e w1 ⟨rfl, b⟩;go_wp2;go_ret
 exact ⟨rfl, below_step B b⟩
theorem indexBadO_any (a : Option Addr) (xs : List OpD) (cap : Nat) (w : World) (h : SlRd opR w a xs) (hm : xs.length ≤ maxLen) :
    Calls Tryz.prog 277 #[sL a xs.length cap, .func (.func 259) #[] #[]] w fun e w' => e = .returned (nI (badP opOkD xs)) ∧ Bl w w' := by
 have C : xs.length ≤ 9223372036854775807 := hm;have E : Hid (∀ W, Bl w W → SlRd opR W a xs) := fun W f => slrd_keep h fun k q => f.block k q;clear h hm;go_enter Tryz.func277, Tryz.ntmps277;go_wp2;go_loopw [8] (fun i wr => ∃ k : Nat, k ≤ xs.length ∧ i = nI k ∧ (∀ j v, j < k → xs[j]? = some v → opOkD v = true) ∧ Bl w wr) (fun i _ => xs.length - (intOf i).toNat)
 case atStart => exact ⟨0, Nat.zero_le _, rfl, fun j v hj => by omega, Below.refl _ _⟩
 case round =>
  obtain ⟨k, q, rfl, d, c⟩ := hrel;by_cases n : k < xs.length
  ·have r : (k : Int) < (xs.length : Int) := by omega
   obtain ⟨x, o⟩ : ∃ x, xs[k]? = some x := ⟨_, List.getElem?_eq_getElem n⟩;obtain ⟨b, D, rfl, A, s, z, y, -⟩ := op_at (E.out _ c) o;have l := opsOk1_any x wr;have p : Hid (xs[k]? = some x) := o;clear o;cases f : opOkD x
   ·have m : Hid (badP opOkD xs = k) := badP_at p.out f d;rw [f] at l;go_wp2_with fail
    refine l.mono ?_;rintro e B ⟨rfl, g⟩;replace c := below_step c g;clear g A s z y;go_wp2;go_ret
    exact ⟨ret_int m.out.symm, c⟩
   ·rw [f] at l;go_wp2_with fail
    refine l.mono ?_;rintro e B ⟨rfl, g⟩;replace c := below_step c g;clear g A s z y;go_wp2;go_roundw
    case rel =>
     refine ⟨k + 1, by omega, by go_num, fun j v hj hv => ?_, c⟩;by_cases F : j < k
     ·exact d j v F hv
     ·have : j = k := by omega
      subst this;rw [p.out] at hv;cases hv;exact f
    case measure => simp [intOf]; omega
  ·have m : Hid (badP opOkD xs = -1) := badP_no fun j v hv => d j v (by have := (List.getElem?_eq_some_iff.1 hv).1; omega) hv;go_wp2;go_ret
   exact ⟨ret_int m.out.symm, c⟩
theorem containsBadO_any (a : Option Addr) (xs : List OpD) (cap : Nat) (w : World) (h : SlRd opR w a xs) (hm : xs.length ≤ maxLen) :
    Calls Tryz.prog 258 #[sL a xs.length cap, .func (.func 259) #[] #[]] w fun e w' => e = .returned (.bool (!xs.all opOkD)) ∧ Bl w w' := by
 have f := indexBadO_any a xs cap w h hm;have b := badP_all opOkD xs;clear h hm;generalize badP opOkD xs = q at f b;generalize xs.all opOkD = y at b ⊢;subst b;by_cases g : q < 0
 ·have c : ¬ (0 ≤ q) := by omega
  go_enter Tryz.func258, Tryz.ntmps258;go_wp2_with fail
  refine f.mono ?_;rintro e i ⟨rfl, d⟩;go_wp2;go_ret
  exact ⟨by simp [g], d⟩
 ·have c : 0 ≤ q := by omega
  go_enter Tryz.func258, Tryz.ntmps258;go_wp2_with fail
  refine f.mono ?_;rintro e i ⟨rfl, d⟩;go_wp2;go_ret
  exact ⟨by simp [g], d⟩
def progB (xs : List OpD) : Bool := decide (xs.length ≤ 30) && xs.all opOkD
theorem implOpsOk_any (a : Option Addr) (xs : List OpD) (cap : Nat) (w : World) (h : SlRd opR w a xs) (hm : xs.length ≤ maxLen) :
    Calls Tryz.prog 232 #[sL a xs.length cap] w fun e w' => e = .returned (.bool (progB xs)) ∧ Bl w w' := by
 have c := containsBadO_any a xs cap w h hm;have g : xs.length ≤ 9223372036854775807 := hm;unfold progB;generalize xs.all opOkD = y at c ⊢;clear h hm;by_cases d : xs.length ≤ 30
 ·have b : (xs.length : Int) ≤ 30 := by omega
  go_enter Tryz.func232, Tryz.ntmps232;go_wp2_with fail
  refine c.mono ?_;rintro e w1 ⟨rfl, f⟩;go_wp2;go_ret
  exact ⟨by simp [d], f⟩
 ·have b : ¬ ((xs.length : Int) ≤ 30) := by omega
  go_enter Tryz.func232, Tryz.ntmps232;go_wp2;go_ret
  exact ⟨by simp, Below.refl _ _⟩
open Go.ChangeShapes Go.WideShapes Go.ChangeAt Go.RowKit Go.Shelf
section
variable {α : Type}
end
variable {α : Type}
variable {α : Type}
def At (w : World) (t : TypeId) (G off : Nat) (cs : List Value) : Prop := ∃ cur, w.heap[G]? = some (.cells cur t (0, 0)) ∧ off + cs.length ≤ cur.size ∧ ∀ j, j < cs.length → cur[off + j]? = cs[j]?
theorem at_lt {w : World} {t : TypeId} {G off : Nat} {cs : List Value} (h : At w t G off cs) : G < w.heap.size := by
 obtain ⟨b, a, _⟩ := h;exact (ltH a)
theorem at_keep {w w' : World} {t : TypeId} {G off : Nat} {cs : List Value} (h : At w t G off cs) (hk : w'.heap[G]? = w.heap[G]?) : At w' t G off cs := by
 obtain ⟨a, c, b⟩ := h;exact ⟨a, hk.trans c, b⟩
theorem at_below {w w' : World} {t : TypeId} {G off : Nat} {cs : List Value} {D : Nat} (h : At w t G off cs) (hb : Below D w w') (hl : G < D) : At w' t G off cs := at_keep h (hb.block G hl)
theorem at_next {w w' : World} {t : TypeId} {G off : Nat} {cs : List Value} (h : At w t G off cs) (hb : Bl w w') : At w' t G off cs := at_below h hb (at_lt h)
def In (G off n : Nat) (w w' : World) : Prop := ∀ cur t, w.heap[G]? = some (.cells cur t (0, 0)) → ∃ cur' : Array Value, w'.heap[G]? = some (.cells cur' t (0, 0)) ∧ cur'.size = cur.size ∧ ∀ i, i < off ∨ off + n ≤ i → cur'[i]? = cur[i]?
theorem In.refl (G off n : Nat) (w : World) : In G off n w w := fun cur t h => ⟨cur, h, rfl, fun _ _ => rfl⟩
theorem In.trans {G off n : Nat} {a b c : World} (h : In G off n a b) (k : In G off n b c) : In G off n a c := fun cur t hc => by
 obtain ⟨l, m, f, j⟩ := h cur t hc;obtain ⟨o, p, d, g⟩ := k l t m;exact ⟨o, p, d.trans f, fun i hi => (g i hi).trans (j i hi)⟩
theorem In.same {G off n : Nat} {w w' : World} (h : w'.heap[G]? = w.heap[G]?) : In G off n w w' := fun cur t hc => ⟨cur, h.trans hc, rfl, fun _ _ => rfl⟩
theorem In.set {G off n j : Nat} {w : World} {v : Value} (hj : j < n) : In G off n w (w.setCell ⟨G, off + j, none⟩ v) := fun cur t hc =>
 ⟨_, heap_setCell_same w G (off + j) cur t v hc, by simp, fun i hi => Array.getElem?_setIfInBounds_ne (by omega)⟩
theorem In.mono {G off n off' n' : Nat} {w w' : World} (h : In G off n w w') (h1 : off' ≤ off) (h2 : off + n ≤ off' + n') : In G off' n' w w' := fun cur t hc => by
 obtain ⟨d, b, a, c⟩ := h cur t hc;exact ⟨d, b, a, fun i hi => c i (by omega)⟩
structure Turn (G off n : Nat) (S : Foot) (w w' : World) : Prop where
 chg : Chg (fun k => S k ∨ k = G) w w'
 row : In G off n w w'
theorem Turn.refl (G off n : Nat) (S : Foot) (w : World) : Turn G off n S w w := ⟨Chg.refl _ _, In.refl _ _ _ _⟩
theorem Turn.mono {G off n : Nat} {S T : Foot} {w w' : World} (h : Turn G off n S w w') (hs : Sub S T) : Turn G off n T w w' := ⟨h.chg.mono (fun k hk => hk.imp (hs k) id), h.row⟩
theorem Turn.trans {G off n : Nat} {S S' : Foot} {a b c : World} (h : Turn G off n S a b) (k : Turn G off n S' b c) (hS : ∀ k, S' k → S k ∨ (a.heap.size ≤ k)) : Turn G off n S a c := by
 refine ⟨⟨k.chg.os.trans h.chg.os, k.chg.tape.trans h.chg.tape, k.chg.output.trans h.chg.output, Nat.le_trans h.chg.size k.chg.size, fun j hj hn => ?_⟩, h.row.trans k.row⟩;have hb := h.chg.size;refine (k.chg.block j (by omega) (fun d => ?_)).trans (h.chg.block j hj hn);rcases d with d | d
 ·rcases hS j d with f | f
  ·exact hn (.inl f)
  ·omega
 ·exact hn (.inr d)
theorem szOps_u : SzC 123 opsR opsM cell1 := by
 rintro cs x left w ⟨a, b, rfl, g, c, l3⟩ f d;exact (szOpS_rep a x b left w f d (Nat.le_trans g c)).mono fun e w' ⟨q, r⟩ => ⟨q, be_eq r⟩
theorem toOps_u : ToC 141 opsR opsM cell1 := by
 rintro cs x w ⟨a, b, rfl, l1, l2, f⟩ c;refine (toOpS_rep a x b w f c).mono ?_;rintro e w' ⟨v, rfl, d⟩;exact ⟨[v], rfl, d⟩
theorem eqOps_u : EqC 165 opsR opsM cell1 := by
 rintro cs ds x w ⟨a, c, rfl, l1, l2, g⟩ ⟨b, d, rfl, k1, k2, f⟩ hm;exact eqOpS_rep a b x c d w g f (by have : lot = 4398046511104 := rfl; omega)
theorem szWay_u : SzC 124 wayR wayM aggV := by
 intro cs x left w h f d;obtain ⟨a, b, rfl, i1, i2, g, c, l3⟩ := way_rd h;exact szWay_rep x.1 x.2.1 x.2.2 a b left w f d (Nat.le_trans g c)
theorem toWay_u : ToC 142 wayR wayM aggV := by
 intro cs x w h hm;obtain ⟨a, b, rfl, g, d, l1, l2, c⟩ := way_rd h;refine (toWay_rep x.1 x.2.1 x.2.2 a b w g d c (by have : wayM.bk x = 0 + (0 + intsM.bk x.2.2) := rfl; omega)).mono ?_;rintro e w' ⟨av, cv, rfl, f⟩;exact ⟨_, rfl, f⟩
theorem eqWay_u : EqC 166 wayR wayM aggV := by
 intro cs ds x w h k hm;obtain ⟨a, c, rfl, i1, i2, l1, l2, d⟩ := way_rd h;obtain ⟨b, f, rfl, _, _, k1, k2, g⟩ := way_rd k;exact eqWay_rep x.1 x.2.1 x.2.2 a b c f w d g (by have : wayM.bk x = 0 + (0 + intsM.bk x.2.2) := rfl; have : lot = 4398046511104 := rfl; omega)
theorem szCache_u : SzC 122 cacheR cacheM aggV := by
 intro cs x left w h l j;obtain ⟨a, c, b, d, rfl, m, f, g, k, i, r2⟩ := cache_rd h;exact szCache_rep a b x c d left w i l j (Nat.le_trans m f) (Nat.le_trans g k)
theorem toCache_u : ToC 140 cacheR cacheM aggV := by
 intro cs x w h j;obtain ⟨a, c, b, f, rfl, l1, l2, m1, m2, d, i⟩ := cache_rd h;refine (toCache_rep a b x c f w d i j).mono ?_;rintro e w' ⟨av, cv, bv, dv, rfl, g⟩;exact ⟨_, rfl, g⟩
theorem eqCache_u : EqC 164 cacheR cacheM aggV := by
 intro cs ds x w h k hm;obtain ⟨a, f, b, m, rfl, l1, l2, m1, m2, j, n⟩ := cache_rd h;obtain ⟨l, c, i, d, rfl, _, _, _, _, o, g⟩ := cache_rd k;exact eqCache_rep x a b l i f m c d w j n o g (by have : lot = 4398046511104 := rfl; omega)
end Go.Proofs.YtdamokokcdcedaaGreatDoor
