import Derived.Test.YtdamokokcdcedaaGreatDoorG00Box
import Derived.Test.YtdamokokcdcedaaGreatDoorG27
import Derived.Test.YtdamokokcdcedaaGreatDoorG25
namespace Go.Proofs.YtdamokokcdcedaaGreatDoor
set_option maxHeartbeats 8000000
open Go.ChangeShapes Go.WideShapes Go.ChangeAt Go.RowKit
set_option linter.unusedVariables false
def opOkD (u : OpD) : Bool := opB u.1 u.2.1 u.2.2.1 u.2.2.2
def adrOk (l : Int) (u : OpD) : Bool := betw u.2.1 0 (2 * l - 1)
def progI (c s y l : Int) (xs : List OpD) : Int := if codeI c s y l = 0 then (if xs.length ≤ 30 then (if xs.all opOkD then (if xs.all (adrOk l) then 0 else 4) else 3) else 2) else 1
def descB (u : DescD) : Bool := if u.1 then betw u.2.2.1 1 3 && isL u.2.2.2 else decide (u.2.2.1 = 0) && decide (u.2.2.2.length = 0)
def dlnOk (l : Int) (u : DescD) : Bool := betw u.2.1 0 (l - 1)
def descI (c s y l : Int) (xs : List DescD) : Int := if codeI c s y l = 0 then (if xs.length ≤ 30 then (if xs.all descB then (if xs.all (dlnOk l) then 0 else 4) else 5) else 2) else 1
theorem all_step {α : Type} {p : α → Bool} {xs : List α} {k : Nat} {x : α} (h : (xs.take k).all p = true) (hx : xs[k]? = some x) (hp : p x = true) : (xs.take (k + 1)).all p = true := by
 rw [List.take_add_one, hx, List.all_append, h];simp [hp]
theorem all_not {α : Type} {p : α → Bool} {xs : List α} {k : Nat} {x : α} (hx : xs[k]? = some x) (hp : p x = false) : xs.all p = false := by
 rw [Bool.eq_false_iff];intro h;have := List.all_eq_true.1 h x (List.mem_of_getElem? hx);rw [hp] at this;cases this
theorem op_addr {u : OpD} (h : opOkD u = true) : 0 ≤ u.2.1 ∧ u.2.1 ≤ 31 := by
 simp [opOkD, opB, betw] at h
 omega
theorem tdiv_two {a : Int} (h : 0 ≤ a) : a.tdiv 2 = a / 2 := Int.tdiv_eq_ediv_of_nonneg h
def codeV (p q : Bool) (n : Int) : Int := if p then (if q then 0 else 4) else n
theorem specProgramCode_any (c s y l : Int) (a : Option Addr) (xs : List OpD) (cap : Nat) (w : World) (h : SlRd opR w a xs) (hm : xs.length ≤ maxLen) :
    Calls Tryz.prog 72 #[.agg #[nI c, nI s, nI y, nI l], sL a xs.length cap] w fun e v => e = .returned (nI (progI c s y l xs)) ∧ Bl w v := by
 have qA : xs.length ≤ 9223372036854775807 := hm;have X := heap_at w (.cells #[nI c, nI s, nI y, nI l] 38);have B := box_below w (.cells #[nI c, nI s, nI y, nI l] 38);have O : Hid (∀ W, Bl w W → SlRd opR W a xs) := fun W g => slrd_next h g;clear h hm;by_cases j : codeI c s y l = 0
 ·have hl := (code_zero j).1;by_cases hn : xs.length ≤ 30
  ·have S : ¬ ((30 : Int) < (xs.length : Int)) := by omega
   have C : Hid (progI c s y l xs = codeV (xs.all opOkD) (xs.all (adrOk l)) 3) := by unfold Hid progI codeV; rw [if_pos j, if_pos hn]
   rw [C.out];clear C;generalize r : xs.all opOkD = A1;generalize A : xs.all (adrOk l) = A2;have E : Hid _ := r;have J : Hid _ := A;clear r A;go_enter Tryz.func72, Tryz.ntmps72;go_wp2_with fail
   generalize w.alloc (.cells #[nI c, nI s, nI y, nI l] 38) = W0 at X B ⊢;refine (specCode_any _ _ _ _ _).mono ?_;rintro e R ⟨rfl, p⟩;replace X := row_keep p X;replace B := below_step B p;clear p;rw [j];have N : Hid _ := aI X B;clear X B j;go_wp2;go_loopw [5] (fun i wr => ∃ k : Nat, k ≤ xs.length ∧ i = nI k ∧ (xs.take k).all opOkD = true ∧ Bl R wr) (fun i _ => xs.length - (intOf i).toNat)
   case atStart => exact ⟨0, Nat.zero_le _, rfl, rfl, Below.refl _ _⟩
   case round =>
    obtain ⟨k, hk, rfl, d, f⟩ := hrel;by_cases F : k < xs.length
    ·have I : (k : Int) < (xs.length : Int) := by omega
     obtain ⟨x, o⟩ : ∃ x, xs[k]? = some x := ⟨_, List.getElem?_eq_getElem F⟩;obtain ⟨b, K, rfl, x0, L, x2, x3, -⟩ := op_at (O.out _ (below_step N.out.2 f)) o;cases g : opOkD x
     ·have HN : Hid (A1 = false) := by rw [← E.out]; exact all_not o g
      clear o d;go_wp2_with ((go_at_call 134; refine (specOpOk_any _ _ _ _ _).mono ?_; rintro e v ⟨rfl, z⟩; rw [show opB x.1 x.2.1 x.2.2.1 x.2.2.2 = _ from g]; replace f := below_step f z; clear z))
      go_ret
      exact ⟨ret_int (by rw [HN.out]; rfl), below_step N.out.2 f⟩
     ·have T : Hid ((xs.take (k + 1)).all opOkD = true) := all_step d o g;clear o d;go_wp2_with ((go_at_call 134; refine (specOpOk_any _ _ _ _ _).mono ?_; rintro e v ⟨rfl, z⟩; rw [show opB x.1 x.2.1 x.2.2.1 x.2.2.2 = _ from g]; replace f := below_step f z; clear z))
      go_roundw
      case rel => exact ⟨k + 1, by omega, by go_num, T.out, f⟩
      case measure => simp [intOf]; omega
    ·have G : k = xs.length := by omega
     subst G;rw [List.take_length] at d;have r : A1 = true := by rw [← E.out]; exact d
     subst r;obtain ⟨X, B⟩ := N.out;replace X := row_keep f X;replace B := below_step B f;have M : Hid _ := aI X B;obtain ⟨w2, cA⟩ : ∃ x, x = wr := ⟨_, rfl⟩;subst cA;clear d f X B N E;go_wp2;go_loopw [6] (fun i wr => ∃ k : Nat, k ≤ xs.length ∧ i = nI k ∧ (xs.take k).all (adrOk l) = true ∧ Bl w2 wr) (fun i _ => xs.length - (intOf i).toNat)
     case atStart => exact ⟨0, Nat.zero_le _, rfl, rfl, Below.refl _ _⟩
     case round =>
      obtain ⟨k, hk, rfl, d, f⟩ := hrel;by_cases F : k < xs.length
      ·have I : (k : Int) < (xs.length : Int) := by omega
       obtain ⟨x, o⟩ : ∃ x, xs[k]? = some x := ⟨_, List.getElem?_eq_getElem F⟩;obtain ⟨b, K, rfl, x0, L, x2, x3, -⟩ := op_at (O.out _ (below_step M.out.2 f)) o;have X := row_keep f M.out.1;obtain ⟨c0, V, Z, U⟩ := cells_4 X;have d0 : ∀ n : Cls (fun wx => Bl wr wx), n.w.cell? ⟨w.heap.size, 0, none⟩ = some (nI c) := fun n => cell_keep n.h c0 (cell_lt c0);have d1 : ∀ n : Cls (fun wx => Bl wr wx), n.w.cell? ⟨w.heap.size, 1, none⟩ = some (nI s) := fun n => cell_keep n.h V (cell_lt V);have d2 : ∀ n : Cls (fun wx => Bl wr wx), n.w.cell? ⟨w.heap.size, 2, none⟩ = some (nI y) := fun n => cell_keep n.h Z (cell_lt Z);have d3 : ∀ n : Cls (fun wx => Bl wr wx), n.w.cell? ⟨w.heap.size, 3, none⟩ = some (nI l) := fun n => cell_keep n.h U (cell_lt U);have d4 : ∀ n : Cls (fun wx => Bl wr wx), n.w.cell? ⟨b, K + k * 4 + 1, none⟩ = some (nI x.2.1) := fun n => cell_keep n.h L (cell_lt L);clear c0 V Z U x0 L x2 x3 X;cases g : adrOk l x
       ·have HN : Hid (A2 = false) := by rw [← J.out]; exact all_not o g
        have m : betw x.2.1 0 (2 * l - 1) = false := g;have KA : Hid (∀ W, Calls Tryz.prog 137 #[.agg #[nI c, nI s, nI y, nI l], nI x.2.1] W fun e v => e = .returned (.bool false) ∧ Bl W v) := fun W => by rw [← m]; exact l2Addr_any c s y l x.2.1 W hl
        clear o d g m;go_wp2;refine region_class (fun wx => Bl wr wx) (by kernel_rfl) (by kernel_rfl) ((Below.refl _ wr).drew) ?_;intro D;repeat (quiet_step ((go_at_call 137; exact calls_class (KA.out _) (fun v j z => below_step j z))))
        refine wpQuiet_nil ?_;intro wx H;replace f := below_step f H;clear H D d0 d1 d2 d3 d4;go_wp2;go_ret
        exact ⟨ret_int (by rw [HN.out]; rfl), below_step M.out.2 f⟩
       ·have T : Hid ((xs.take (k + 1)).all (adrOk l) = true) := all_step d o g;have m : betw x.2.1 0 (2 * l - 1) = true := g;have KA : Hid (∀ W, Calls Tryz.prog 137 #[.agg #[nI c, nI s, nI y, nI l], nI x.2.1] W fun e v => e = .returned (.bool true) ∧ Bl W v) := fun W => by rw [← m]; exact l2Addr_any c s y l x.2.1 W hl
        clear o d g m;go_wp2;refine region_class (fun wx => Bl wr wx) (by kernel_rfl) (by kernel_rfl) ((Below.refl _ wr).drew) ?_;intro D;repeat (quiet_step ((go_at_call 137; exact calls_class (KA.out _) (fun v j z => below_step j z))))
        refine wpQuiet_nil ?_;intro wx H;replace f := below_step f H;clear H D d0 d1 d2 d3 d4;go_wp2;go_roundw
        case rel => exact ⟨k + 1, by omega, by go_num, T.out, f⟩
        case measure => simp [intOf]; omega
      ·have G : k = xs.length := by omega
       subst G;rw [List.take_length] at d;have A : A2 = true := by rw [← J.out]; exact d
       subst A;clear d;go_wp2;go_ret
       exact ⟨rfl, below_step M.out.2 f⟩
  ·have S : (30 : Int) < (xs.length : Int) := by omega
   have C : Hid (progI c s y l xs = 2) := by unfold Hid progI; rw [if_pos j, if_neg hn]
   rw [C.out];clear C O;go_enter Tryz.func72, Tryz.ntmps72;go_wp2_with fail
   generalize w.alloc (.cells #[nI c, nI s, nI y, nI l] 38) = W0 at X B ⊢;refine (specCode_any _ _ _ _ _).mono ?_;rintro e R ⟨rfl, p⟩;replace B := below_step B p;clear p X;rw [j];go_wp2;go_ret
   exact ⟨rfl, B⟩
 ·have C : Hid (progI c s y l xs = 1) := by unfold Hid progI; rw [if_neg j]
  rw [C.out];clear C O;have Y : (codeI c s y l != 0) = true := by simp [j]
  go_enter Tryz.func72, Tryz.ntmps72;go_wp2_with fail
  generalize w.alloc (.cells #[nI c, nI s, nI y, nI l] 38) = W0 at X B ⊢;refine (specCode_any _ _ _ _ _).mono ?_;rintro e R ⟨rfl, p⟩;replace B := below_step B p;clear p X;generalize codeI c s y l = q at Y j ⊢;go_wp2;go_ret
  exact ⟨rfl, B⟩
theorem l11Desc_any (p : Bool) (q m : Int) (d : List Int) (a : Option Addr) (cap : Nat) (w : World) (h : SlRd intR w a d) :
    Calls Tryz.prog 130 #[.agg #[.bool p, nI q, nI m, sL a d.length cap]] w fun e g => e = .returned (.bool (descB (p, q, m, d))) ∧ Bl w g := by
 have c : Hid _ := box_below w;have r : Hid _ := fun (W : World) (f : Bl w W) => specLineOk_any a d cap W (reads_of (slrd_next h f));clear h;cases p
 ·by_cases i : m = 0
  ·subst i;by_cases k : d.length = 0
   ·have j : d = [] := List.eq_nil_of_length_eq_zero k;subst j;go_enter Tryz.func130, Tryz.ntmps130;go_wp2_with fail
    go_ret
    exact ⟨rfl, c.out _⟩
   ·have o : ¬ ((d.length : Int) = 0) := by omega
    have n : ((d.length : Int) == 0) = false := beq_false_of_ne o;have b : Hid (descB (false, q, 0, d) = false) := by unfold Hid descB; simp [k]
    rw [b.out];go_enter Tryz.func130, Tryz.ntmps130;go_wp2_with fail
    go_ret
    exact ⟨rfl, c.out _⟩
  ·have l : (m == 0) = false := beq_false_of_ne i;have b : Hid (descB (false, q, m, d) = false) := by unfold Hid descB; simp [i]
   rw [b.out];go_enter Tryz.func130, Tryz.ntmps130;go_wp2_with fail
   go_ret
   exact ⟨rfl, c.out _⟩
 ·cases f : betw m 1 3
  ·have b : Hid (descB (true, q, m, d) = false) := by unfold Hid descB; simp [f]
   rw [b.out];go_enter Tryz.func130, Tryz.ntmps130;go_wp2_with (go_at_call 126; refine (l1In_any _ _ _ _).mono ?_; rintro e g ⟨rfl, rfl⟩)
   go_ret
   exact ⟨rfl, c.out _⟩
  ·have b : Hid (descB (true, q, m, d) = isL d) := by unfold Hid descB; simp [f]
   rw [b.out];go_enter Tryz.func130, Tryz.ntmps130;go_wp2_with (first | (go_at_call 126; refine (l1In_any _ _ _ _).mono ?_; rintro e g ⟨rfl, rfl⟩) | (go_at_call 131; refine (r.out _ (c.out _)).mono ?_; rintro e g ⟨rfl, rfl⟩))
   go_ret
   exact ⟨rfl, c.out _⟩
theorem specDescCode_any (c s y l : Int) (a : Option Addr) (xs : List DescD) (cap : Nat) (w : World) (h : SlRd descR w a xs) (hm : xs.length ≤ maxLen) :
    Calls Tryz.prog 69 #[.agg #[nI c, nI s, nI y, nI l], sL a xs.length cap] w fun e Z => e = .returned (nI (descI c s y l xs)) ∧ Bl w Z := by
 have kA : xs.length ≤ 9223372036854775807 := hm;have X := heap_at w (.cells #[nI c, nI s, nI y, nI l] 38);have B := box_below w (.cells #[nI c, nI s, nI y, nI l] 38);have S : Hid (∀ W, Bl w W → SlRd descR W a xs) := fun W m => slrd_next h m;clear h hm;by_cases C : codeI c s y l = 0
 ·have hl := (code_zero C).1;by_cases hn : xs.length ≤ 30
  ·have V : ¬ ((30 : Int) < (xs.length : Int)) := by omega
   have D : Hid (descI c s y l xs = codeV (xs.all descB) (xs.all (dlnOk l)) 5) := by unfold Hid descI codeV; rw [if_pos C, if_pos hn]
   rw [D.out];clear D;generalize v : xs.all descB = A1;generalize z : xs.all (dlnOk l) = A2;have E : Hid _ := v;have F : Hid _ := z;clear v z;go_enter Tryz.func69, Tryz.ntmps69;go_wp2_with fail
   generalize w.alloc (.cells #[nI c, nI s, nI y, nI l] 38) = W0 at X B ⊢;refine (specCode_any _ _ _ _ _).mono ?_;rintro e U ⟨rfl, r⟩;replace X := row_keep r X;replace B := below_step B r;clear r;rw [C];have R : Hid _ := aI X B;clear X B C;go_wp2;go_loopw [5] (fun i wr => ∃ k : Nat, k ≤ xs.length ∧ i = nI k ∧ (xs.take k).all descB = true ∧ Bl U wr) (fun i _ => xs.length - (intOf i).toNat)
   case atStart => exact ⟨0, Nat.zero_le _, rfl, rfl, Below.refl _ _⟩
   case round =>
    obtain ⟨k, hk, rfl, f, j⟩ := hrel;by_cases G : k < xs.length
    ·have J : (k : Int) < (xs.length : Int) := by omega
     obtain ⟨x, n⟩ : ∃ x, xs[k]? = some x := ⟨_, List.getElem?_eq_getElem G⟩;obtain ⟨b, g, cs, rfl, p, d⟩ := slrd_at (S.out _ (below_step R.out.2 j)) n;obtain ⟨ad, cA, rfl, -, -, -, -, o⟩ := desc_rd p;have M := d 0 _ rfl;have T := d 1 _ rfl;have N := d 2 _ rfl;have O := d 3 _ rfl;rw [show g + (k * descR.size + 0) = g + k * 4 from rfl] at M;rw [show g + (k * descR.size + 1) = g + k * 4 + 1 from rfl] at T;rw [show g + (k * descR.size + 2) = g + k * 4 + 2 from rfl] at N;rw [show g + (k * descR.size + 3) = g + k * 4 + 3 from rfl] at O;have A : Hid _ := o;clear d p o;cases m : descB x
     ·have L : Hid (A1 = false) := by rw [← E.out]; exact all_not n m
      clear n f;go_wp2_with ((go_at_call 130; refine (l11Desc_any x.1 x.2.1 x.2.2.1 x.2.2.2 _ _ _ A.out).mono ?_; rintro e Z ⟨rfl, K⟩; rw [m]; replace j := below_step j K; clear K))
      go_ret
      exact ⟨ret_int (by rw [L.out]; rfl), below_step R.out.2 j⟩
     ·have Y : Hid ((xs.take (k + 1)).all descB = true) := all_step f n m;clear n f;go_wp2_with ((go_at_call 130; refine (l11Desc_any x.1 x.2.1 x.2.2.1 x.2.2.2 _ _ _ A.out).mono ?_; rintro e Z ⟨rfl, K⟩; rw [m]; replace j := below_step j K; clear K))
      go_roundw
      case rel => exact ⟨k + 1, by omega, by go_num, Y.out, j⟩
      case measure => simp [intOf]; omega
    ·have H : k = xs.length := by omega
     subst H;rw [List.take_length] at f;have v : A1 = true := by rw [← E.out]; exact f
     subst v;obtain ⟨X, B⟩ := R.out;replace X := row_keep j X;replace B := below_step B j;have I : Hid _ := aI X B;obtain ⟨w2, bA⟩ : ∃ x, x = wr := ⟨_, rfl⟩;subst bA;clear f j X B R E;go_wp2;go_loopw [6] (fun i wr => ∃ k : Nat, k ≤ xs.length ∧ i = nI k ∧ (xs.take k).all (dlnOk l) = true ∧ Bl w2 wr) (fun i _ => xs.length - (intOf i).toNat)
     case atStart => exact ⟨0, Nat.zero_le _, rfl, rfl, Below.refl _ _⟩
     case round =>
      obtain ⟨k, hk, rfl, f, j⟩ := hrel;by_cases G : k < xs.length
      ·have J : (k : Int) < (xs.length : Int) := by omega
       obtain ⟨x, n⟩ : ∃ x, xs[k]? = some x := ⟨_, List.getElem?_eq_getElem G⟩;obtain ⟨b, g, cs, rfl, p, d⟩ := slrd_at (S.out _ (below_step I.out.2 j)) n;obtain ⟨ad, cA, rfl, -, -, -, -, o⟩ := desc_rd p;have M := d 0 _ rfl;have T := d 1 _ rfl;have N := d 2 _ rfl;have O := d 3 _ rfl;rw [show g + (k * descR.size + 0) = g + k * 4 from rfl] at M;rw [show g + (k * descR.size + 1) = g + k * 4 + 1 from rfl] at T;rw [show g + (k * descR.size + 2) = g + k * 4 + 2 from rfl] at N;rw [show g + (k * descR.size + 3) = g + k * 4 + 3 from rfl] at O;have A : Hid _ := o;clear d p o;have X := row_keep j I.out.1;obtain ⟨c0, c1, c2, c3⟩ := cells_4 X;clear X c0 c1 c2 M N O A;by_cases h0 : x.2.1 < 0
       ·have m : dlnOk l x = false := by simp [dlnOk, betw]; omega
        have L : Hid (A2 = false) := by rw [← F.out]; exact all_not n m
        clear n f m;go_wp2_with fail
        go_quiet (fail)
        go_wp2;go_ret
        exact ⟨ret_int (by rw [L.out]; rfl), be_drewN (below_step I.out.2 j) _⟩
       ·by_cases h1 : l ≤ x.2.1
        ·have m : dlnOk l x = false := by simp [dlnOk, betw]; omega
         have L : Hid (A2 = false) := by rw [← F.out]; exact all_not n m
         clear n f m;go_wp2_with fail
         go_quiet (fail)
         go_wp2;go_ret
         exact ⟨ret_int (by rw [L.out]; rfl), be_drewN (below_step I.out.2 j) _⟩
        ·have m : dlnOk l x = true := by simp [dlnOk, betw]; omega
         have Y : Hid ((xs.take (k + 1)).all (dlnOk l) = true) := all_step f n m;clear n f m;go_wp2_with fail
         go_quiet (fail)
         go_wp2;go_roundw
         case rel => exact ⟨k + 1, by omega, by go_num, Y.out, be_drewN j _⟩
         case measure => simp [intOf]; omega
      ·have H : k = xs.length := by omega
       subst H;rw [List.take_length] at f;have z : A2 = true := by rw [← F.out]; exact f
       subst z;clear f;go_wp2;go_ret
       exact ⟨rfl, below_step I.out.2 j⟩
  ·have V : (30 : Int) < (xs.length : Int) := by omega
   have D : Hid (descI c s y l xs = 2) := by unfold Hid descI; rw [if_pos C, if_neg hn]
   rw [D.out];clear D S;go_enter Tryz.func69, Tryz.ntmps69;go_wp2_with fail
   generalize w.alloc (.cells #[nI c, nI s, nI y, nI l] 38) = W0 at X B ⊢;refine (specCode_any _ _ _ _ _).mono ?_;rintro e U ⟨rfl, r⟩;replace B := below_step B r;clear r X;rw [C];go_wp2;go_ret
   exact ⟨rfl, B⟩
 ·have D : Hid (descI c s y l xs = 1) := by unfold Hid descI; rw [if_neg C]
  rw [D.out];clear D S;have aA : (codeI c s y l != 0) = true := by simp [C]
  go_enter Tryz.func69, Tryz.ntmps69;go_wp2_with fail
  generalize w.alloc (.cells #[nI c, nI s, nI y, nI l] 38) = W0 at X B ⊢;refine (specCode_any _ _ _ _ _).mono ?_;rintro e U ⟨rfl, r⟩;replace B := below_step B r;clear r X;generalize codeI c s y l = q at aA C ⊢;go_wp2;go_ret
  exact ⟨rfl, B⟩
theorem opsOk1_any (x : OpD) (w : World) :
    Calls Tryz.prog 259 #[.agg #[nI x.1, nI x.2.1, nI x.2.2.1, nI x.2.2.2]] w fun e w' => e = .returned (.bool (!opOkD x)) ∧ Bl w w' := by
 have B := box_below w (.cells #[nI x.1, nI x.2.1, nI x.2.2.1, nI x.2.2.2] 133);have a : Hid (∀ W, Calls Tryz.prog 247 #[.agg #[nI x.1, nI x.2.1, nI x.2.2.1, nI x.2.2.2]] W fun e w' => e = .returned (.bool (opOkD x)) ∧ Bl W w') := fun W => implOpOk_any x.1 x.2.1 x.2.2.1 x.2.2.2 W;generalize opOkD x = q at a ⊢;go_enter Tryz.func259, Tryz.ntmps259;go_wp2_with fail
 generalize w.alloc (.cells #[nI x.1, nI x.2.1, nI x.2.2.1, nI x.2.2.2] 133) = W0 at B ⊢;refine (a.out _).mono ?_;rintro e w1 ⟨rfl, b⟩;go_wp2;go_ret
 exact ⟨rfl, below_step B b⟩
theorem indexBadO_any (a : Option Addr) (xs : List OpD) (cap : Nat) (w : World) (h : SlRd opR w a xs) (hm : xs.length ≤ maxLen) :
    Calls Tryz.prog 277 #[sL a xs.length cap, .func (.func 259) #[] #[]] w fun e w' => e = .returned (nI (badP opOkD xs)) ∧ Bl w w' := by
 have C : xs.length ≤ 9223372036854775807 := hm;have E : Hid (∀ W, Bl w W → SlRd opR W a xs) := fun W f => slrd_keep h fun k s => f.block k s;clear h hm;go_enter Tryz.func277, Tryz.ntmps277;go_wp2;go_loopw [8] (fun i wr => ∃ k : Nat, k ≤ xs.length ∧ i = nI k ∧ (∀ j v, j < k → xs[j]? = some v → opOkD v = true) ∧ Bl w wr) (fun i _ => xs.length - (intOf i).toNat)
 case atStart => exact ⟨0, Nat.zero_le _, rfl, fun j v hj => by omega, Below.refl _ _⟩
 case round =>
  obtain ⟨k, s, rfl, d, c⟩ := hrel;by_cases o : k < xs.length
  ·have z : (k : Int) < (xs.length : Int) := by omega
   obtain ⟨x, n⟩ : ∃ x, xs[k]? = some x := ⟨_, List.getElem?_eq_getElem o⟩;obtain ⟨b, F, rfl, p, q, r, y, -⟩ := op_at (E.out _ c) n;have l := opsOk1_any x wr;have A : Hid (xs[k]? = some x) := n;clear n;cases f : opOkD x
   ·have m : Hid (badP opOkD xs = k) := badP_at A.out f d;rw [f] at l;go_wp2_with fail
    refine l.mono ?_;rintro e D ⟨rfl, g⟩;replace c := below_step c g;clear g p q r y;go_wp2;go_ret
    exact ⟨ret_int m.out.symm, c⟩
   ·rw [f] at l;go_wp2_with fail
    refine l.mono ?_;rintro e D ⟨rfl, g⟩;replace c := below_step c g;clear g p q r y;go_wp2;go_roundw
    case rel =>
     refine ⟨k + 1, by omega, by go_num, fun j v hj hv => ?_, c⟩;by_cases B : j < k
     ·exact d j v B hv
     ·have : j = k := by omega
      subst this;rw [A.out] at hv;cases hv;exact f
    case measure => simp [intOf]; omega
  ·have m : Hid (badP opOkD xs = -1) := badP_no fun j v hv => d j v (by have := (List.getElem?_eq_some_iff.1 hv).1; omega) hv;go_wp2;go_ret
   exact ⟨ret_int m.out.symm, c⟩
theorem containsBadO_any (a : Option Addr) (xs : List OpD) (cap : Nat) (w : World) (h : SlRd opR w a xs) (hm : xs.length ≤ maxLen) :
    Calls Tryz.prog 258 #[sL a xs.length cap, .func (.func 259) #[] #[]] w fun e w' => e = .returned (.bool (!xs.all opOkD)) ∧ Bl w w' := by
 have d := indexBadO_any a xs cap w h hm;have b := badP_all opOkD xs;clear h hm;generalize badP opOkD xs = q at d b;generalize xs.all opOkD = y at b ⊢;subst b;by_cases g : q < 0
 ·have c : ¬ (0 ≤ q) := by omega
  go_enter Tryz.func258, Tryz.ntmps258;go_wp2_with fail
  refine d.mono ?_;rintro e i ⟨rfl, f⟩;go_wp2;go_ret
  exact ⟨by simp [g], f⟩
 ·have c : 0 ≤ q := by omega
  go_enter Tryz.func258, Tryz.ntmps258;go_wp2_with fail
  refine d.mono ?_;rintro e i ⟨rfl, f⟩;go_wp2;go_ret
  exact ⟨by simp [g], f⟩
def progB (xs : List OpD) : Bool := decide (xs.length ≤ 30) && xs.all opOkD
theorem implOpsOk_any (a : Option Addr) (xs : List OpD) (cap : Nat) (w : World) (h : SlRd opR w a xs) (hm : xs.length ≤ maxLen) :
    Calls Tryz.prog 232 #[sL a xs.length cap] w fun e w' => e = .returned (.bool (progB xs)) ∧ Bl w w' := by
 have c := containsBadO_any a xs cap w h hm;have d : xs.length ≤ 9223372036854775807 := hm;unfold progB;generalize xs.all opOkD = y at c ⊢;clear h hm;by_cases g : xs.length ≤ 30
 ·have b : (xs.length : Int) ≤ 30 := by omega
  go_enter Tryz.func232, Tryz.ntmps232;go_wp2_with fail
  refine c.mono ?_;rintro e w1 ⟨rfl, f⟩;go_wp2;go_ret
  exact ⟨by simp [g], f⟩
 ·have b : ¬ ((xs.length : Int) ≤ 30) := by omega
  go_enter Tryz.func232, Tryz.ntmps232;go_wp2;go_ret
  exact ⟨by simp, Below.refl _ _⟩
open Go.ChangeShapes Go.WideShapes Go.ChangeAt Go.RowKit Go.Shelf
def findP (c : CacheD) (line : Int) : Int × Int × Bool := if betw line 0 15 then (line % (c.1.length : Int), firstI (rowFor c line) line, firstI (rowFor c line) line != -1) else (0, 0, false)
theorem ok_row {c : CacheD} (h : OkC isL treeB c) (line : Int) : pow3 c.1.length ∧ c.1[setNo c line]? = some (rowFor c line) ∧ rowFor c line ≠ [] ∧ (rowFor c line).length ≤ 4 ∧ ((setNo c line : Nat) : Int) = line % (c.1.length : Int) ∧ setNo c line < c.1.length := by
 obtain ⟨a, h2, m, b, g⟩ := h;have d := rowFor_get (line := line) a;have f := (g _ _ d).1;refine ⟨a, d, fun e => ?_, ?_, setNo_cast a, setNo_lt a⟩
 ·rw [e] at f;simp at f
  have := pow3_pos b;omega
 ·rcases b with rfl | rfl | rfl <;> omega
theorem putTwo {w : World} {g : Nat} {x y a b : Value} {t : TypeId} (h : w.heap[g]? = some (.cells #[x, y] t (0, 0))) :
    ((w.setCell ⟨g, 0, none⟩ a).setCell ⟨g, 1, none⟩ b).heap[g]? = some (.cells #[a, b] t (0, 0)) :=
 heap_setCell_same _ g 1 _ t b (heap_setCell_same w g 0 _ t a h)
theorem implFind_any (a b : Option Addr) (c : CacheD) (cap cp : Nat) (line : Int) (w : World) (hok : OkC isL treeB c) (h1 : SlRd waysR w a c.1) :
    Calls Tryz.prog 260 #[.agg #[sL a c.1.length cap, sL b c.2.length cp], nI line] w fun e n => e = .returned (.tuple #[.agg #[nI (findP c line).1, nI (findP c line).2.1], .bool (findP c line).2.2]) ∧ Bl w n := by
 obtain ⟨N, g, r, E, f, G⟩ := ok_row hok line;obtain ⟨l, m, D, C, rfl, d, -, -, o⟩ := set_at h1 g;cases s : betw line 0 15
 ·have y : Hid (findP c line = (0, 0, false)) := by unfold Hid findP; simp [s]
  clear d o h1 g;go_enter Tryz.func260, Tryz.ntmps260;go_wp2_with (go_at_call 245; refine (lineNumberOk_any _ _).mono ?_; rintro e n ⟨rfl, rfl⟩; rw [s])
  have Y := heap_at (w.alloc (.cells #[sL (some ⟨l, m, none⟩) c.1.length cap, sL b c.2.length cp] 95)) (.cells #[nI 0, nI 0] 151);rw [alloc_len] at Y;obtain ⟨I, J⟩ := cells_two Y;refine bodyPost_ret (v := .tuple #[.agg #[nI 0, nI 0], .bool false]) (by simp [results, Tryz.results260, go_sem]) rfl ⟨by rw [y.out], below_step (box_below w _) (box_below _ _)⟩
 ·have F : 0 ≤ line := by simp [betw] at s; omega
  have y : Hid (findP c line = (((setNo c line : Nat) : Int), firstI (rowFor c line) line, firstI (rowFor c line) line != -1)) := by unfold Hid findP; rw [if_pos s, f]
  have H : Hid (∀ W, Calls Tryz.prog 276 #[.agg #[sL (some ⟨l, m, none⟩) c.1.length cap, sL b c.2.length cp], nI line] W fun e n => e = .returned (nI ((setNo c line : Nat) : Int)) ∧ Bl W n) := fun W => by
   have := setOf_any (some ⟨l, m, none⟩) c.1.length cap (sL b c.2.length cp) _ _ _ rfl line W N F;rwa [← f] at this
  have i : Hid (∀ W, Bl w W → Calls Tryz.prog 278 #[sL D (rowFor c line).length C, nI line] W fun e n => e = .returned (nI (firstI (rowFor c line) line)) ∧ Bl W n) := fun W hbw =>
   firstWith_any D _ C line W (slrd_keep o fun k hk => hbw.block k hk) r (by omega)
  have q : ((setNo c line : Nat) : Int) < (c.1.length : Int) := by omega
  have z : Hid (∀ W, Bl w W → W.cell? ⟨l, m + setNo c line, none⟩ = some (sL D (rowFor c line).length C)) := fun W hbw => cell_keep hbw d (cell_lt d);clear d o h1 g r E f hok;generalize setNo c line = sn at y H G q z;generalize (rowFor c line).length = rn at i z;generalize firstI (rowFor c line) line = fi at y i;have X := heap_on (.cells #[nI 0, nI 0] 151) (heap_at w (.cells #[sL (some ⟨l, m, none⟩) c.1.length cap, sL b c.2.length cp] 95));have Y := heap_at (w.alloc (.cells #[sL (some ⟨l, m, none⟩) c.1.length cap, sL b c.2.length cp] 95)) (.cells #[nI 0, nI 0] 151);rw [alloc_len] at Y;have B := below_step (box_below w (.cells #[sL (some ⟨l, m, none⟩) c.1.length cap, sL b c.2.length cp] 95)) (box_below _ (.cells #[nI 0, nI 0] 151));go_enter Tryz.func260, Tryz.ntmps260;go_wp2_with (go_at_call 245; refine (lineNumberOk_any _ _).mono ?_; rintro e n ⟨rfl, rfl⟩; rw [s])
  generalize (w.alloc (.cells #[sL (some ⟨l, m, none⟩) c.1.length cap, sL b c.2.length cp] 95)).alloc (.cells #[nI 0, nI 0] 151) = W0 at X Y B ⊢;refine (H.out _).mono ?_;rintro e w1 ⟨rfl, j⟩;replace B := below_step B j;replace X := row_keep j X;replace Y := row_keep j Y;obtain ⟨K, L⟩ := cells_two X;have O := z.out _ B;clear j;go_wp2_with fail
  refine (i.out _ B).mono ?_;rintro e A ⟨rfl, j⟩;replace B := below_step B j;replace Y := row_keep j Y;obtain ⟨y0, y1⟩ := cells_two Y;obtain ⟨f0, f1⟩ : A.frozen? ⟨w.heap.size + 1, 0, none⟩ = false ∧ A.frozen? ⟨w.heap.size + 1, 1, none⟩ = false := ⟨frozen_of_row A _ 0 _ _ Y, frozen_of_row A _ 1 _ _ Y⟩;have M : Hid _ := Y;clear j O K L X Y H i z;go_wp2;have Z := putTwo (a := nI (sn : Int)) (b := nI fi) M.out;obtain ⟨I, J⟩ := cells_two Z;refine bodyPost_ret (v := .tuple #[.agg #[nI (sn : Int), nI fi], .bool (fi != -1)]) (by simp [results, Tryz.results260, go_sem, I, J]) rfl ⟨by rw [y.out], (B.setCell (p := ⟨w.heap.size + 1, 0, none⟩) (by simp) _).setCell (p := ⟨w.heap.size + 1, 1, none⟩) (by simp) _⟩
def idxI (o : Option Nat) : Int := match o with
 | some i => (i : Int)
 | none => -1
theorem firstI_eq (row : List WayD) (line : Int) : firstI row line = idxI (row.findIdx? fun u => u.1 == line) := by
 unfold firstI idxI;cases row.findIdx? fun u => u.1 == line <;> rfl
theorem idxI_neg (o : Option Nat) : (idxI o != -1) = o.isSome := by
 cases o with
 | none => rfl
 | some i =>
  have : ((i : Int) != -1) = true := by simp
  exact this
theorem at_first {c : CacheD} {line : Int} (h0 : 0 ≤ line) : firstI (rowFor c line) line = idxI (atC c line) := by
 rw [firstI_eq];unfold atC;rw [if_neg (by omega)]
theorem at_out {c : CacheD} (h : OkC isL treeB c) {line : Int} (hl : betw line 0 15 = false) : atC c line = none := by
 cases k : atC c line with
 | none => rfl
 | some i =>
  obtain ⟨h0, u, d, a⟩ := at_some k;obtain ⟨g, h2, m, hm, f⟩ := h;rcases (f _ _ (rowFor_get (line := line) g)).2.2.1 i u d with j | ⟨b, _⟩
  ·rw [clear_eq j] at a;simp [emptyW] at a
   omega
  ·have := full_line b;simp [betw] at hl
   omega
theorem findP_eq {c : CacheD} (h : OkC isL treeB c) {line : Int} : findP c line = if betw line 0 15 then (((setNo c line : Nat) : Int), idxI (atC c line), (atC c line).isSome) else (0, 0, false) := by
 unfold findP;split
 ·rename_i hb
  have a : 0 ≤ line := by simp [betw] at hb; omega
  rw [at_first a, idxI_neg, setNo_cast h.1]
 ·rfl
theorem go_in {t n : Int} (h : treeB t n = true) : 0 ≤ goI t n ∧ goI t n < n ∧ viI t n = goI t n := by
 refine ⟨?_, ?_, by unfold viI; rw [if_pos h]⟩
 all_goals
  simp only [treeB, decide_eq_true_eq] at h;unfold goI;rcases h with ⟨rfl, rfl⟩ | ⟨rfl, b, a⟩ | ⟨rfl, b, a⟩
  ·simp
  ·simp
   omega
  ·have c : t = 0 ∨ t = 1 ∨ t = 2 ∨ t = 3 ∨ t = 4 ∨ t = 5 ∨ t = 6 ∨ t = 7 := by omega
   rcases c with rfl | rfl | rfl | rfl | rfl | rfl | rfl | rfl <;> decide
theorem idx_first {p : WayD → Bool} {row : List WayD} {k : Nat} {u : WayD} (hu : row[k]? = some u) (hp : p u = true) (hno : ∀ j v, j < k → row[j]? = some v → p v = false) : row.findIdx? p = some k := by
 have a := (List.getElem?_eq_some_iff.1 hu).1;rw [List.findIdx?_eq_some_iff_getElem];refine ⟨a, ?_, fun j hj => ?_⟩
 ·rw [List.getElem?_eq_getElem a] at hu;cases hu;exact hp
 ·simpa using hno j _ hj (List.getElem?_eq_getElem (by omega))
theorem idx_never {p : WayD → Bool} {row : List WayD} (hno : ∀ (j : Nat) (v : WayD), row[j]? = some v → p v = false) : row.findIdx? p = none := by
 rw [List.findIdx?_eq_none_iff];intro u b;obtain ⟨j, a⟩ := List.mem_iff_getElem?.1 b;simpa using hno j u a
theorem specAt_any (a b : Option Addr) (c : CacheD) (cap cp : Nat) (line : Int) (w : World) (hok : OkC isL treeB c) (h1 : SlRd waysR w a c.1) :
    Calls Tryz.prog 136 #[.agg #[sL a c.1.length cap, sL b c.2.length cp], nI line] w fun e w' => e = .returned (nI (idxI (atC c line))) ∧ Bl w w' := by
 have X := heap_at w (.cells #[sL a c.1.length cap, sL b c.2.length cp] 95);have B := box_below w (.cells #[sL a c.1.length cap, sL b c.2.length cp] 95);by_cases o : line < 0
 ·have T : Hid (idxI (atC c line) = -1) := by unfold Hid atC; rw [if_pos o]; rfl
  go_enter Tryz.func136, Tryz.ntmps136;go_wp2;go_ret
  exact ⟨ret_int T.out.symm, B⟩
 ·have Z : 0 ≤ line := by omega
  have F : Hid (atC c line = (rowFor c line).findIdx? fun u => u.1 == line) := by unfold Hid atC; rw [if_neg o]
  obtain ⟨hp, p, E, G, n, I⟩ := ok_row hok line;obtain ⟨V, o0, U, cj, rfl, f, -, -, g⟩ := set_at h1 p;have hz : (c.1.length : Int) ≠ 0 := by omega
  have s : ((setNo c line : Nat) : Int) < (c.1.length : Int) := by omega
  have r : line % (c.1.length : Int) = ((setNo c line : Nat) : Int) := n.symm;have A := cell_keep B f (cell_lt f);have z : Hid (SlRd wayR w U (rowFor c line)) := g;clear f g h1 p n hok E;obtain ⟨L, N⟩ := cells_two X;generalize setNo c line = sn at I s r A;generalize rowFor c line = row at G A z F;go_enter Tryz.func136, Tryz.ntmps136;go_wp2_with fail
  generalize w.alloc (.cells #[sL (some ⟨V, o0, none⟩) c.1.length cap, sL b c.2.length cp] 95) = W0 at X B L N A ⊢;go_quiet (fail)
  have H := bl_drewN B nq;clear L N A X B;go_wp2;go_loop [6] (fun i => ∃ k : Nat, k ≤ row.length ∧ i = nI k ∧ ∀ j v, j < k → row[j]? = some v → (v.1 == line) = false) (fun i => row.length - (intOf i).toNat)
  case atStart => exact ⟨0, Nat.zero_le _, rfl, fun j v hj => by omega⟩
  case round =>
   obtain ⟨k, R, rfl, q⟩ := hrel;by_cases K : k < row.length
   ·have y : (k : Int) < (row.length : Int) := by omega
    obtain ⟨u, C⟩ : ∃ u, row[k]? = some u := ⟨_, List.getElem?_eq_getElem K⟩;obtain ⟨bk, M, cs, rfl, g, f⟩ := slrd_at (slrd_keep z.out fun k R => H.block k R) C;obtain ⟨ad, bA, rfl, -, -, -, -, -⟩ := way_rd g;have S := f 0 _ rfl;rw [show M + (k * wayR.size + 0) = M + k * 3 from rfl] at S;have O : Hid (row[k]? = some u) := C;obtain ⟨l, st, d⟩ := u;simp only at S
    clear f g C;by_cases D : l = line
    ·have m : Hid (idxI (atC c line) = k) := by unfold Hid; rw [F.out, idx_first O.out (by simp [D]) q]; rfl
     subst D;go_wp2;go_ret
     exact ⟨ret_int m.out.symm, H⟩
    ·have J : (l == line) = false := by simpa using D
     go_wp2;go_round
     case rel =>
      refine ⟨k + 1, by omega, by go_num, fun j v hj hv => ?_⟩;by_cases Y : j < k
      ·exact q j v Y hv
      ·have : j = k := by omega
       subst this;rw [O.out] at hv;cases hv;exact J
     case measure => simp [intOf]; omega
   ·have m : Hid (idxI (atC c line) = -1) := by
      unfold Hid;rw [F.out, idx_never fun j v hv => q j v (by have := (List.getElem?_eq_some_iff.1 hv).1; omega) hv];rfl
    have y : ¬ (k : Int) < (row.length : Int) := by omega
    go_wp2;go_ret
    exact ⟨ret_int m.out.symm, H⟩
end Go.Proofs.YtdamokokcdcedaaGreatDoor
