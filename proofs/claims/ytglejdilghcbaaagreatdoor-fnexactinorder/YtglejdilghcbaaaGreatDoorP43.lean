import Derived.Test.YtglejdilghcbaaaGreatDoorP00Box
import Derived.Test.YtglejdilghcbaaaGreatDoorP40
import Derived.Test.YtglejdilghcbaaaGreatDoorP42
namespace Go.Proofs.YtglejdilghcbaaaGreatDoor
set_option maxHeartbeats 4000000
set_option maxRecDepth 20000
open Go.ChangeShapes Go.WideShapes Go.ChangeAt Go.RowKit
set_option linter.unusedVariables false
set_option linter.unusedSimpArgs false
theorem isOf_any (e : EventD) (o : OpD) (da : Option Addr) (dc : Nat) (w : World) :
    Calls Tryz.prog 108 #[.agg #[nI e.1, nI e.2.1.1, nI e.2.1.2.1, nI e.2.1.2.2.1, nI e.2.1.2.2.2, nI e.2.2.1, nI e.2.2.2.1, sL da e.2.2.2.2.1.length dc, nI e.2.2.2.2.2], .agg #[nI o.1, nI o.2.1, nI o.2.2.1, nI o.2.2.2]] w fun e' w' => e' = .returned (.bool (isOfB e o)) ∧ Bl w w' := by
 have d : Hid (∀ a b, Bl w ((w.alloc a).alloc b)) := fun a b => below_step (box_below w a) (box_below _ b);have c : ∀ V, (Op.equalIn 10000 69 (.agg #[nI e.2.1.1, nI e.2.1.2.1, nI e.2.1.2.2.1, nI e.2.1.2.2.2]) (.agg #[nI o.1, nI o.2.1, nI o.2.2.1, nI o.2.2.2])).run Tryz.prog V = .ok (isOfB e o) V := fun V => by
  rw [op_eq4];congr 1
  rw [Bool.eq_iff_iff];simp only [isOfB, Bool.and_eq_true, beq_iff_eq, decide_eq_true_eq, Prod.ext_iff, and_assoc]
 generalize isOfB e o = bb at c ⊢;go_enter Tryz.func108, Tryz.ntmps108;go_wp2;go_ret
 exact ⟨rfl, d.out _ _⟩
theorem tells_any (e : EventD) (t : Int) (da : Option Addr) (dc : Nat) (w : World) :
    Calls Tryz.prog 110 #[.agg #[nI e.1, nI e.2.1.1, nI e.2.1.2.1, nI e.2.1.2.2.1, nI e.2.1.2.2.2, nI e.2.2.1, nI e.2.2.2.1, sL da e.2.2.2.2.1.length dc, nI e.2.2.2.2.2], nI t] w fun e' w' => e' = .returned (.bool (tellsB e t)) ∧ Bl w w' := by
 have c : Hid (∀ a, Bl w (w.alloc a)) := fun a => box_below w a;have b : Hid ((e.2.2.2.2.2 == t) = tellsB e t) := by unfold Hid tellsB; rw [Bool.eq_iff_iff]; simp
 go_enter Tryz.func110, Tryz.ntmps110;go_wp2;go_ret
 exact ⟨ret_bool b.out, c.out _⟩
theorem carries_any (e : EventD) (d : DescD) (da ea : Option Addr) (dc ec : Nat) (w : World) (h1 : SlRd intR w da e.2.2.2.2.1) (h2 : SlRd intR w ea d.2.2.2) (m1 : e.2.2.2.2.1.length ≤ 1048576) (m2 : d.2.2.2.length ≤ 1048576) :
    Calls Tryz.prog 115 #[.agg #[nI e.1, nI e.2.1.1, nI e.2.1.2.1, nI e.2.1.2.2.1, nI e.2.1.2.2.2, nI e.2.2.1, nI e.2.2.2.1, sL da e.2.2.2.2.1.length dc, nI e.2.2.2.2.2], .agg #[.bool d.1, nI d.2.1, nI d.2.2.1, sL ea d.2.2.2.length ec]] w fun m w' => m = .returned (.bool (carB e d)) ∧ Bl w w' := by
 have g : Hid (∀ a b, Bl w ((w.alloc a).alloc b)) := fun a b => below_step (box_below w a) (box_below _ b);have j : Hid (∀ W, Bl w W → Calls Tryz.prog 167 #[sL da e.2.2.2.2.1.length dc, sL ea d.2.2.2.length ec] W fun m w' => m = .returned (.bool (decide (e.2.2.2.2.1 = d.2.2.2))) ∧ Bl W w') := fun W hb => equalI_any da ea e.2.2.2.2.1 d.2.2.2 dc ec W (slrd_next h1 hb) (slrd_next h2 hb) m1 m2;clear h1 h2 m1 m2;by_cases f : e.2.2.1 = d.2.1
 ·have q : (e.2.2.1 == d.2.1) = true := by simp [f]
  have k : Hid _ := f;clear f;by_cases i : e.2.2.2.1 = d.2.2.1
  ·have r : (e.2.2.2.1 == d.2.2.1) = true := by simp [i]
   have l : Hid _ := i;clear i;cases p : d.1
   ·have c : Hid (carB e d = true) := by unfold Hid carB; rw [decide_eq_true k.out, decide_eq_true l.out, p]; rfl
    clear j k l;go_enter Tryz.func115, Tryz.ntmps115;go_wp2;go_ret
    exact ⟨ret_bool c.out.symm, g.out _ _⟩
   ·have c : Hid (decide (e.2.2.2.2.1 = d.2.2.2) = carB e d) := by unfold Hid carB; rw [decide_eq_true k.out, decide_eq_true l.out, p]; rfl
    clear k l;generalize decide (e.2.2.2.2.1 = d.2.2.2) = bb at j c;go_enter Tryz.func115, Tryz.ntmps115;go_wp2_with fail
    refine (j.out _ (g.out _ _)).mono ?_;rintro m w2 ⟨rfl, o⟩;have n : Hid _ := below_step (g.out _ _) o;clear o j g;go_wp2;go_ret
    exact ⟨ret_bool c.out, n.out⟩
  ·have r : (e.2.2.2.1 == d.2.2.1) = false := by simp [i]
   have c : Hid (carB e d = false) := by unfold Hid carB; rw [decide_eq_false i]; simp
   clear j k i;go_enter Tryz.func115, Tryz.ntmps115;go_wp2;go_ret
   exact ⟨ret_bool c.out.symm, g.out _ _⟩
 ·have q : (e.2.2.1 == d.2.1) = false := by simp [f]
  have c : Hid (carB e d = false) := by unfold Hid carB; rw [decide_eq_false f]; rfl
  clear j f;go_enter Tryz.func115, Tryz.ntmps115;go_wp2;go_ret
  exact ⟨ret_bool c.out.symm, g.out _ _⟩
theorem found_any (e : EventD) (ws : List Int) (da ea : Option Addr) (dc ec : Nat) (w : World) (h1 : SlRd intR w da e.2.2.2.2.1) (h2 : SlRd intR w ea ws) (m1 : e.2.2.2.2.1.length ≤ 1048576) (m2 : ws.length ≤ 1048576) :
    Calls Tryz.prog 166 #[.agg #[nI e.1, nI e.2.1.1, nI e.2.1.2.1, nI e.2.1.2.2.1, nI e.2.1.2.2.2, nI e.2.2.1, nI e.2.2.2.1, sL da e.2.2.2.2.1.length dc, nI e.2.2.2.2.2], sL ea ws.length ec] w fun f w' => f = .returned (.bool (foundB e ws)) ∧ Bl w w' := by
 have c : Hid (∀ a, Bl w (w.alloc a)) := fun a => box_below w a;have g : Hid (∀ W, Bl w W → Calls Tryz.prog 167 #[sL da e.2.2.2.2.1.length dc, sL ea ws.length ec] W fun f w' => f = .returned (.bool (decide (e.2.2.2.2.1 = ws))) ∧ Bl W w') := fun W hb => equalI_any da ea e.2.2.2.2.1 ws dc ec W (slrd_next h1 hb) (slrd_next h2 hb) m1 m2;clear h1 h2 m1 m2;by_cases b : e.2.2.2.1 = 0
 ·have k : (e.2.2.2.1 != 0) = false := by simp [b]
  have d : Hid (decide (e.2.2.2.2.1 = ws) = foundB e ws) := by unfold Hid foundB; rw [decide_eq_true b]; rfl
  clear b;generalize decide (e.2.2.2.2.1 = ws) = bb at g d;go_enter Tryz.func166, Tryz.ntmps166;go_wp2_with fail
  refine (g.out _ (c.out _)).mono ?_;rintro f w2 ⟨rfl, j⟩;have i : Hid _ := below_step (c.out _) j;clear j g c;go_wp2;go_ret
  exact ⟨ret_bool d.out, i.out⟩
 ·have k : (e.2.2.2.1 != 0) = true := by simp [b]
  have d : Hid (foundB e ws = true) := by unfold Hid foundB; rw [decide_eq_false b]; rfl
  clear g b;go_enter Tryz.func166, Tryz.ntmps166;go_wp2;go_ret
  exact ⟨ret_bool d.out.symm, c.out _⟩
theorem eqEvOp (a b : Option Addr) (xs : List EventD) (ys : List OpD) (ca cb : Nat) (w : World) (h1 : SlRd eventR w a xs) (h2 : SlRd opR w b ys) (m1 : xs.length ≤ maxLen) (m2 : ys.length ≤ maxLen) :
    Calls Tryz.prog 107 #[sL a xs.length ca, sL b ys.length cb, .func (.func 108) #[] #[]] w fun e w' => e = .returned (.bool (pairB isOfB xs ys)) ∧ Bl w w' := by
 have fA : xs.length ≤ 9223372036854775807 := m1;have M : ys.length ≤ 9223372036854775807 := m2;by_cases r : xs.length = ys.length
 ·have J : Hid (xs.length = ys.length) := r;have hz : ((xs.length : Int) != (xs.length : Int)) = false := by simp
  have H1 : Hid (∀ W, Bl w W → SlRd eventR W a xs) := fun W l => slrd_next h1 l;have H2 : Hid (∀ W, Bl w W → SlRd opR W b ys) := fun W l => slrd_next h2 l;rw [← r];clear h1 h2 m1 m2 r M;go_enter Tryz.func107, Tryz.ntmps107;go_wp2;go_loopw [17] (fun i wr => ∃ k : Nat, k ≤ xs.length ∧ i = nI k ∧ (∀ j u v, j < k → xs[j]? = some u → ys[j]? = some v → isOfB u v = true) ∧ Bl w wr) (fun i _ => xs.length - (intOf i).toNat)
  case atStart => exact ⟨0, Nat.zero_le _, rfl, fun j u v hj => by omega, Below.refl _ _⟩
  case round =>
   obtain ⟨k, hk, rfl, p, m⟩ := hrel;by_cases E : k < xs.length
   ·have T : (k : Int) < (xs.length : Int) := by omega
    obtain ⟨u, H⟩ : ∃ x, xs[k]? = some x := ⟨_, List.getElem?_eq_getElem E⟩;obtain ⟨v, y⟩ : ∃ v, ys[k]? = some v := ⟨_, List.getElem?_eq_getElem (by have := J.out; omega)⟩;obtain ⟨bb, iA, cs, rfl, o, g⟩ := slrd_at (H1.out _ m) H;obtain ⟨F, D, rfl, -, hd⟩ := ev_parts o;obtain ⟨bc, d, ds, rfl, n, c⟩ := slrd_at (H2.out _ m) y;obtain ⟨rfl, -⟩ := op_rd n;obtain ⟨I, O, x2, N, U, R, Z, X, Y⟩ := cellsAt9 g rfl;have B := c 0 _ rfl;rw [show d + (k * opR.size + 0) = d + k * 4 from rfl] at B;have C := c 1 _ rfl;rw [show d + (k * opR.size + 1) = d + k * 4 + 1 from rfl] at C;have G := c 2 _ rfl;rw [show d + (k * opR.size + 2) = d + k * 4 + 2 from rfl] at G;have L := c 3 _ rfl;rw [show d + (k * opR.size + 3) = d + k * 4 + 3 from rfl] at L;have z : Hid (∀ W, Bl wr W → Calls Tryz.prog 108 #[.agg #[nI u.1, nI u.2.1.1, nI u.2.1.2.1, nI u.2.1.2.2.1, nI u.2.1.2.2.2, nI u.2.2.1, nI u.2.2.2.1, sL F u.2.2.2.2.1.length D, nI u.2.2.2.2.2], .agg #[nI v.1, nI v.2.1, nI v.2.2.1, nI v.2.2.2]] W fun e w' => e = .returned (.bool (isOfB u v)) ∧ Bl W w') := fun W l => isOf_any u v F D W;have A : Hid (xs[k]? = some u ∧ ys[k]? = some v) := ⟨H, y⟩;have kA : bc < wr.heap.size := cell_lt B;have eA : bb < wr.heap.size := cell_lt I;have nA : k < ys.length := by have := J.out; omega
    have S : (k : Int) < (ys.length : Int) := by omega
    clear H y g c o n hd;have V := box_below wr (.cells #[nI u.1, nI u.2.1.1, nI u.2.1.2.1, nI u.2.1.2.2.1, nI u.2.1.2.2.2, nI u.2.2.1, nI u.2.2.2.1, sL F u.2.2.2.2.1.length D, nI u.2.2.2.2.2] 71);have f := below_step V (box_below _ (.cells #[nI v.1, nI v.2.1, nI v.2.2.1, nI v.2.2.2] 69));clear V;cases l : isOfB u v
    ·have s : Hid (pairB isOfB xs ys = false) := pair_no A.out.1 A.out.2 l;rw [l] at z;go_wp2_with fail
     refine (z.out _ f).mono ?_;rintro e w2 ⟨rfl, q⟩;replace m := below_step (below_step m f) q;clear q f I O x2 N U R Z X Y B C G L;go_wp2;go_ret
     exact ⟨ret_bool s.out.symm, m⟩
    ·rw [l] at z;go_wp2_with fail
     refine (z.out _ f).mono ?_;rintro e w2 ⟨rfl, q⟩;replace m := below_step (below_step m f) q;clear q f I O x2 N U R Z X Y B C G L;go_wp2;go_roundw
     case rel =>
      refine ⟨k + 1, by omega, by go_num, fun j u' v' hj hu' hv' => ?_, m⟩;by_cases K : j < k
      ·exact p j u' v' K hu' hv'
      ·have : j = k := by omega
       subst this;rw [A.out.1] at hu';rw [A.out.2] at hv';cases hu'
       cases hv'
       exact l
     case measure => simp [intOf]; omega
   ·have s : Hid (pairB isOfB xs ys = true) := pair_yes J.out fun j u v hu y => p j u v (by have := (List.getElem?_eq_some_iff.1 hu).1; omega) hu y;go_wp2;go_ret
    exact ⟨ret_bool s.out.symm, m⟩
 ·have hz : ((xs.length : Int) != (ys.length : Int)) = true := by simp; omega
  have s : Hid (pairB isOfB xs ys = false) := pair_len r;clear h1 h2 m1 m2 r;go_enter Tryz.func107, Tryz.ntmps107;go_wp2;go_ret
  exact ⟨ret_bool s.out.symm, Below.refl _ _⟩
theorem eqEvInt (a b : Option Addr) (xs : List EventD) (ys : List Int) (ca cb : Nat) (w : World) (h1 : SlRd eventR w a xs) (h2 : SlRd intR w b ys) (m1 : xs.length ≤ maxLen) (m2 : ys.length ≤ maxLen) :
    Calls Tryz.prog 109 #[sL a xs.length ca, sL b ys.length cb, .func (.func 110) #[] #[]] w fun e w' => e = .returned (.bool (pairB tellsB xs ys)) ∧ Bl w w' := by
 have cA : xs.length ≤ 9223372036854775807 := m1;have J : ys.length ≤ 9223372036854775807 := m2;by_cases q : xs.length = ys.length
 ·have H : Hid (xs.length = ys.length) := q;have hz : ((xs.length : Int) != (xs.length : Int)) = false := by simp
  have Z : Hid (∀ W, Bl w W → SlRd eventR W a xs) := fun W g => slrd_next h1 g;have H2 : Hid (∀ W, Bl w W → SlRd intR W b ys) := fun W g => slrd_next h2 g;rw [← q];clear h1 h2 m1 m2 q J;go_enter Tryz.func109, Tryz.ntmps109;go_wp2;go_loopw [17] (fun i wr => ∃ k : Nat, k ≤ xs.length ∧ i = nI k ∧ (∀ j u v, j < k → xs[j]? = some u → ys[j]? = some v → tellsB u v = true) ∧ Bl w wr) (fun i _ => xs.length - (intOf i).toNat)
  case atStart => exact ⟨0, Nat.zero_le _, rfl, fun j u v hj => by omega, Below.refl _ _⟩
  case round =>
   obtain ⟨k, hk, rfl, n, l⟩ := hrel;by_cases D : k < xs.length
   ·have O : (k : Int) < (xs.length : Int) := by omega
    obtain ⟨u, F⟩ : ∃ x, xs[k]? = some x := ⟨_, List.getElem?_eq_getElem D⟩;obtain ⟨v, y⟩ : ∃ v, ys[k]? = some v := ⟨_, List.getElem?_eq_getElem (by have := H.out; omega)⟩;obtain ⟨Y, eA, cs, rfl, m, d⟩ := slrd_at (Z.out _ l) F;obtain ⟨E, C, rfl, -, hd⟩ := ev_parts m;obtain ⟨bc, o, ds, rfl, r, f⟩ := slrd_at (H2.out _ l) y;obtain ⟨rfl, -⟩ := r;obtain ⟨G, L, X, K, R, M, V, T, U⟩ := cellsAt9 d rfl;have B := f 0 _ rfl;rw [show o + (k * intR.size + 0) = o + k from by rw [show intR.size = 1 from rfl]; omega] at B;have z : Hid (∀ W, Bl wr W → Calls Tryz.prog 110 #[.agg #[nI u.1, nI u.2.1.1, nI u.2.1.2.1, nI u.2.1.2.2.1, nI u.2.1.2.2.2, nI u.2.2.1, nI u.2.2.2.1, sL E u.2.2.2.2.1.length C, nI u.2.2.2.2.2], nI v] W fun e w' => e = .returned (.bool (tellsB u v)) ∧ Bl W w') := fun W g => tells_any u v E C W;have A : Hid (xs[k]? = some u ∧ ys[k]? = some v) := ⟨F, y⟩;have gA : bc < wr.heap.size := cell_lt B;have bA : Y < wr.heap.size := cell_lt G;have kA : k < ys.length := by have := H.out; omega
    have N : (k : Int) < (ys.length : Int) := by omega
    clear F y d f m hd;have S := box_below wr (.cells #[nI u.1, nI u.2.1.1, nI u.2.1.2.1, nI u.2.1.2.2.1, nI u.2.1.2.2.2, nI u.2.2.1, nI u.2.2.2.1, sL E u.2.2.2.2.1.length C, nI u.2.2.2.2.2] 71);have c := S;clear S;cases g : tellsB u v
    ·have s : Hid (pairB tellsB xs ys = false) := pair_no A.out.1 A.out.2 g;rw [g] at z;go_wp2_with fail
     refine (z.out _ c).mono ?_;rintro e w2 ⟨rfl, p⟩;replace l := below_step (below_step l c) p;clear p c G L X K R M V T U B;go_wp2;go_ret
     exact ⟨ret_bool s.out.symm, l⟩
    ·rw [g] at z;go_wp2_with fail
     refine (z.out _ c).mono ?_;rintro e w2 ⟨rfl, p⟩;replace l := below_step (below_step l c) p;clear p c G L X K R M V T U B;go_wp2;go_roundw
     case rel =>
      refine ⟨k + 1, by omega, by go_num, fun j u' v' hj hu' hv' => ?_, l⟩;by_cases I : j < k
      ·exact n j u' v' I hu' hv'
      ·have : j = k := by omega
       subst this;rw [A.out.1] at hu';rw [A.out.2] at hv';cases hu'
       cases hv'
       exact g
     case measure => simp [intOf]; omega
   ·have s : Hid (pairB tellsB xs ys = true) := pair_yes H.out fun j u v hu y => n j u v (by have := (List.getElem?_eq_some_iff.1 hu).1; omega) hu y;go_wp2;go_ret
    exact ⟨ret_bool s.out.symm, l⟩
 ·have hz : ((xs.length : Int) != (ys.length : Int)) = true := by simp; omega
  have s : Hid (pairB tellsB xs ys = false) := pair_len q;clear h1 h2 m1 m2 q;go_enter Tryz.func109, Tryz.ntmps109;go_wp2;go_ret
  exact ⟨ret_bool s.out.symm, Below.refl _ _⟩
theorem eqEvDesc (a b : Option Addr) (xs : List EventD) (ys : List DescD) (ca cb : Nat) (w : World) (h1 : SlRd eventR w a xs) (h2 : SlRd descR w b ys) (m1 : xs.length ≤ maxLen) (m2 : ys.length ≤ maxLen) (hd1 : ∀ u ∈ xs, u.2.2.2.2.1.length ≤ 1048576) (hd2 : ∀ d ∈ ys, d.2.2.2.length ≤ 1048576) :
    Calls Tryz.prog 164 #[sL a xs.length ca, sL b ys.length cb, .func (.func 115) #[] #[]] w fun e w' => e = .returned (.bool (pairB carB xs ys)) ∧ Bl w w' := by
 have nA : xs.length ≤ 9223372036854775807 := m1;have U : ys.length ≤ 9223372036854775807 := m2;by_cases z : xs.length = ys.length
 ·have O : Hid (xs.length = ys.length) := z;have hz : ((xs.length : Int) != (xs.length : Int)) = false := by simp
  have H1 : Hid (∀ W, Bl w W → SlRd eventR W a xs) := fun W l => slrd_next h1 l;have H2 : Hid (∀ W, Bl w W → SlRd descR W b ys) := fun W l => slrd_next h2 l;have I : Hid _ := hd1;have R : Hid _ := hd2;clear hd1 hd2;rw [← z];clear h1 h2 m1 m2 z U;go_enter Tryz.func164, Tryz.ntmps164;go_wp2;go_loopw [17] (fun i wr => ∃ k : Nat, k ≤ xs.length ∧ i = nI k ∧ (∀ j u v, j < k → xs[j]? = some u → ys[j]? = some v → carB u v = true) ∧ Bl w wr) (fun i _ => xs.length - (intOf i).toNat)
  case atStart => exact ⟨0, Nat.zero_le _, rfl, fun j u v hj => by omega, Below.refl _ _⟩
  case round =>
   obtain ⟨k, hk, rfl, r, n⟩ := hrel;by_cases H : k < xs.length
   ·have aA : (k : Int) < (xs.length : Int) := by omega
    obtain ⟨u, B⟩ : ∃ x, xs[k]? = some x := ⟨_, List.getElem?_eq_getElem H⟩;obtain ⟨v, q⟩ : ∃ v, ys[k]? = some v := ⟨_, List.getElem?_eq_getElem (by have := O.out; omega)⟩;obtain ⟨bb, pA, cs, rfl, p, m⟩ := slrd_at (H1.out _ n) B;obtain ⟨J, G, rfl, -, hd⟩ := ev_parts p;obtain ⟨bc, f, ds, rfl, o, c⟩ := slrd_at (H2.out _ n) q;obtain ⟨M, L, rfl, s⟩ := desc_shape o;obtain ⟨N, X, x2, V, x4, Y, x6, x7, x8⟩ := cellsAt9 m rfl;have E := c 0 _ rfl;rw [show f + (k * descR.size + 0) = f + k * 4 from rfl] at E;have F := c 1 _ rfl;rw [show f + (k * descR.size + 1) = f + k * 4 + 1 from rfl] at F;have K := c 2 _ rfl;rw [show f + (k * descR.size + 2) = f + k * 4 + 2 from rfl] at K;have T := c 3 _ rfl;rw [show f + (k * descR.size + 3) = f + k * 4 + 3 from rfl] at T;have C : Hid (∀ W, Bl wr W → Calls Tryz.prog 115 #[.agg #[nI u.1, nI u.2.1.1, nI u.2.1.2.1, nI u.2.1.2.2.1, nI u.2.1.2.2.2, nI u.2.2.1, nI u.2.2.2.1, sL J u.2.2.2.2.1.length G, nI u.2.2.2.2.2], .agg #[.bool v.1, nI v.2.1, nI v.2.2.1, sL M v.2.2.2.length L]] W fun e w' => e = .returned (.bool (carB u v)) ∧ Bl W w') := fun W l => carries_any u v J M G L W (slrd_next hd l) (slrd_next s l) (I.out u (List.mem_of_getElem? B)) (R.out v (List.mem_of_getElem? q));have D : Hid (xs[k]? = some u ∧ ys[k]? = some v) := ⟨B, q⟩;have qA : bc < wr.heap.size := cell_lt E;have mA : bb < wr.heap.size := cell_lt N;have vA : k < ys.length := by have := O.out; omega
    have Z : (k : Int) < (ys.length : Int) := by omega
    clear B q m c p o hd s;have bz := box_below wr (.cells #[nI u.1, nI u.2.1.1, nI u.2.1.2.1, nI u.2.1.2.2.1, nI u.2.1.2.2.2, nI u.2.2.1, nI u.2.2.2.1, sL J u.2.2.2.2.1.length G, nI u.2.2.2.2.2] 71);have g := below_step bz (box_below _ (.cells #[.bool v.1, nI v.2.1, nI v.2.2.1, sL M v.2.2.2.length L] 73));clear bz;cases l : carB u v
    ·have A : Hid (pairB carB xs ys = false) := pair_no D.out.1 D.out.2 l;rw [l] at C;go_wp2_with fail
     refine (C.out _ g).mono ?_;rintro e w2 ⟨rfl, y⟩;replace n := below_step (below_step n g) y;clear y g N X x2 V x4 Y x6 x7 x8 E F K T;go_wp2;go_ret
     exact ⟨ret_bool A.out.symm, n⟩
    ·rw [l] at C;go_wp2_with fail
     refine (C.out _ g).mono ?_;rintro e w2 ⟨rfl, y⟩;replace n := below_step (below_step n g) y;clear y g N X x2 V x4 Y x6 x7 x8 E F K T;go_wp2;go_roundw
     case rel =>
      refine ⟨k + 1, by omega, by go_num, fun j u' v' hj hu' hv' => ?_, n⟩;by_cases S : j < k
      ·exact r j u' v' S hu' hv'
      ·have : j = k := by omega
       subst this;rw [D.out.1] at hu';rw [D.out.2] at hv';cases hu'
       cases hv'
       exact l
     case measure => simp [intOf]; omega
   ·have A : Hid (pairB carB xs ys = true) := pair_yes O.out fun j u v hu q => r j u v (by have := (List.getElem?_eq_some_iff.1 hu).1; omega) hu q;go_wp2;go_ret
    exact ⟨ret_bool A.out.symm, n⟩
 ·have hz : ((xs.length : Int) != (ys.length : Int)) = true := by simp; omega
  have A : Hid (pairB carB xs ys = false) := pair_len z;clear h1 h2 m1 m2 z;go_enter Tryz.func164, Tryz.ntmps164;go_wp2;go_ret
  exact ⟨ret_bool A.out.symm, Below.refl _ _⟩
theorem eqEvInts (a b : Option Addr) (xs : List EventD) (ys : List (List Int)) (ca cb : Nat) (w : World) (h1 : SlRd eventR w a xs) (h2 : SlRd intsR w b ys) (m1 : xs.length ≤ maxLen) (m2 : ys.length ≤ maxLen) (hd1 : ∀ u ∈ xs, u.2.2.2.2.1.length ≤ 1048576) (hd2 : ∀ d ∈ ys, d.length ≤ 1048576) :
    Calls Tryz.prog 165 #[sL a xs.length ca, sL b ys.length cb, .func (.func 166) #[] #[]] w fun e w' => e = .returned (.bool (pairB foundB xs ys)) ∧ Bl w w' := by
 have kA : xs.length ≤ 9223372036854775807 := m1;have N : ys.length ≤ 9223372036854775807 := m2;by_cases y : xs.length = ys.length
 ·have K : Hid (xs.length = ys.length) := y;have hz : ((xs.length : Int) != (xs.length : Int)) = false := by simp
  have H1 : Hid (∀ W, Bl w W → SlRd eventR W a xs) := fun W f => slrd_next h1 f;have H2 : Hid (∀ W, Bl w W → SlRd intsR W b ys) := fun W f => slrd_next h2 f;have H : Hid _ := hd1;have L : Hid _ := hd2;clear hd1 hd2;rw [← y];clear h1 h2 m1 m2 y N;go_enter Tryz.func165, Tryz.ntmps165;go_wp2;go_loopw [17] (fun i wr => ∃ k : Nat, k ≤ xs.length ∧ i = nI k ∧ (∀ j u v, j < k → xs[j]? = some u → ys[j]? = some v → foundB u v = true) ∧ Bl w wr) (fun i _ => xs.length - (intOf i).toNat)
  case atStart => exact ⟨0, Nat.zero_le _, rfl, fun j u v hj => by omega, Below.refl _ _⟩
  case round =>
   obtain ⟨k, hk, rfl, p, m⟩ := hrel;by_cases G : k < xs.length
   ·have U : (k : Int) < (xs.length : Int) := by omega
    obtain ⟨u, B⟩ : ∃ x, xs[k]? = some x := ⟨_, List.getElem?_eq_getElem G⟩;obtain ⟨v, o⟩ : ∃ v, ys[k]? = some v := ⟨_, List.getElem?_eq_getElem (by have := K.out; omega)⟩;obtain ⟨bb, mA, cs, rfl, n, g⟩ := slrd_at (H1.out _ m) B;obtain ⟨I, F, rfl, -, hd⟩ := ev_parts n;obtain ⟨bc, q, ds, rfl, z, l⟩ := slrd_at (H2.out _ m) o;obtain ⟨ea, Z, rfl, -, -, r⟩ := z;obtain ⟨J, R, x2, O, V, S, x6, Y, x8⟩ := cellsAt9 g rfl;have E := l 0 _ rfl;rw [show q + (k * intsR.size + 0) = q + k from by rw [show intsR.size = 1 from rfl]; omega] at E;have C : Hid (∀ W, Bl wr W → Calls Tryz.prog 166 #[.agg #[nI u.1, nI u.2.1.1, nI u.2.1.2.1, nI u.2.1.2.2.1, nI u.2.1.2.2.2, nI u.2.2.1, nI u.2.2.2.1, sL I u.2.2.2.2.1.length F, nI u.2.2.2.2.2], sL ea v.length Z] W fun e w' => e = .returned (.bool (foundB u v)) ∧ Bl W w') := fun W f => found_any u v I ea F Z W (slrd_next hd f) (slrd_next r f) (H.out u (List.mem_of_getElem? B)) (L.out v (List.mem_of_getElem? o));have D : Hid (xs[k]? = some u ∧ ys[k]? = some v) := ⟨B, o⟩;have nA : bc < wr.heap.size := cell_lt E;have jA : bb < wr.heap.size := cell_lt J;have qA : k < ys.length := by have := K.out; omega
    have T : (k : Int) < (ys.length : Int) := by omega
    clear B o g l n hd r;have X := box_below wr (.cells #[nI u.1, nI u.2.1.1, nI u.2.1.2.1, nI u.2.1.2.2.1, nI u.2.1.2.2.2, nI u.2.2.1, nI u.2.2.2.1, sL I u.2.2.2.2.1.length F, nI u.2.2.2.2.2] 71);have c := X;clear X;cases f : foundB u v
    ·have A : Hid (pairB foundB xs ys = false) := pair_no D.out.1 D.out.2 f;rw [f] at C;go_wp2_with fail
     refine (C.out _ c).mono ?_;rintro e w2 ⟨rfl, s⟩;replace m := below_step (below_step m c) s;clear s c J R x2 O V S x6 Y x8 E;go_wp2;go_ret
     exact ⟨ret_bool A.out.symm, m⟩
    ·rw [f] at C;go_wp2_with fail
     refine (C.out _ c).mono ?_;rintro e w2 ⟨rfl, s⟩;replace m := below_step (below_step m c) s;clear s c J R x2 O V S x6 Y x8 E;go_wp2;go_roundw
     case rel =>
      refine ⟨k + 1, by omega, by go_num, fun j u' v' hj hu' hv' => ?_, m⟩;by_cases M : j < k
      ·exact p j u' v' M hu' hv'
      ·have : j = k := by omega
       subst this;rw [D.out.1] at hu';rw [D.out.2] at hv';cases hu'
       cases hv'
       exact f
     case measure => simp [intOf]; omega
   ·have A : Hid (pairB foundB xs ys = true) := pair_yes K.out fun j u v hu o => p j u v (by have := (List.getElem?_eq_some_iff.1 hu).1; omega) hu o;go_wp2;go_ret
    exact ⟨ret_bool A.out.symm, m⟩
 ·have hz : ((xs.length : Int) != (ys.length : Int)) = true := by simp; omega
  have A : Hid (pairB foundB xs ys = false) := pair_len y;clear h1 h2 m1 m2 y;go_enter Tryz.func165, Tryz.ntmps165;go_wp2;go_ret
  exact ⟨ret_bool A.out.symm, Below.refl _ _⟩
end Go.Proofs.YtglejdilghcbaaaGreatDoor
