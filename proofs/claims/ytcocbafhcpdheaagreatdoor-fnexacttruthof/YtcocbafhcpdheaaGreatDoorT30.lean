import Derived.Test.YtcocbafhcpdheaaGreatDoorT00Box
import Derived.Test.YtcocbafhcpdheaaGreatDoorT29
import Derived.Lib.SliceRun
import Derived.Deep.RegionLaw
namespace Go.Proofs.YtcocbafhcpdheaaGreatDoor
set_option maxHeartbeats 4000000
open Go.ChangeShapes Go.WideShapes Go.ChangeAt Go.RowKit
set_option linter.unusedVariables false
open Go.RowKit
section
variable {P : Program} {C : World → Prop} {l : List Oper} {o : Oper}
end
open Go.ChangeShapes Go.WideShapes Go.ChangeAt Go.RowKit Go.Shelf
attribute [local go_sem] Oper.semAt_some
section
variable {W0 wx : World} {b0 o0 o1 : Nat} {u v : Value}
end
theorem zK8 (cs : List Value) (c : zA7) (k : Int) (w : World) (h : zBQ.rd w cs c) :
    Calls Tryz.prog 132 #[zBq cs, .int .i64 k] w fun e f => ∃ us, e = .returned (.tuple #[zBq us, .int .i64 (zEy c k).2]) ∧ zAI zBu w f us (zEy c k).1 := by
 obtain ⟨a, d, b, l, rfl, n, j, i, o, g, m⟩ := zBO h;refine (zIq a b c d l k w g m (Nat.le_trans n j) (Nat.le_trans i o) (zIo g)).mono ?_;rintro e f ⟨av, cv, rfl, p⟩;exact ⟨_, rfl, p⟩
theorem zIr (cs : List Value) (c : zA7) (w : World) (h : zBQ.rd w cs c) :
    Calls Tryz.prog 194 #[zBq cs] w fun e w' => e = .returned (.bool (okB isL zAH c)) ∧ Below w.heap.size w w' := by
 obtain ⟨a, d, b, j, rfl, l, i, g, m, f, k⟩ := zBO h;exact zEl a b c d j w f k (Nat.le_trans l i) (Nat.le_trans g m) (zIo f)
theorem zM9 (cs : List Value) (c : zA7) (k : Int) (w : World) (hok : OkC isL zAH c) (h : zBQ.rd w cs c) :
    Calls Tryz.prog 196 #[zBq cs, .int .i64 k] w fun e w' => e = .returned (.tuple #[.agg #[.int .i64 (zD0 c k).1, .int .i64 (zD0 c k).2.1], .bool (zD0 c k).2.2]) ∧ Below w.heap.size w w' := by
 obtain ⟨a, d, b, g, rfl, l1, l2, m1, m2, f, r2⟩ := zBO h;exact zFR a b c d g k w hok f
theorem zO0 (w : World) : Calls Tryz.prog 156 #[] w fun e a => ∃ ds, e = .returned (zBq ds) ∧ zAI zBu w a ds zB0 := by
 refine (zK7 w).mono ?_;rintro e a ⟨av, cv, rfl, b⟩;exact ⟨_, rfl, b⟩
theorem specAt_u (cs : List Value) (c : zA7) (k : Int) (w : World) (hok : OkC isL zAH c) (h : zBQ.rd w cs c) :
    Calls Tryz.prog 150 #[zBq cs, .int .i64 k] w fun e w' => e = .returned (.int .i64 (zM6 (atC c k))) ∧ Below w.heap.size w w' := by
 obtain ⟨a, d, b, g, rfl, l1, l2, m1, m2, f, r2⟩ := zBO h;exact zFB a b c d g k w hok f
theorem zK9 (us : List Value) (u : zC3) (w : World) (h : zBu.rd w us u) :
    Calls Tryz.prog 104 #[zBq us] w fun e w' => e = .returned (.bool (zB3 u)) ∧ Below w.heap.size w w' := by
 obtain ⟨ad, c, rfl, i1, i2, a, b, k3⟩ := zBz h;rw [← zJc];exact zDQ _ _ _ _ _ w (Nat.le_trans a b)
theorem zMA (us : List Value) (u : zC3) (w : World) (h : zBu.rd w us u) :
    Calls Tryz.prog 248 #[zBq us] w fun e w' => e = .returned (.bool (zCC isL u)) ∧ Below w.heap.size w w' := by
 obtain ⟨ad, b, rfl, i1, i2, k1, k2, a⟩ := zBz h;exact zEk _ _ _ _ _ w a
theorem zKA (us : List Value) (u : zC3) (w : World) (h : zBu.rd w us u) :
    Calls Tryz.prog 249 #[zBq us] w fun e w' => e = .returned (.bool (zEx u)) ∧ Below w.heap.size w w' := by
 obtain ⟨f, a, rfl, i1, i2, l, j, o⟩ := zBz h;have k : u.2.2.length ≤ 9223372036854775807 := Nat.le_trans l j;clear h l j o;have X := zAn w (.cells #[.int .i64 u.1, .int .i64 u.2.1, .slice f u.2.2.length a] 88);have B := zAf w (.cells #[.int .i64 u.1, .int .i64 u.2.1, .slice f u.2.2.length a] 88);change Calls Tryz.prog 249 #[.agg #[.int .i64 u.1, .int .i64 u.2.1, .slice f u.2.2.length a]] w _
 unfold zEx;generalize u.2.2.length = n at *;have HB : Hid (∀ b : Bool, b = zA8 u.1 0 15 → zA8 u.1 0 15 = b) := fun b e => e.symm;cases m : zA8 u.1 0 15
 all_goals
  go_enter Tryz.func249, Tryz.ntmps249;go_wp2_with fail
  generalize w.alloc (.cells #[.int .i64 u.1, .int .i64 u.2.1, .slice f n a] 88) = W0 at X B ⊢;refine (zBD _ _).mono ?_;rintro e q ⟨rfl, h⟩;rw [h, m];clear h q;obtain ⟨p, s, r⟩ := zAJ X
 ·clear X p s r;go_wp2;go_ret
  exact ⟨rfl, B⟩
 ·by_cases c : u.2.1 = 0
  ·have g : (u.2.1 == 0) = true := by simp [c]
   by_cases d : n = 0
   ·have i : ((n : Int) == 0) = true := by simp [d]
    clear X;go_wp2;go_ret
    exact ⟨by simp [c, d], B⟩
   ·have i : ((n : Int) == 0) = false := by simp [d]
    clear X;go_wp2;go_ret
    exact ⟨by simp [c, d], B⟩
  ·have g : (u.2.1 == 0) = false := by simp [c]
   clear X;go_wp2;go_ret
   exact ⟨by simp [c], B⟩
def zJ3 (x : zBi) : Bool := zA8 x.2.2.1 0 x.2.1.length && decide ((x.2.2.2.2.2.length : Int) = x.2.2.1)
noncomputable def zHG (x : zBi) : Bool := if x.2.2.2.1 = 0 then zB3 x.2.2.2.2.1 else if x.2.2.2.1 = 1 then decide (atC x.1 x.2.2.2.2.1.1 = none) && (zCC isL x.2.2.2.2.1 || zEx x.2.2.2.2.1) else if x.2.2.2.1 = 2 then zB3 x.2.2.2.2.1 && decide (x.2.2.1 < (x.2.1.length : Int)) else false
theorem core_all (x : zBi) : zCd x = (okB isL zAH x.1 && (zM5 x.2.1 && (zJ3 x && zHG x))) := by
 unfold zCd zM5 zJ3 zHG zGI;cases okB isL zAH x.1
 ·rfl
 by_cases d : x.2.1.length ≤ 30
 ·simp only [d, decide_true, Bool.true_and];cases f : zA8 x.2.2.1 0 x.2.1.length
  ·cases x.2.1.all zB2 <;> rfl
  ·cases h3 : decide ((x.2.2.2.2.2.length : Int) = x.2.2.1)
   ·cases x.2.1.all zB2 <;> rfl
   ·have g : x.2.2.1 ≤ (x.2.1.length : Int) := by simp [zA8] at f; omega
    simp only [Bool.true_and];by_cases b : x.2.2.2.1 = 0
    ·rw [if_pos b, if_neg (by omega)];simp [b, zA8]
    ·by_cases a : x.2.2.2.1 = 1
     ·rw [if_neg b, if_pos a, if_pos a];simp only [a, zA8];rw [Bool.or_comm, Bool.and_comm (decide (atC x.1 x.2.2.2.2.1.1 = none))];simp
     ·by_cases c : x.2.2.2.1 = 2
      ·rw [if_neg b, if_neg a, if_pos c, if_neg a];have e : decide (x.2.2.1 < (x.2.1.length : Int)) = !decide (x.2.2.1 = (x.2.1.length : Int)) := by
        by_cases e : x.2.2.1 = (x.2.1.length : Int)
        ·simp [e]
        ·simp [e]; omega
       rw [e];simp only [c, zA8];cases x.2.1.all zB2 <;> cases zB3 x.2.2.2.2.1 <;> cases decide (x.2.2.1 = (x.2.1.length : Int)) <;> simp
      ·rw [if_neg b, if_neg a, if_neg c, if_neg a];have e : zA8 x.2.2.2.1 0 2 = false := by simp [zA8]; omega
       rw [e];cases x.2.1.all zB2 <;> rfl
 ·simp only [d, decide_false, Bool.false_and, Bool.and_false]
theorem zKB (cs : List Value) (x : zBi) (w : World) (h : zAB.rd w cs x) :
    Calls Tryz.prog 250 #[zBq cs] w fun e w' => e = .returned (.bool (decide (x.2.2.1 < (x.2.1.length : Int)))) ∧ Below w.heap.size w w' := by
 obtain ⟨b, j, v2, c, f, i, g, rfl, o, q, i2, i3, r, p⟩ := zC7 h;obtain ⟨a, d, n, m, k, -⟩ := q;simp only [List.cons.injEq, and_true] at n;obtain rfl := n;have l : x.2.1.length ≤ 9223372036854775807 := Nat.le_trans m k;clear h o r p m k;change Calls Tryz.prog 250 #[.agg #[b, j, .slice a x.2.1.length d, .int .i64 x.2.2.1, .int .i64 x.2.2.2.1, c, f, i, g]] w _
 have X := zAn w (.cells #[b, j, .slice a x.2.1.length d, .int .i64 x.2.2.1, .int .i64 x.2.2.2.1, c, f, i, g] 95);have B := zAf w (.cells #[b, j, .slice a x.2.1.length d, .int .i64 x.2.2.1, .int .i64 x.2.2.2.1, c, f, i, g] 95);have s : Hid _ := B;clear B;by_cases v : x.2.2.1 < (x.2.1.length : Int)
 all_goals
  go_enter Tryz.func250, Tryz.ntmps250;obtain ⟨y0, y1, y2, y3, y4, y5, y6, y7, y8⟩ := zAh X;clear X;go_wp2;go_ret
  exact ⟨by simp [v], s.out⟩
theorem zKC (cs : List Value) (x : zBi) (w : World) (h : zAB.rd w cs x) :
    Calls Tryz.prog 214 #[zBq cs] w fun e w' => e = .returned (.bool (zJ3 x)) ∧ Below w.heap.size w w' := by
 obtain ⟨f, m, v2, g, k, l, v8, rfl, C, E, i2, i3, G, D⟩ := zC7 h;obtain ⟨b, j, y, r, o, -⟩ := E;simp only [List.cons.injEq, and_true] at y;obtain rfl := y;obtain ⟨c, i, z, p, s, -⟩ := D;simp only [List.cons.injEq, and_true] at z;obtain rfl := z;have q : x.2.1.length ≤ 9223372036854775807 := Nat.le_trans r o;have v : x.2.2.2.2.2.length ≤ 9223372036854775807 := Nat.le_trans p s;clear h C G r o p s;change Calls Tryz.prog 214 #[.agg #[f, m, .slice b x.2.1.length j, .int .i64 x.2.2.1, .int .i64 x.2.2.2.1, g, k, l, .slice c x.2.2.2.2.2.length i]] w _
 have X := zAn w (.cells #[f, m, .slice b x.2.1.length j, .int .i64 x.2.2.1, .int .i64 x.2.2.2.1, g, k, l, .slice c x.2.2.2.2.2.length i] 95);have B := zAf w (.cells #[f, m, .slice b x.2.1.length j, .int .i64 x.2.2.1, .int .i64 x.2.2.2.1, g, k, l, .slice c x.2.2.2.2.2.length i] 95);unfold zJ3;have n : Hid _ := B;clear B;have hc : ((x.2.2.2.2.2.length : Int) == x.2.2.1) = decide ((x.2.2.2.2.2.length : Int) = x.2.2.1) := rfl;cases A : zA8 x.2.2.1 0 x.2.1.length
 all_goals
  go_enter Tryz.func214, Tryz.ntmps214;obtain ⟨y0, y1, y2, y3, y4, y5, y6, y7, y8⟩ := zAh X;clear X;go_wp2_with fail
  refine (zAw _ _ _ _).mono ?_;rintro e F ⟨rfl, h⟩;rw [h, A];clear h F
 ·go_wp2;go_ret
  exact ⟨rfl, n.out⟩
 ·by_cases a : (x.2.2.2.2.2.length : Int) = x.2.2.1
  ·have d : ((x.2.2.2.2.2.length : Int) == x.2.2.1) = true := by simp [a]
   go_wp2;go_ret
   exact ⟨by simp [a], n.out⟩
  ·have d : ((x.2.2.2.2.2.length : Int) == x.2.2.1) = false := by simp [a]
   go_wp2;go_ret
   exact ⟨by simp [a], n.out⟩
theorem zMB {c : zA7} (h : OkC isL zAH c) (k : Int) : (zD0 c k).2.2 = !decide (atC c k = none) := by
 rw [zIm h];cases a : zA8 k 0 15
 ·rw [at_out h a]; rfl
 ·cases atC c k <;> rfl
theorem zKD (cs : List Value) (x : zBi) (w : World) (hok : OkC isL zAH x.1) (h : zAB.rd w cs x) :
    Calls Tryz.prog 215 #[zBq cs] w fun e w' => e = .returned (.bool (zHG x)) ∧ Below w.heap.size w w' := by
 have J : Hid _ := fun (W : World) (hb : Below w.heap.size w W) => zKB cs x W (zAr h hb);obtain ⟨q, y, C, r, s, v, F, rfl, O, Y, i2, i3, A, V⟩ := zC7 h;have M : Hid (∀ W, Below w.heap.size w W → Calls Tryz.prog 104 #[.agg #[r, s, v]] W fun e w' => e = .returned (.bool (zB3 x.2.2.2.2.1)) ∧ Below W.heap.size W w') := fun W hb => zK9 [r, s, v] _ W (zAr A hb);have K : Hid (∀ W, Below w.heap.size w W → Calls Tryz.prog 248 #[.agg #[r, s, v]] W fun e w' => e = .returned (.bool (zCC isL x.2.2.2.2.1)) ∧ Below W.heap.size W w') := fun W hb => zMA [r, s, v] _ W (zAr A hb);have S : Hid (∀ W, Below w.heap.size w W → Calls Tryz.prog 249 #[.agg #[r, s, v]] W fun e w' => e = .returned (.bool (zEx x.2.2.2.2.1)) ∧ Below W.heap.size W w') := fun W hb => zKA [r, s, v] _ W (zAr A hb);have G : Hid (∀ W, Below w.heap.size w W → Calls Tryz.prog 196 #[.agg #[q, y], .int .i64 x.2.2.2.2.1.1] W fun e w' => e = .returned (.tuple #[.agg #[.int .i64 (zD0 x.1 x.2.2.2.2.1.1).1, .int .i64 (zD0 x.1 x.2.2.2.2.1.1).2.1], .bool (!decide (atC x.1 x.2.2.2.2.1.1 = none))]) ∧ Below W.heap.size W w') := fun W hb => by
  have := zM9 [q, y] x.1 x.2.2.2.2.1.1 W hok (zAr O hb);rw [zMB hok] at this;exact this
 obtain ⟨D, f, T, -, -, -, -, -⟩ := zBz A;simp only [List.cons.injEq, and_true] at T;obtain ⟨rfl, rfl, rfl⟩ := T;clear h O Y A V hok;unfold zHG;change Calls Tryz.prog 215 #[.agg #[q, y, C, .int .i64 x.2.2.1, .int .i64 x.2.2.2.1, .int .i64 x.2.2.2.2.1.1, .int .i64 x.2.2.2.2.1.2.1, .slice D x.2.2.2.2.1.2.2.length f, F]] w _
 rw [show zBq _ = .agg _ from rfl] at J;generalize decide (x.2.2.1 < (x.2.1.length : Int)) = hp at J ⊢;generalize zB3 x.2.2.2.2.1 = cl at M ⊢;generalize zCC isL x.2.2.2.2.1 = fu at K ⊢;generalize zEx x.2.2.2.2.1 = go at S ⊢;generalize N : decide (atC x.1 x.2.2.2.2.1.1 = none) = an at G ⊢;clear N;generalize zD0 x.1 x.2.2.2.2.1.1 = fp at G;have X := zAn w (.cells #[q, y, C, .int .i64 x.2.2.1, .int .i64 x.2.2.2.1, .int .i64 x.2.2.2.2.1.1, .int .i64 x.2.2.2.2.1.2.1, .slice D x.2.2.2.2.1.2.2.length f, F] 95);have B := zAf w (.cells #[q, y, C, .int .i64 x.2.2.1, .int .i64 x.2.2.2.1, .int .i64 x.2.2.2.2.1.1, .int .i64 x.2.2.2.2.1.2.1, .slice D x.2.2.2.2.1.2.2.length f, F] 95);generalize x.2.2.2.1 = ph at *;have Z : ∀ b c d : Bool, (if ph = 0 then b else if ph = 1 then c else if ph = 2 then d else false) = (if ph = 0 then b else if ph = 1 then c else if ph = 2 then d else false) := fun _ _ _ => rfl;clear Z;go_enter Tryz.func215, Tryz.ntmps215;obtain ⟨k, o, n, p, g, j, m, l, i⟩ := zAh X;by_cases L : ph = 0
 ·subst L;rw [if_pos rfl];go_wp2_with fail
  refine (M.out _ B).mono ?_;rintro e E ⟨rfl, a⟩;go_wp2;go_ret
  exact ⟨rfl, zAa B a⟩
 ·have bA : (ph == 0) = false := by simp [L]
  rw [if_neg L];by_cases H : ph = 1
  ·subst H;rw [if_pos rfl];go_wp2_with fail
   generalize w.alloc (.cells #[q, y, C, .int .i64 x.2.2.1, .int .i64 1, .int .i64 x.2.2.2.2.1.1, .int .i64 x.2.2.2.2.1.2.1, .slice D x.2.2.2.2.1.2.2.length f, F] 95) = W0 at X B ⊢;refine (G.out _ B).mono ?_;rintro e E ⟨rfl, a⟩;replace X := zA3 (.cells #[.int .i64 fp.1, .int .i64 fp.2.1] 217) (zAb a X);replace B := zAa (zAa B a) (zAf E (.cells #[.int .i64 fp.1, .int .i64 fp.2.1] 217));clear a G k o n p g j m l i;obtain ⟨k, o, n, p, g, j, m, l, i⟩ := zAh X;cases an
   ·clear X;go_wp2;go_ret
    exact ⟨rfl, B⟩
   ·go_wp2_with fail
    generalize E.alloc (.cells #[.int .i64 fp.1, .int .i64 fp.2.1] 217) = W1 at X B ⊢;refine (K.out _ B).mono ?_;rintro e w2 ⟨rfl, z⟩;replace X := zAb z X;replace B := zAa B z;clear z K k o n p g j m l i;obtain ⟨k, o, n, p, g, j, m, l, i⟩ := zAh X;cases fu
    ·go_wp2_with fail
     refine (S.out _ B).mono ?_;rintro e w3 ⟨rfl, R⟩;replace B := zAa B R;clear X R k o n p g j m l i;go_wp2;go_ret
     exact ⟨rfl, B⟩
    ·clear X;go_wp2;go_ret
     exact ⟨rfl, B⟩
  ·have cA : (ph == 1) = false := by simp [H]
   rw [if_neg H];by_cases I : ph = 2
   ·subst I;rw [if_pos rfl];go_wp2_with fail
    refine (M.out _ B).mono ?_;rintro e E ⟨rfl, a⟩;replace X := zAb a X;replace B := zAa B a;clear a k o n p g j m l i;obtain ⟨k, o, n, p, g, j, m, l, i⟩ := zAh X;cases cl
    ·clear X;go_wp2;go_ret
     exact ⟨rfl, B⟩
    ·go_wp2_with fail
     refine (J.out _ B).mono ?_;rintro e w2 ⟨rfl, z⟩;clear X k o n p g j m l i;go_wp2;go_ret
     exact ⟨rfl, zAa B z⟩
   ·have U : (ph == 2) = false := by simp [I]
    rw [if_neg I];clear X;go_wp2;go_ret
    exact ⟨rfl, B⟩
theorem zJ4 (cs : List Value) (x : zBi) (w : World) (h : zAB.rd w cs x) :
    Calls Tryz.prog 172 #[zBq cs] w fun e w' => e = .returned (.bool (zCd x)) ∧ Below w.heap.size w w' := by
 rw [core_all];have p : Hid _ := fun (W : World) (hb : Below w.heap.size w W) => zKC cs x W (zAr h hb);have m : Hid (∀ W, okB isL zAH x.1 = true → Below w.heap.size w W → Calls Tryz.prog 215 #[zBq cs] W fun e w' => e = .returned (.bool (zHG x)) ∧ Below W.heap.size W w') := fun W hk hb => zKD cs x W (zEQ.1 hk) (zAr h hb);obtain ⟨n, o, r, v, y, C, A, rfl, D, E, i2, i3, J, H⟩ := zC7 h;have z : Hid (∀ W, Below w.heap.size w W → Calls Tryz.prog 194 #[.agg #[n, o]] W fun e w' => e = .returned (.bool (okB isL zAH x.1)) ∧ Below W.heap.size W w') := fun W hb => zIr [n, o] _ W (zAr D hb);have s : Hid (∀ W, Below w.heap.size w W → Calls Tryz.prog 213 #[r] W fun e w' => e = .returned (.bool (zM5 x.2.1)) ∧ Below W.heap.size W w') := fun W hb => by
  obtain ⟨a1, c1, F, I, G, q⟩ := zAr E hb;simp only [List.cons.injEq, and_true] at F;obtain rfl := F;exact zIl _ _ _ W q (Nat.le_trans I G)
 clear h D E J H;rw [show zBq _ = .agg _ from rfl] at p m ⊢;generalize zJ3 x = pl at p ⊢;generalize zHG x = pb at m ⊢;generalize zM5 x.2.1 = pr at s ⊢;generalize okB isL zAH x.1 = ok at z m ⊢;have X := zAn w (.cells #[n, o, r, .int .i64 x.2.2.1, .int .i64 x.2.2.2.1, v, y, C, A] 95);have B := zAf w (.cells #[n, o, r, .int .i64 x.2.2.1, .int .i64 x.2.2.2.1, v, y, C, A] 95);go_enter Tryz.func172, Tryz.ntmps172;obtain ⟨f, k, j, l, b, d, i, g, c⟩ := zAh X;go_wp2_with fail
 generalize w.alloc (.cells #[n, o, r, .int .i64 x.2.2.1, .int .i64 x.2.2.2.1, v, y, C, A] 95) = W0 at X B ⊢;refine (z.out _ B).mono ?_;rintro e w1 ⟨rfl, a⟩;replace X := zAb a X;replace B := zAa B a;clear a z f k j l b d i g c;obtain ⟨f, k, j, l, b, d, i, g, c⟩ := zAh X;cases ok
 ·clear X;go_wp2;go_ret
  exact ⟨rfl, B⟩
 go_wp2_with fail
 refine (s.out _ B).mono ?_;rintro e w2 ⟨rfl, a⟩;replace X := zAb a X;replace B := zAa B a;clear a s f k j l b d i g c;obtain ⟨f, k, j, l, b, d, i, g, c⟩ := zAh X;cases pr
 ·clear X;go_wp2;go_ret
  exact ⟨rfl, B⟩
 go_wp2_with fail
 refine (p.out _ B).mono ?_;rintro e w3 ⟨rfl, a⟩;replace X := zAb a X;replace B := zAa B a;clear a p f k j l b d i g c;obtain ⟨f, k, j, l, b, d, i, g, c⟩ := zAh X;cases pl
 ·clear X;go_wp2;go_ret
  exact ⟨rfl, B⟩
 go_wp2_with fail
 refine (m.out _ (by first | rfl | trivial) B).mono ?_;rintro e w4 ⟨rfl, a⟩;replace B := zAa B a;clear a m X f k j l b d i g c;go_wp2;go_ret
 exact ⟨rfl, B⟩
open Go.RowKit Go.Extern.Stop Go.Stop Go.Extern
theorem zJ5 (args : Array Value) (w : World) : (callFunc 273 args).run Tryz.prog w = ((Extern.ReflectliteType.typeOf args).run Tryz.prog w).andThen fun v w' => .ok (.value v) w' := @run_callFunc_extern Tryz.prog 273 _ Extern.ReflectliteType.typeOf Tryz.func273 (by kernel_rfl) (by kernel_rfl) (by kernel_rfl) (by kernel_rfl) args w
theorem zO1 (args : Array Value) (w : World) : (callFunc 257 args).run Tryz.prog w = ((unpF args).run Tryz.prog w).andThen fun v w' => .ok (.value v) w' := @run_callFunc_extern Tryz.prog 257 _ unpF Tryz.func257 (by kernel_rfl) (by kernel_rfl) (by kernel_rfl) (by kernel_rfl) args w
theorem ex_type (args : Array Value) (w : World) : (callFunc 258 args).run Tryz.prog w = ((typeF args).run Tryz.prog w).andThen fun v w' => .ok (.value v) w' := @run_callFunc_extern Tryz.prog 258 _ typeF Tryz.func258 (by kernel_rfl) (by kernel_rfl) (by kernel_rfl) (by kernel_rfl) args w
theorem ex_isNil (args : Array Value) (w : World) : (callFunc 259 args).run Tryz.prog w = ((zLj args).run Tryz.prog w).andThen fun v w' => .ok (.value v) w' := @run_callFunc_extern Tryz.prog 259 _ zLj Tryz.func259 (by kernel_rfl) (by kernel_rfl) (by kernel_rfl) (by kernel_rfl) args w
theorem ex_kind (args : Array Value) (w : World) : (callFunc 301 args).run Tryz.prog w = ((kindF args).run Tryz.prog w).andThen fun v w' => .ok (.value v) w' := @run_callFunc_extern Tryz.prog 301 _ kindF Tryz.func301 (by kernel_rfl) (by kernel_rfl) (by kernel_rfl) (by kernel_rfl) args w
theorem ex_elemT (args : Array Value) (w : World) : (callFunc 318 args).run Tryz.prog w = ((zNr args).run Tryz.prog w).andThen fun v w' => .ok (.value v) w' := @run_callFunc_extern Tryz.prog 318 _ zNr Tryz.func318 (by kernel_rfl) (by kernel_rfl) (by kernel_rfl) (by kernel_rfl) args w
theorem ex_impl (args : Array Value) (w : World) : (callFunc 319 args).run Tryz.prog w = ((implF args).run Tryz.prog w).andThen fun v w' => .ok (.value v) w' := @run_callFunc_extern Tryz.prog 319 _ implF Tryz.func319 (by kernel_rfl) (by kernel_rfl) (by kernel_rfl) (by kernel_rfl) args w
theorem zO2 (args : Array Value) (w : World) : (callFunc 316 args).run Tryz.prog w = ((asgnF args).run Tryz.prog w).andThen fun v w' => .ok (.value v) w' := @run_callFunc_extern Tryz.prog 316 _ asgnF Tryz.func316 (by kernel_rfl) (by kernel_rfl) (by kernel_rfl) (by kernel_rfl) args w
theorem zL9 (args : Array Value) (w : World) : (callFunc 274 args).run Tryz.prog w = ((zLk args).run Tryz.prog w).andThen fun v w' => .ok (.value v) w' := @run_callFunc_extern Tryz.prog 274 _ zLk Tryz.func274 (by kernel_rfl) (by kernel_rfl) (by kernel_rfl) (by kernel_rfl) args w
theorem ex_set (args : Array Value) (w : World) : (callFunc 275 args).run Tryz.prog w = ((setF args).run Tryz.prog w).andThen fun v w' => .ok (.value v) w' := @run_callFunc_extern Tryz.prog 275 _ setF Tryz.func275 (by kernel_rfl) (by kernel_rfl) (by kernel_rfl) (by kernel_rfl) args w
theorem zFz {w w' : World} {D b o : Nat} (hb : Below D w w') (h : w.frozen? ⟨b, o, none⟩ = false) (hl : b < D) : w'.frozen? ⟨b, o, none⟩ = false := by
 have := hb.block b hl;simp only [World.frozen?, this] at h ⊢;exact h
theorem asR_any (c : Int) (ab ao tb tq : Nat) (old : Value) (w : World) (ha : w.cell? ⟨ab, ao, none⟩ = some (.pointer (some ⟨tb, tq, none⟩))) (ht : w.cell? ⟨tb, tq, none⟩ = some old) (hf : w.frozen? ⟨tb, tq, none⟩ = false) :
    Calls Tryz.prog 260 #[.iface 243 (.int .i64 c), .iface 245 (.pointer (some ⟨tb, tq, none⟩)), valP ⟨ab, ao, none⟩, hanV 243] w fun e w' => e = .returned (.bool true) ∧ ∃ W, Below w.heap.size w W ∧ w' = W.setCell ⟨tb, tq, none⟩ (.int .i64 c) := by
 have b := zAf w (zNa ⟨ab, ao, none⟩);have d := zAe b ha (zAk ha);have a := zAa b (zAf (w.alloc (zNa ⟨ab, ao, none⟩)) (.cells #[.int .i64 c] 243));have e1 := zJ5;have e2 := zO2;have e3 := zL9;have e4 := zO1;have e5 := ex_set;have t1 := zG1;have m1 := zLl;have m2 := zLm;have m3 := zLn ⟨ab, ao, none⟩ ⟨tb, tq, none⟩ (w.alloc (zNa ⟨ab, ao, none⟩)) d;have m4 := zNs c (w.alloc (zNa ⟨ab, ao, none⟩));have m5 := as_set ⟨tb, tq, none⟩ ⟨w.heap.size + 1, 0, none⟩ c old ((w.alloc (zNa ⟨ab, ao, none⟩)).alloc (.cells #[.int .i64 c] 243)) (by rw [World.cell?_alloc_at _ _ _ _ (by simp)]; rfl) (zAe a ht (zAk ht)) (zFz a hf (zAk ht));go_enter Tryz.func260, Tryz.ntmps260;go_wp2;refine wp_loop_rounds 1 ?_;rw [rounds_succ];go_wp2;go_ret
 exact ⟨rfl, _, a, rfl⟩
theorem asF_any (n c : Int) (ab ao tb tq : Nat) (old : Value) (w : World) (ha : w.cell? ⟨ab, ao, none⟩ = some (.pointer (some ⟨tb, tq, none⟩))) (ht : w.cell? ⟨tb, tq, none⟩ = some old) (hf : w.frozen? ⟨tb, tq, none⟩ = false) :
    Calls Tryz.prog 260 #[.iface 275 (.agg #[.int .i64 n, .iface 243 (.int .i64 c)]), .iface 245 (.pointer (some ⟨tb, tq, none⟩)), valP ⟨ab, ao, none⟩, hanV 243] w fun e w' => e = .returned (.bool true) ∧ ∃ W, Below w.heap.size w W ∧ w' = W.setCell ⟨tb, tq, none⟩ (.int .i64 c) := by
 have m := zAf w (zNa ⟨ab, ao, none⟩);have g := zAn w (zNa ⟨ab, ao, none⟩);have e1 := zJ5;have e2 := zO2;have e3 := zL9;have e4 := zO1;have e5 := ex_set;have t1 := zG1;have t2 := zLW;have m1 := zLl;have m2 := zLm;have m6 := as_asgnF;have n1 := as_noAsF;have n5 := zIS;have mU := er_mUn;go_enter Tryz.func260, Tryz.ntmps260;go_wp2;refine wp_loop_rounds 2 ?_;rw [rounds_succ];generalize w.alloc (zNa ⟨ab, ao, none⟩) = w0 at g m ⊢;have i : Hid (Below w.heap.size w w0) := m;have f : w.heap.size < w0.heap.size := (ltH g);clear m;go_wp2_with (go_at_call 314; refine (zH4 _ _ _).mono ?_; rintro e d ⟨rfl, j⟩)
 rw [rounds_succ];have k := zAa i.out j;have c0 : d.cell? ⟨w.heap.size, 0, none⟩ = some (.pointer (some ⟨2, 245, none⟩)) := zAe j (by simp [World.cell?, g]) f;have c1 : d.cell? ⟨w.heap.size, 1, none⟩ = some (.pointer (some ⟨ab, ao, none⟩)) := zAe j (by simp [World.cell?, g]) f;have c2 : d.cell? ⟨w.heap.size, 2, none⟩ = some (.int .u64 150) := zAe j (by simp [World.cell?, g]) f;have p := zAe k ha (zAk ha);have b := zAe k ht (zAk ht);have o := zFz k hf (zAk ht);have l := zAf d (.cells #[.int .i64 c] 243);have m3 := zLn ⟨ab, ao, none⟩ ⟨tb, tq, none⟩ d p;have m4 := zNs c d;have m5 := as_set ⟨tb, tq, none⟩ ⟨d.heap.size, 0, none⟩ c old (d.alloc (.cells #[.int .i64 c] 243)) (by rw [World.cell?_alloc_at _ _ _ _ (by simp)]; rfl) (zAe l b (zAk b)) (zFz l o (zAk b));have q : Hid (Below w.heap.size w (d.alloc (.cells #[.int .i64 c] 243))) := zAa k l;clear k l j ha ht hf p b o g i f;go_wp2;go_ret
 exact ⟨rfl, _, q.out, rfl⟩
def ErrV (v : Value) (c : Int) : Prop := v = refV c ∨ ∃ n : Int, v = fltV n c
theorem as_any (v : Value) (c : Int) (hv : ErrV v c) (ab ao tb tq : Nat) (old : Value) (w : World) (ha : w.cell? ⟨ab, ao, none⟩ = some (.pointer (some ⟨tb, tq, none⟩))) (ht : w.cell? ⟨tb, tq, none⟩ = some old) (hf : w.frozen? ⟨tb, tq, none⟩ = false) :
    Calls Tryz.prog 260 #[v, .iface 245 (.pointer (some ⟨tb, tq, none⟩)), valP ⟨ab, ao, none⟩, hanV 243] w fun e w' => e = .returned (.bool true) ∧ ∃ W, Below w.heap.size w W ∧ w' = W.setCell ⟨tb, tq, none⟩ (.int .i64 c) := by
 rcases hv with rfl | ⟨n, rfl⟩
 ·exact asR_any c ab ao tb tq old w ha ht hf
 ·exact asF_any n c ab ao tb tq old w ha ht hf
theorem zKE (v : Value) (c : Int) (hv : ErrV v c) (tb tq : Nat) (old : Value) (w : World) (hh : Hold w) (ht : w.cell? ⟨tb, tq, none⟩ = some old) (hf : w.frozen? ⟨tb, tq, none⟩ = false) :
    Calls Tryz.prog 225 #[v, .iface 245 (.pointer (some ⟨tb, tq, none⟩))] w fun e a => e = .returned (.bool true) ∧ ∃ W, Below w.heap.size w W ∧ a = W.setCell ⟨tb, tq, none⟩ (.int .i64 c) := by
 have f := zAf w (.cells #[.pointer (some ⟨tb, tq, none⟩)] 245);have b := zAa f (zAf (w.alloc (.cells #[.pointer (some ⟨tb, tq, none⟩)] 245)) (zNa ⟨w.heap.size, 0, none⟩));have G2 : ((w.alloc (.cells #[.pointer (some ⟨tb, tq, none⟩)] 245)).alloc (zNa ⟨w.heap.size, 0, none⟩)).cell? ⟨1, 0, none⟩ = some (hanV 213) := hh.goes b;have g : ((w.alloc (.cells #[.pointer (some ⟨tb, tq, none⟩)] 245)).alloc (zNa ⟨w.heap.size, 0, none⟩)).cell? ⟨w.heap.size, 0, none⟩ = some (.pointer (some ⟨tb, tq, none⟩)) := by
  rw [World.cell?_alloc_lt _ _ ⟨w.heap.size, 0, none⟩ (by simp)]; simp
 have k : Hid (Calls Tryz.prog 260 #[v, .iface 245 (.pointer (some ⟨tb, tq, none⟩)), valP ⟨w.heap.size, 0, none⟩, hanV 243] ((w.alloc (.cells #[.pointer (some ⟨tb, tq, none⟩)] 245)).alloc (zNa ⟨w.heap.size, 0, none⟩)) fun e a => e = .returned (.bool true) ∧ ∃ W, Below w.heap.size w W ∧ a = W.setCell ⟨tb, tq, none⟩ (.int .i64 c)) :=
  (as_any v c hv w.heap.size 0 tb tq old _ g (zAe b ht (zAk ht)) (zFz b hf (zAk ht))).mono fun e a ⟨h1, W, d, i⟩ => ⟨h1, W, zAa b d, i⟩
 have m8 := as_isNil ⟨w.heap.size, 0, none⟩ ⟨tb, tq, none⟩ _ g;obtain ⟨T, x, rfl⟩ : ∃ T x, v = .iface T x := by
  rcases hv with rfl | ⟨n, rfl⟩
  ·exact ⟨_, _, rfl⟩
  ·exact ⟨_, _, rfl⟩
 clear hv hh ht hf f b;have e1 := zO1;have e2 := ex_type;have e3 := ex_kind;have e4 := ex_isNil;have e5 := ex_elemT;have e6 := ex_impl;have m1 := as_unpP;have m2 := as_type;have m3 := as_mKind;have m4 := as_kindP;have m5 := as_kindE;have m6 := as_mElem;have m7 := as_elemT;have m9 := as_mImpl;have j := as_impl;go_enter Tryz.func225, Tryz.ntmps225;go_wp2_with (go_at_call 260; refine k.out.mono ?_; rintro e a ⟨rfl, W, d, i⟩)
 go_ret
 exact ⟨rfl, W, d, rfl⟩
theorem zHs (v : Value) (c : Int) (hv : ErrV v c) (w : World) (hh : Hold w) :
    Calls Tryz.prog 183 #[v] w fun e i => e = .returned (.int .i64 c) ∧ Below w.heap.size w i := by
 have b := zAf w (.cells #[.int .i64 0] 243);have f := zKE v c hv w.heap.size 0 (.int .i64 0) (w.alloc (.cells #[.int .i64 0] 243)) (hh.goes b) (by simp) (by simp);clear hh hv;go_enter Tryz.func183, Tryz.ntmps183;go_wp2_with fail
 refine f.mono ?_;rintro e i ⟨rfl, W, d, rfl⟩;have a := zAn w (.cells #[.int .i64 0] 243);have g : W.heap[w.heap.size]? = some (.cells #[.int .i64 0] 243) := (d.block _ (ltH a)).trans a;have k : (W.setCell ⟨w.heap.size, 0, none⟩ (.int .i64 c)).cell? ⟨w.heap.size, 0, none⟩ = some (.int .i64 c) := by
  have := heap_setCell_same W w.heap.size 0 _ _ (.int .i64 c) g;simp [World.cell?, this]
 have j : Hid (Below w.heap.size w (W.setCell ⟨w.heap.size, 0, none⟩ (.int .i64 c))) := zAi (zAa b d) (Nat.le_refl _);clear a g;clear f d b;generalize W.setCell ⟨w.heap.size, 0, none⟩ (.int .i64 c) = V at k j ⊢;go_wp2;go_ret
 exact ⟨rfl, j.out⟩
theorem zHt (w : World) : Calls Tryz.prog 183 #[.nilIface] w fun e w' => e = .returned (.int .i64 0) ∧ Below w.heap.size w w' := by
 have a := zAf w (.cells #[.int .i64 0] 243);go_enter Tryz.func183, Tryz.ntmps183;go_wp2_with go_in
 go_ret
 exact ⟨rfl, a⟩
end Go.Proofs.YtcocbafhcpdheaaGreatDoor
