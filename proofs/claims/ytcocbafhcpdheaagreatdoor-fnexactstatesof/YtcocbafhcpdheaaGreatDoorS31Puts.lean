import Derived.Test.YtcocbafhcpdheaaGreatDoorS00Box
import Derived.Test.YtcocbafhcpdheaaGreatDoorS30FindW
import Derived.Lib.SliceRun
import Derived.Deep.RegionLaw
import Derived.Deep.CutBlock
namespace Go.Proofs.YtcocbafhcpdheaaGreatDoor
set_option maxHeartbeats 4000000
open Go.ChangeShapes Go.WideShapes Go.ChangeAt Go.RowKit
set_option linter.unusedVariables false
open Go.RowKit
section
variable {P : Program} {C : World → Prop} {l : List Oper} {o : Oper}
end
open Go.ChangeShapes Go.WideShapes Go.ChangeAt Go.RowKit Go.Shelf
attribute [local go_sem] Oper.semAt_some
section
variable {W0 wx : World} {b0 o0 o1 : Nat} {u v : Value}
end
theorem implFindW_u (cs : List Value) (c : CacheD) (k : Int) (w : World) (h : cacheR.rd w cs c) :
    Calls Tryz.prog 132 #[aggV cs, .int .i64 k] w fun e g => ∃ us, e = .returned (.tuple #[aggV us, .int .i64 (findI c k).2]) ∧ MadeR wayR w g us (findI c k).1 := by
 obtain ⟨a, d, b, n, rfl, o, m, i, l, f, j⟩ := cache_rd h;refine (implFindW_any a b c d n k w f j (Nat.le_trans o m) (Nat.le_trans i l) (rows_len f)).mono ?_;rintro e g ⟨av, cv, rfl, p⟩;exact ⟨_, rfl, p⟩
theorem implCacheOk_u (cs : List Value) (c : CacheD) (w : World) (h : cacheR.rd w cs c) :
    Calls Tryz.prog 194 #[aggV cs] w fun e w' => e = .returned (.bool (okB isL treeB c)) ∧ Below w.heap.size w w' := by
 obtain ⟨a, d, b, l, rfl, m, k, g, j, f, i⟩ := cache_rd h;exact implCacheOk_any a b c d l w f i (Nat.le_trans m k) (Nat.le_trans g j) (rows_len f)
theorem implFind_u (cs : List Value) (c : CacheD) (k : Int) (w : World) (hok : OkC isL treeB c) (h : cacheR.rd w cs c) :
    Calls Tryz.prog 196 #[aggV cs, .int .i64 k] w fun e w' => e = .returned (.tuple #[.agg #[.int .i64 (findP c k).1, .int .i64 (findP c k).2.1], .bool (findP c k).2.2]) ∧ Below w.heap.size w w' := by
 obtain ⟨a, d, b, g, rfl, l1, l2, m1, m2, f, r2⟩ := cache_rd h;exact implFind_any a b c d g k w hok f
theorem l6Empty_u (w : World) : Calls Tryz.prog 156 #[] w fun e a => ∃ ds, e = .returned (aggV ds) ∧ MadeR wayR w a ds emptyW := by
 refine (l6Empty_any w).mono ?_;rintro e a ⟨av, cv, rfl, b⟩;exact ⟨_, rfl, b⟩
theorem specAt_u (cs : List Value) (c : CacheD) (k : Int) (w : World) (hok : OkC isL treeB c) (h : cacheR.rd w cs c) :
    Calls Tryz.prog 150 #[aggV cs, .int .i64 k] w fun e w' => e = .returned (.int .i64 (idxI (atC c k))) ∧ Below w.heap.size w w' := by
 obtain ⟨a, d, b, g, rfl, l1, l2, m1, m2, f, r2⟩ := cache_rd h;exact specAt_any a b c d g k w hok f
theorem implEmpty_u (us : List Value) (u : WayD) (w : World) (h : wayR.rd w us u) :
    Calls Tryz.prog 104 #[aggV us] w fun e w' => e = .returned (.bool (clearB u)) ∧ Below w.heap.size w w' := by
 obtain ⟨ad, b, rfl, i1, i2, a, c, k3⟩ := way_rd h;rw [← clr_eq];exact implEmpty_any _ _ _ _ _ w (Nat.le_trans a c)
theorem implFull_u (us : List Value) (u : WayD) (w : World) (h : wayR.rd w us u) :
    Calls Tryz.prog 248 #[aggV us] w fun e w' => e = .returned (.bool (fullB isL u)) ∧ Below w.heap.size w w' := by
 obtain ⟨ad, a, rfl, i1, i2, k1, k2, b⟩ := way_rd h;exact implFull_any _ _ _ _ _ w b
theorem implLetGo_u (us : List Value) (u : WayD) (w : World) (h : wayR.rd w us u) :
    Calls Tryz.prog 249 #[aggV us] w fun e w' => e = .returned (.bool (goneB u)) ∧ Below w.heap.size w w' := by
 obtain ⟨f, a, rfl, i1, i2, j, k, q⟩ := way_rd h;have l : u.2.2.length ≤ 9223372036854775807 := Nat.le_trans j k;clear h j k q;have X := heap_at w (.cells #[.int .i64 u.1, .int .i64 u.2.1, .slice f u.2.2.length a] 88);have B := box_below w (.cells #[.int .i64 u.1, .int .i64 u.2.1, .slice f u.2.2.length a] 88);change Calls Tryz.prog 249 #[.agg #[.int .i64 u.1, .int .i64 u.2.1, .slice f u.2.2.length a]] w _
 unfold goneB;generalize u.2.2.length = n at *;have HB : Hid (∀ b : Bool, b = betw u.1 0 15 → betw u.1 0 15 = b) := fun b e => e.symm;cases r : betw u.1 0 15
 all_goals
  go_enter Tryz.func249, Tryz.ntmps249;go_wp2_with fail
  generalize w.alloc (.cells #[.int .i64 u.1, .int .i64 u.2.1, .slice f n a] 88) = W0 at X B ⊢;refine (lineNumberOk_any _ _).mono ?_;rintro e o ⟨rfl, h⟩;rw [h, r];clear h o;obtain ⟨p, s, m⟩ := cells_three X
 ·clear X p s m;go_wp2;go_ret
  exact ⟨rfl, B⟩
 ·by_cases c : u.2.1 = 0
  ·have i : (u.2.1 == 0) = true := by simp [c]
   by_cases d : n = 0
   ·have g : ((n : Int) == 0) = true := by simp [d]
    clear X;go_wp2;go_ret
    exact ⟨by simp [c, d], B⟩
   ·have g : ((n : Int) == 0) = false := by simp [d]
    clear X;go_wp2;go_ret
    exact ⟨by simp [c, d], B⟩
  ·have i : (u.2.1 == 0) = false := by simp [c]
   clear X;go_wp2;go_ret
   exact ⟨by simp [c], B⟩
def placeB (x : CoreD) : Bool := betw x.2.2.1 0 x.2.1.length && decide ((x.2.2.2.2.2.length : Int) = x.2.2.1)
noncomputable def phaseB (x : CoreD) : Bool := if x.2.2.2.1 = 0 then clearB x.2.2.2.2.1 else if x.2.2.2.1 = 1 then decide (atC x.1 x.2.2.2.2.1.1 = none) && (fullB isL x.2.2.2.2.1 || goneB x.2.2.2.2.1) else if x.2.2.2.1 = 2 then clearB x.2.2.2.2.1 && decide (x.2.2.1 < (x.2.1.length : Int)) else false
theorem core_all (x : CoreD) : coreB x = (okB isL treeB x.1 && (progB x.2.1 && (placeB x && phaseB x))) := by
 unfold coreB progB placeB phaseB restC;cases okB isL treeB x.1
 ·rfl
 by_cases d : x.2.1.length ≤ 30
 ·simp only [d, decide_true, Bool.true_and];cases g : betw x.2.2.1 0 x.2.1.length
  ·cases x.2.1.all opOkD <;> rfl
  ·cases h3 : decide ((x.2.2.2.2.2.length : Int) = x.2.2.1)
   ·cases x.2.1.all opOkD <;> rfl
   ·have f : x.2.2.1 ≤ (x.2.1.length : Int) := by simp [betw] at g; omega
    simp only [Bool.true_and];by_cases b : x.2.2.2.1 = 0
    ·rw [if_pos b, if_neg (by omega)];simp [b, betw]
    ·by_cases a : x.2.2.2.1 = 1
     ·rw [if_neg b, if_pos a, if_pos a];simp only [a, betw];rw [Bool.or_comm, Bool.and_comm (decide (atC x.1 x.2.2.2.2.1.1 = none))];simp
     ·by_cases c : x.2.2.2.1 = 2
      ·rw [if_neg b, if_neg a, if_pos c, if_neg a];have e : decide (x.2.2.1 < (x.2.1.length : Int)) = !decide (x.2.2.1 = (x.2.1.length : Int)) := by
        by_cases e : x.2.2.1 = (x.2.1.length : Int)
        ·simp [e]
        ·simp [e]; omega
       rw [e];simp only [c, betw];cases x.2.1.all opOkD <;> cases clearB x.2.2.2.2.1 <;> cases decide (x.2.2.1 = (x.2.1.length : Int)) <;> simp
      ·rw [if_neg b, if_neg a, if_neg c, if_neg a];have e : betw x.2.2.2.1 0 2 = false := by simp [betw]; omega
       rw [e];cases x.2.1.all opOkD <;> rfl
 ·simp only [d, decide_false, Bool.false_and, Bool.and_false]
theorem implHasOp_u (cs : List Value) (x : CoreD) (w : World) (h : coreR.rd w cs x) :
    Calls Tryz.prog 250 #[aggV cs] w fun e w' => e = .returned (.bool (decide (x.2.2.1 < (x.2.1.length : Int)))) ∧ Below w.heap.size w w' := by
 obtain ⟨g, j, v2, b, d, c, i, rfl, v, q, i2, i3, o, p⟩ := core_rd h;obtain ⟨f, a, n, k, l, -⟩ := q;simp only [List.cons.injEq, and_true] at n;obtain rfl := n;have m : x.2.1.length ≤ 9223372036854775807 := Nat.le_trans k l;clear h v o p k l;change Calls Tryz.prog 250 #[.agg #[g, j, .slice f x.2.1.length a, .int .i64 x.2.2.1, .int .i64 x.2.2.2.1, b, d, c, i]] w _
 have X := heap_at w (.cells #[g, j, .slice f x.2.1.length a, .int .i64 x.2.2.1, .int .i64 x.2.2.2.1, b, d, c, i] 95);have B := box_below w (.cells #[g, j, .slice f x.2.1.length a, .int .i64 x.2.2.1, .int .i64 x.2.2.2.1, b, d, c, i] 95);have r : Hid _ := B;clear B;by_cases s : x.2.2.1 < (x.2.1.length : Int)
 all_goals
  go_enter Tryz.func250, Tryz.ntmps250;obtain ⟨y0, y1, y2, y3, y4, y5, y6, y7, y8⟩ := cells_core X;clear X;go_wp2;go_ret
  exact ⟨by simp [s], r.out⟩
theorem implPlace_u (cs : List Value) (x : CoreD) (w : World) (h : coreR.rd w cs x) :
    Calls Tryz.prog 214 #[aggV cs] w fun e w' => e = .returned (.bool (placeB x)) ∧ Below w.heap.size w w' := by
 obtain ⟨k, m, v2, c, g, f, v8, rfl, G, E, i2, i3, C, D⟩ := core_rd h;obtain ⟨j, b, z, p, r, -⟩ := E;simp only [List.cons.injEq, and_true] at z;obtain rfl := z;obtain ⟨i, l, o, s, q, -⟩ := D;simp only [List.cons.injEq, and_true] at o;obtain rfl := o;have v : x.2.1.length ≤ 9223372036854775807 := Nat.le_trans p r;have y : x.2.2.2.2.2.length ≤ 9223372036854775807 := Nat.le_trans s q;clear h G C p r s q;change Calls Tryz.prog 214 #[.agg #[k, m, .slice j x.2.1.length b, .int .i64 x.2.2.1, .int .i64 x.2.2.2.1, c, g, f, .slice i x.2.2.2.2.2.length l]] w _
 have X := heap_at w (.cells #[k, m, .slice j x.2.1.length b, .int .i64 x.2.2.1, .int .i64 x.2.2.2.1, c, g, f, .slice i x.2.2.2.2.2.length l] 95);have B := box_below w (.cells #[k, m, .slice j x.2.1.length b, .int .i64 x.2.2.1, .int .i64 x.2.2.2.1, c, g, f, .slice i x.2.2.2.2.2.length l] 95);unfold placeB;have d : Hid _ := B;clear B;have hc : ((x.2.2.2.2.2.length : Int) == x.2.2.1) = decide ((x.2.2.2.2.2.length : Int) = x.2.2.1) := rfl;cases F : betw x.2.2.1 0 x.2.1.length
 all_goals
  go_enter Tryz.func214, Tryz.ntmps214;obtain ⟨y0, y1, y2, y3, y4, y5, y6, y7, y8⟩ := cells_core X;clear X;go_wp2_with fail
  refine (between_any _ _ _ _).mono ?_;rintro e A ⟨rfl, h⟩;rw [h, F];clear h A
 ·go_wp2;go_ret
  exact ⟨rfl, d.out⟩
 ·by_cases a : (x.2.2.2.2.2.length : Int) = x.2.2.1
  ·have n : ((x.2.2.2.2.2.length : Int) == x.2.2.1) = true := by simp [a]
   go_wp2;go_ret
   exact ⟨by simp [a], d.out⟩
  ·have n : ((x.2.2.2.2.2.length : Int) == x.2.2.1) = false := by simp [a]
   go_wp2;go_ret
   exact ⟨by simp [a], d.out⟩
theorem find_there {c : CacheD} (h : OkC isL treeB c) (k : Int) : (findP c k).2.2 = !decide (atC c k = none) := by
 rw [findP_eq h];cases a : betw k 0 15
 ·rw [at_out h a]; rfl
 ·cases atC c k <;> rfl
theorem implPhase_u (cs : List Value) (x : CoreD) (w : World) (hok : OkC isL treeB x.1) (h : coreR.rd w cs x) :
    Calls Tryz.prog 215 #[aggV cs] w fun e w' => e = .returned (.bool (phaseB x)) ∧ Below w.heap.size w w' := by
 have E : Hid _ := fun (W : World) (hb : Below w.heap.size w W) => implHasOp_u cs x W (rd_next h hb);obtain ⟨q, r, y, F, H, G, C, rfl, T, Y, i2, i3, s, V⟩ := core_rd h;have L : Hid _ := fun (W : World) (hb : Below w.heap.size w W) => implEmpty_u [F, H, G] _ W (rd_next s hb);have I : Hid _ := fun (W : World) (hb : Below w.heap.size w W) => implFull_u [F, H, G] _ W (rd_next s hb);have S : Hid _ := fun (W : World) (hb : Below w.heap.size w W) => implLetGo_u [F, H, G] _ W (rd_next s hb);have A : Hid (∀ W, Below w.heap.size w W → Calls Tryz.prog 196 #[.agg #[q, r], .int .i64 x.2.2.2.2.1.1] W fun e w' => e = .returned (.tuple #[.agg #[.int .i64 (findP x.1 x.2.2.2.2.1.1).1, .int .i64 (findP x.1 x.2.2.2.2.1.1).2.1], .bool (!decide (atC x.1 x.2.2.2.2.1.1 = none))]) ∧ Below W.heap.size W w') := fun W hb => by
  have := implFind_u [q, r] x.1 x.2.2.2.2.1.1 W hok (rd_next T hb);rw [find_there hok] at this;exact this
 obtain ⟨D, a, O, -, -, -, -, -⟩ := way_rd s;simp only [List.cons.injEq, and_true] at O;obtain ⟨rfl, rfl, rfl⟩ := O;clear h T Y s V hok;unfold phaseB;change Calls Tryz.prog 215 #[.agg #[q, r, y, .int .i64 x.2.2.1, .int .i64 x.2.2.2.1, .int .i64 x.2.2.2.2.1.1, .int .i64 x.2.2.2.2.1.2.1, .slice D x.2.2.2.2.1.2.2.length a, C]] w _
 rw [show aggV _ = .agg _ from rfl] at E;generalize decide (x.2.2.1 < (x.2.1.length : Int)) = hp at E ⊢;generalize clearB x.2.2.2.2.1 = cl at L ⊢;generalize fullB isL x.2.2.2.2.1 = fu at I ⊢;generalize goneB x.2.2.2.2.1 = go at S ⊢;generalize N : decide (atC x.1 x.2.2.2.2.1.1 = none) = an at A ⊢;clear N;generalize findP x.1 x.2.2.2.2.1.1 = fp at A;have X := heap_at w (.cells #[q, r, y, .int .i64 x.2.2.1, .int .i64 x.2.2.2.1, .int .i64 x.2.2.2.2.1.1, .int .i64 x.2.2.2.2.1.2.1, .slice D x.2.2.2.2.1.2.2.length a, C] 95);have B := box_below w (.cells #[q, r, y, .int .i64 x.2.2.1, .int .i64 x.2.2.2.1, .int .i64 x.2.2.2.2.1.1, .int .i64 x.2.2.2.2.1.2.1, .slice D x.2.2.2.2.1.2.2.length a, C] 95);generalize x.2.2.2.1 = ph at *;have HI : ∀ b c d : Bool, (if ph = 0 then b else if ph = 1 then c else if ph = 2 then d else false) = (if ph = 0 then b else if ph = 1 then c else if ph = 2 then d else false) := fun _ _ _ => rfl;clear HI;go_enter Tryz.func215, Tryz.ntmps215;obtain ⟨i, p, g, o, j, k, n, l, m⟩ := cells_core X;by_cases J : ph = 0
 ·subst J;rw [if_pos rfl];go_wp2_with fail
  refine (L.out _ B).mono ?_;rintro e z ⟨rfl, f⟩;go_wp2;go_ret
  exact ⟨rfl, below_step B f⟩
 ·have bA : (ph == 0) = false := by simp [J]
  rw [if_neg J];by_cases K : ph = 1
  ·subst K;rw [if_pos rfl];go_wp2_with fail
   generalize w.alloc (.cells #[q, r, y, .int .i64 x.2.2.1, .int .i64 1, .int .i64 x.2.2.2.2.1.1, .int .i64 x.2.2.2.2.1.2.1, .slice D x.2.2.2.2.1.2.2.length a, C] 95) = W0 at X B ⊢;refine (A.out _ B).mono ?_;rintro e z ⟨rfl, f⟩;replace X := heap_on (.cells #[.int .i64 fp.1, .int .i64 fp.2.1] 217) (row_keep f X);replace B := below_step (below_step B f) (box_below z (.cells #[.int .i64 fp.1, .int .i64 fp.2.1] 217));clear f A i p g o j k n l m;obtain ⟨i, p, g, o, j, k, n, l, m⟩ := cells_core X;cases an
   ·clear X;go_wp2;go_ret
    exact ⟨rfl, B⟩
   ·go_wp2_with fail
    generalize z.alloc (.cells #[.int .i64 fp.1, .int .i64 fp.2.1] 217) = W1 at X B ⊢;refine (I.out _ B).mono ?_;rintro e U ⟨rfl, v⟩;replace X := row_keep v X;replace B := below_step B v;clear v I i p g o j k n l m;obtain ⟨i, p, g, o, j, k, n, l, m⟩ := cells_core X;cases fu
    ·go_wp2_with fail
     refine (S.out _ B).mono ?_;rintro e w3 ⟨rfl, R⟩;replace B := below_step B R;clear X R i p g o j k n l m;go_wp2;go_ret
     exact ⟨rfl, B⟩
    ·clear X;go_wp2;go_ret
     exact ⟨rfl, B⟩
  ·have aA : (ph == 1) = false := by simp [K]
   rw [if_neg K];by_cases M : ph = 2
   ·subst M;rw [if_pos rfl];go_wp2_with fail
    refine (L.out _ B).mono ?_;rintro e z ⟨rfl, f⟩;replace X := row_keep f X;replace B := below_step B f;clear f i p g o j k n l m;obtain ⟨i, p, g, o, j, k, n, l, m⟩ := cells_core X;cases cl
    ·clear X;go_wp2;go_ret
     exact ⟨rfl, B⟩
    ·go_wp2_with fail
     refine (E.out _ B).mono ?_;rintro e U ⟨rfl, v⟩;clear X i p g o j k n l m;go_wp2;go_ret
     exact ⟨rfl, below_step B v⟩
   ·have Z : (ph == 2) = false := by simp [M]
    rw [if_neg M];clear X;go_wp2;go_ret
    exact ⟨rfl, B⟩
theorem implCoreOk_u (cs : List Value) (x : CoreD) (w : World) (h : coreR.rd w cs x) :
    Calls Tryz.prog 172 #[aggV cs] w fun e w' => e = .returned (.bool (coreB x)) ∧ Below w.heap.size w w' := by
 rw [core_all];have o : Hid _ := fun (W : World) (hb : Below w.heap.size w W) => implPlace_u cs x W (rd_next h hb);have m : Hid (∀ W, okB isL treeB x.1 = true → Below w.heap.size w W → Calls Tryz.prog 215 #[aggV cs] W fun e w' => e = .returned (.bool (phaseB x)) ∧ Below W.heap.size W w') := fun W hk hb => implPhase_u cs x W (okB_iff.1 hk) (rd_next h hb);obtain ⟨p, r, n, s, y, v, A, rfl, E, D, i2, i3, G, H⟩ := core_rd h;have z : Hid _ := fun (W : World) (hb : Below w.heap.size w W) => implCacheOk_u [p, r] _ W (rd_next E hb);have C : Hid (∀ W, Below w.heap.size w W → Calls Tryz.prog 213 #[n] W fun e w' => e = .returned (.bool (progB x.2.1)) ∧ Below W.heap.size W w') := fun W hb => by
  obtain ⟨a1, c1, F, I, J, q⟩ := rd_next D hb;simp only [List.cons.injEq, and_true] at F;obtain rfl := F;exact implOpsOk_any _ _ _ W q (Nat.le_trans I J)
 clear h E D G H;rw [show aggV _ = .agg _ from rfl] at o m ⊢;generalize placeB x = pl at o ⊢;generalize phaseB x = pb at m ⊢;generalize progB x.2.1 = pr at C ⊢;generalize okB isL treeB x.1 = ok at z m ⊢;have X := heap_at w (.cells #[p, r, n, .int .i64 x.2.2.1, .int .i64 x.2.2.2.1, s, y, v, A] 95);have B := box_below w (.cells #[p, r, n, .int .i64 x.2.2.1, .int .i64 x.2.2.2.1, s, y, v, A] 95);go_enter Tryz.func172, Tryz.ntmps172;obtain ⟨c, l, b, k, d, f, j, g, i⟩ := cells_core X;go_wp2_with fail
 generalize w.alloc (.cells #[p, r, n, .int .i64 x.2.2.1, .int .i64 x.2.2.2.1, s, y, v, A] 95) = W0 at X B ⊢;refine (z.out _ B).mono ?_;rintro e w1 ⟨rfl, a⟩;replace X := row_keep a X;replace B := below_step B a;clear a z c l b k d f j g i;obtain ⟨c, l, b, k, d, f, j, g, i⟩ := cells_core X;cases ok
 ·clear X;go_wp2;go_ret
  exact ⟨rfl, B⟩
 go_wp2_with fail
 refine (C.out _ B).mono ?_;rintro e w2 ⟨rfl, a⟩;replace X := row_keep a X;replace B := below_step B a;clear a C c l b k d f j g i;obtain ⟨c, l, b, k, d, f, j, g, i⟩ := cells_core X;cases pr
 ·clear X;go_wp2;go_ret
  exact ⟨rfl, B⟩
 go_wp2_with fail
 refine (o.out _ B).mono ?_;rintro e w3 ⟨rfl, a⟩;replace X := row_keep a X;replace B := below_step B a;clear a o c l b k d f j g i;obtain ⟨c, l, b, k, d, f, j, g, i⟩ := cells_core X;cases pl
 ·clear X;go_wp2;go_ret
  exact ⟨rfl, B⟩
 go_wp2_with fail
 refine (m.out _ (by first | rfl | trivial) B).mono ?_;rintro e w4 ⟨rfl, a⟩;replace B := below_step B a;clear a m X c l b k d f j g i;go_wp2;go_ret
 exact ⟨rfl, B⟩
open Go.RowKit Go.Extern.Stop Go.Stop Go.Extern
theorem ex_typeOf (args : Array Value) (w : World) : (callFunc 273 args).run Tryz.prog w = ((Extern.ReflectliteType.typeOf args).run Tryz.prog w).andThen fun v w' => .ok (.value v) w' := @run_callFunc_extern Tryz.prog 273 _ Extern.ReflectliteType.typeOf Tryz.func273 (by kernel_rfl) (by kernel_rfl) (by kernel_rfl) (by kernel_rfl) args w
theorem ex_unp (args : Array Value) (w : World) : (callFunc 257 args).run Tryz.prog w = ((unpF args).run Tryz.prog w).andThen fun v w' => .ok (.value v) w' := @run_callFunc_extern Tryz.prog 257 _ unpF Tryz.func257 (by kernel_rfl) (by kernel_rfl) (by kernel_rfl) (by kernel_rfl) args w
theorem ex_type (args : Array Value) (w : World) : (callFunc 258 args).run Tryz.prog w = ((typeF args).run Tryz.prog w).andThen fun v w' => .ok (.value v) w' := @run_callFunc_extern Tryz.prog 258 _ typeF Tryz.func258 (by kernel_rfl) (by kernel_rfl) (by kernel_rfl) (by kernel_rfl) args w
theorem ex_isNil (args : Array Value) (w : World) : (callFunc 259 args).run Tryz.prog w = ((isNilF args).run Tryz.prog w).andThen fun v w' => .ok (.value v) w' := @run_callFunc_extern Tryz.prog 259 _ isNilF Tryz.func259 (by kernel_rfl) (by kernel_rfl) (by kernel_rfl) (by kernel_rfl) args w
theorem ex_kind (args : Array Value) (w : World) : (callFunc 301 args).run Tryz.prog w = ((kindF args).run Tryz.prog w).andThen fun v w' => .ok (.value v) w' := @run_callFunc_extern Tryz.prog 301 _ kindF Tryz.func301 (by kernel_rfl) (by kernel_rfl) (by kernel_rfl) (by kernel_rfl) args w
theorem ex_elemT (args : Array Value) (w : World) : (callFunc 318 args).run Tryz.prog w = ((elemTF args).run Tryz.prog w).andThen fun v w' => .ok (.value v) w' := @run_callFunc_extern Tryz.prog 318 _ elemTF Tryz.func318 (by kernel_rfl) (by kernel_rfl) (by kernel_rfl) (by kernel_rfl) args w
theorem ex_impl (args : Array Value) (w : World) : (callFunc 319 args).run Tryz.prog w = ((implF args).run Tryz.prog w).andThen fun v w' => .ok (.value v) w' := @run_callFunc_extern Tryz.prog 319 _ implF Tryz.func319 (by kernel_rfl) (by kernel_rfl) (by kernel_rfl) (by kernel_rfl) args w
theorem ex_asgn (args : Array Value) (w : World) : (callFunc 316 args).run Tryz.prog w = ((asgnF args).run Tryz.prog w).andThen fun v w' => .ok (.value v) w' := @run_callFunc_extern Tryz.prog 316 _ asgnF Tryz.func316 (by kernel_rfl) (by kernel_rfl) (by kernel_rfl) (by kernel_rfl) args w
theorem ex_elemV (args : Array Value) (w : World) : (callFunc 274 args).run Tryz.prog w = ((elemVF args).run Tryz.prog w).andThen fun v w' => .ok (.value v) w' := @run_callFunc_extern Tryz.prog 274 _ elemVF Tryz.func274 (by kernel_rfl) (by kernel_rfl) (by kernel_rfl) (by kernel_rfl) args w
theorem ex_set (args : Array Value) (w : World) : (callFunc 275 args).run Tryz.prog w = ((setF args).run Tryz.prog w).andThen fun v w' => .ok (.value v) w' := @run_callFunc_extern Tryz.prog 275 _ setF Tryz.func275 (by kernel_rfl) (by kernel_rfl) (by kernel_rfl) (by kernel_rfl) args w
theorem froz_keep {w w' : World} {D b o : Nat} (hb : Below D w w') (h : w.frozen? ⟨b, o, none⟩ = false) (hl : b < D) : w'.frozen? ⟨b, o, none⟩ = false := by
 have := hb.block b hl;simp only [World.frozen?, this] at h ⊢;exact h
theorem asR_any (c : Int) (ab ao tb tq : Nat) (old : Value) (w : World) (ha : w.cell? ⟨ab, ao, none⟩ = some (.pointer (some ⟨tb, tq, none⟩))) (ht : w.cell? ⟨tb, tq, none⟩ = some old) (hf : w.frozen? ⟨tb, tq, none⟩ = false) :
    Calls Tryz.prog 260 #[.iface 243 (.int .i64 c), .iface 245 (.pointer (some ⟨tb, tq, none⟩)), valP ⟨ab, ao, none⟩, hanV 243] w fun e w' => e = .returned (.bool true) ∧ ∃ W, Below w.heap.size w W ∧ w' = W.setCell ⟨tb, tq, none⟩ (.int .i64 c) := by
 have b := box_below w (valO ⟨ab, ao, none⟩);have d := cell_keep b ha (cell_lt ha);have a := below_step b (box_below (w.alloc (valO ⟨ab, ao, none⟩)) (.cells #[.int .i64 c] 243));have e1 := ex_typeOf;have e2 := ex_asgn;have e3 := ex_elemV;have e4 := ex_unp;have e5 := ex_set;have t1 := er_typeOf;have m1 := as_mAsgn;have m2 := as_asgnR;have m3 := as_elemV ⟨ab, ao, none⟩ ⟨tb, tq, none⟩ (w.alloc (valO ⟨ab, ao, none⟩)) d;have m4 := as_unpE c (w.alloc (valO ⟨ab, ao, none⟩));have m5 := as_set ⟨tb, tq, none⟩ ⟨w.heap.size + 1, 0, none⟩ c old ((w.alloc (valO ⟨ab, ao, none⟩)).alloc (.cells #[.int .i64 c] 243)) (by rw [World.cell?_alloc_at _ _ _ _ (by simp)]; rfl) (cell_keep a ht (cell_lt ht)) (froz_keep a hf (cell_lt ht));go_enter Tryz.func260, Tryz.ntmps260;go_wp2;refine wp_loop_rounds 1 ?_;rw [rounds_succ];go_wp2;go_ret
 exact ⟨rfl, _, a, rfl⟩
theorem asF_any (n c : Int) (ab ao tb tq : Nat) (old : Value) (w : World) (ha : w.cell? ⟨ab, ao, none⟩ = some (.pointer (some ⟨tb, tq, none⟩))) (ht : w.cell? ⟨tb, tq, none⟩ = some old) (hf : w.frozen? ⟨tb, tq, none⟩ = false) :
    Calls Tryz.prog 260 #[.iface 275 (.agg #[.int .i64 n, .iface 243 (.int .i64 c)]), .iface 245 (.pointer (some ⟨tb, tq, none⟩)), valP ⟨ab, ao, none⟩, hanV 243] w fun e w' => e = .returned (.bool true) ∧ ∃ W, Below w.heap.size w W ∧ w' = W.setCell ⟨tb, tq, none⟩ (.int .i64 c) := by
 have m := box_below w (valO ⟨ab, ao, none⟩);have g := heap_at w (valO ⟨ab, ao, none⟩);have e1 := ex_typeOf;have e2 := ex_asgn;have e3 := ex_elemV;have e4 := ex_unp;have e5 := ex_set;have t1 := er_typeOf;have t2 := er_typeOfF;have m1 := as_mAsgn;have m2 := as_asgnR;have m6 := as_asgnF;have n1 := as_noAsF;have n5 := er_hasUnF;have mU := er_mUn;go_enter Tryz.func260, Tryz.ntmps260;go_wp2;refine wp_loop_rounds 2 ?_;rw [rounds_succ];generalize w.alloc (valO ⟨ab, ao, none⟩) = w0 at g m ⊢;have i : Hid (Below w.heap.size w w0) := m;have d : w.heap.size < w0.heap.size := (ltH g);clear m;go_wp2_with (go_at_call 314; refine (unwrap_any _ _ _).mono ?_; rintro e b ⟨rfl, j⟩)
 rw [rounds_succ];have k := below_step i.out j;have c0 : b.cell? ⟨w.heap.size, 0, none⟩ = some (.pointer (some ⟨2, 245, none⟩)) := cell_keep j (by simp [World.cell?, g]) d;have c1 : b.cell? ⟨w.heap.size, 1, none⟩ = some (.pointer (some ⟨ab, ao, none⟩)) := cell_keep j (by simp [World.cell?, g]) d;have c2 : b.cell? ⟨w.heap.size, 2, none⟩ = some (.int .u64 150) := cell_keep j (by simp [World.cell?, g]) d;have p := cell_keep k ha (cell_lt ha);have f := cell_keep k ht (cell_lt ht);have o := froz_keep k hf (cell_lt ht);have l := box_below b (.cells #[.int .i64 c] 243);have m3 := as_elemV ⟨ab, ao, none⟩ ⟨tb, tq, none⟩ b p;have m4 := as_unpE c b;have m5 := as_set ⟨tb, tq, none⟩ ⟨b.heap.size, 0, none⟩ c old (b.alloc (.cells #[.int .i64 c] 243)) (by rw [World.cell?_alloc_at _ _ _ _ (by simp)]; rfl) (cell_keep l f (cell_lt f)) (froz_keep l o (cell_lt f));have q : Hid (Below w.heap.size w (b.alloc (.cells #[.int .i64 c] 243))) := below_step k l;clear k l j ha ht hf p f o g i d;go_wp2;go_ret
 exact ⟨rfl, _, q.out, rfl⟩
def ErrV (v : Value) (c : Int) : Prop := v = refV c ∨ ∃ n : Int, v = fltV n c
theorem as_any (v : Value) (c : Int) (a : ErrV v c) (ab ao tb tq : Nat) (old : Value) (w : World) (ha : w.cell? ⟨ab, ao, none⟩ = some (.pointer (some ⟨tb, tq, none⟩))) (ht : w.cell? ⟨tb, tq, none⟩ = some old) (hf : w.frozen? ⟨tb, tq, none⟩ = false) :
    Calls Tryz.prog 260 #[v, .iface 245 (.pointer (some ⟨tb, tq, none⟩)), valP ⟨ab, ao, none⟩, hanV 243] w fun e w' => e = .returned (.bool true) ∧ ∃ W, Below w.heap.size w W ∧ w' = W.setCell ⟨tb, tq, none⟩ (.int .i64 c) := by
 rcases a with rfl | ⟨n, rfl⟩
 ·exact asR_any c ab ao tb tq old w ha ht hf
 ·exact asF_any n c ab ao tb tq old w ha ht hf
theorem asWhole_any (v : Value) (c : Int) (f : ErrV v c) (tb tq : Nat) (old : Value) (w : World) (hh : Hold w) (ht : w.cell? ⟨tb, tq, none⟩ = some old) (hf : w.frozen? ⟨tb, tq, none⟩ = false) :
    Calls Tryz.prog 225 #[v, .iface 245 (.pointer (some ⟨tb, tq, none⟩))] w fun e a => e = .returned (.bool true) ∧ ∃ W, Below w.heap.size w W ∧ a = W.setCell ⟨tb, tq, none⟩ (.int .i64 c) := by
 have i := box_below w (.cells #[.pointer (some ⟨tb, tq, none⟩)] 245);have b := below_step i (box_below (w.alloc (.cells #[.pointer (some ⟨tb, tq, none⟩)] 245)) (valO ⟨w.heap.size, 0, none⟩));have G2 : ((w.alloc (.cells #[.pointer (some ⟨tb, tq, none⟩)] 245)).alloc (valO ⟨w.heap.size, 0, none⟩)).cell? ⟨1, 0, none⟩ = some (hanV 213) := hh.goes b;have g : ((w.alloc (.cells #[.pointer (some ⟨tb, tq, none⟩)] 245)).alloc (valO ⟨w.heap.size, 0, none⟩)).cell? ⟨w.heap.size, 0, none⟩ = some (.pointer (some ⟨tb, tq, none⟩)) := by
  rw [World.cell?_alloc_lt _ _ ⟨w.heap.size, 0, none⟩ (by simp)]; simp
 have l : Hid (Calls Tryz.prog 260 #[v, .iface 245 (.pointer (some ⟨tb, tq, none⟩)), valP ⟨w.heap.size, 0, none⟩, hanV 243] ((w.alloc (.cells #[.pointer (some ⟨tb, tq, none⟩)] 245)).alloc (valO ⟨w.heap.size, 0, none⟩)) fun e a => e = .returned (.bool true) ∧ ∃ W, Below w.heap.size w W ∧ a = W.setCell ⟨tb, tq, none⟩ (.int .i64 c)) :=
  (as_any v c f w.heap.size 0 tb tq old _ g (cell_keep b ht (cell_lt ht)) (froz_keep b hf (cell_lt ht))).mono fun e a ⟨h1, W, d, j⟩ => ⟨h1, W, below_step b d, j⟩
 have m8 := as_isNil ⟨w.heap.size, 0, none⟩ ⟨tb, tq, none⟩ _ g;obtain ⟨T, x, rfl⟩ : ∃ T x, v = .iface T x := by
  rcases f with rfl | ⟨n, rfl⟩
  ·exact ⟨_, _, rfl⟩
  ·exact ⟨_, _, rfl⟩
 clear f hh ht hf i b;have e1 := ex_unp;have e2 := ex_type;have e3 := ex_kind;have e4 := ex_isNil;have e5 := ex_elemT;have e6 := ex_impl;have m1 := as_unpP;have m2 := as_type;have m3 := as_mKind;have m4 := as_kindP;have m5 := as_kindE;have m6 := as_mElem;have m7 := as_elemT;have m9 := as_mImpl;have k := as_impl;go_enter Tryz.func225, Tryz.ntmps225;go_wp2_with (go_at_call 260; refine l.out.mono ?_; rintro e a ⟨rfl, W, d, j⟩)
 go_ret
 exact ⟨rfl, W, d, rfl⟩
theorem implCodeOf_any (v : Value) (c : Int) (hv : ErrV v c) (w : World) (hh : Hold w) :
    Calls Tryz.prog 183 #[v] w fun e g => e = .returned (.int .i64 c) ∧ Below w.heap.size w g := by
 have a := box_below w (.cells #[.int .i64 0] 243);have f := asWhole_any v c hv w.heap.size 0 (.int .i64 0) (w.alloc (.cells #[.int .i64 0] 243)) (hh.goes a) (by simp) (by simp);clear hh hv;go_enter Tryz.func183, Tryz.ntmps183;go_wp2_with fail
 refine f.mono ?_;rintro e g ⟨rfl, W, b, rfl⟩;have d := heap_at w (.cells #[.int .i64 0] 243);have j : W.heap[w.heap.size]? = some (.cells #[.int .i64 0] 243) := (b.block _ (ltH d)).trans d;have k : (W.setCell ⟨w.heap.size, 0, none⟩ (.int .i64 c)).cell? ⟨w.heap.size, 0, none⟩ = some (.int .i64 c) := by
  have := heap_setCell_same W w.heap.size 0 _ _ (.int .i64 c) j;simp [World.cell?, this]
 have i : Hid (Below w.heap.size w (W.setCell ⟨w.heap.size, 0, none⟩ (.int .i64 c))) := below_setC (below_step a b) (Nat.le_refl _);clear d j;clear f b a;generalize W.setCell ⟨w.heap.size, 0, none⟩ (.int .i64 c) = V at k i ⊢;go_wp2;go_ret
 exact ⟨rfl, i.out⟩
theorem implCodeOf_nil (w : World) : Calls Tryz.prog 183 #[.nilIface] w fun e w' => e = .returned (.int .i64 0) ∧ Below w.heap.size w w' := by
 have a := box_below w (.cells #[.int .i64 0] 243);go_enter Tryz.func183, Tryz.ntmps183;go_wp2_with go_in
 go_ret
 exact ⟨rfl, a⟩
end Go.Proofs.YtcocbafhcpdheaaGreatDoor
