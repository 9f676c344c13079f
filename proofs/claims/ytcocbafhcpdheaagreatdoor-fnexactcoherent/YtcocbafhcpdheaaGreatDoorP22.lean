import Derived.Test.YtcocbafhcpdheaaGreatDoorP00Box
import Derived.Test.YtcocbafhcpdheaaGreatDoorP21
import Derived.Lib.SliceRun
import Derived.Deep.RegionLaw
namespace Go.Proofs.YtcocbafhcpdheaaGreatDoor
set_option maxHeartbeats 4000000
open Go.ChangeShapes Go.WideShapes Go.ChangeAt Go.RowKit
set_option linter.unusedVariables false
open Go.RowKit
section
variable {P : Program} {C : World → Prop} {l : List Oper} {o : Oper}
end
open Go.ChangeShapes Go.WideShapes Go.ChangeAt Go.RowKit Go.Shelf
attribute [local go_sem] Oper.semAt_some
section
variable {W0 wx : World} {b0 o0 o1 : Nat} {u v : Value}
end
theorem implFindW_u (cs : List Value) (c : CacheD) (k : Int) (w : World) (h : cacheR.rd w cs c) :
    Calls Tryz.prog 132 #[aggV cs, .int .i64 k] w fun e w' => ∃ us, e = .returned (.tuple #[aggV us, .int .i64 (findI c k).2]) ∧ MadeR wayR w w' us (findI c k).1 := by
 obtain ⟨a, cap, b, cp, rfl, l1, l2, m1, m2, r1, r2⟩ := cache_rd h;refine (implFindW_any a b c cap cp k w r1 r2 (Nat.le_trans l1 l2) (Nat.le_trans m1 m2) (rows_len r1)).mono ?_;rintro e w' ⟨av, cv, rfl, mm⟩;exact ⟨_, rfl, mm⟩
theorem implCacheOk_u (cs : List Value) (c : CacheD) (w : World) (h : cacheR.rd w cs c) :
    Calls Tryz.prog 194 #[aggV cs] w fun e w' => e = .returned (.bool (okB isL treeB c)) ∧ Below w.heap.size w w' := by
 obtain ⟨a, cap, b, cp, rfl, l1, l2, m1, m2, r1, r2⟩ := cache_rd h;exact implCacheOk_any a b c cap cp w r1 r2 (Nat.le_trans l1 l2) (Nat.le_trans m1 m2) (rows_len r1)
theorem implFind_u (cs : List Value) (c : CacheD) (k : Int) (w : World) (hok : OkC isL treeB c) (h : cacheR.rd w cs c) :
    Calls Tryz.prog 196 #[aggV cs, .int .i64 k] w fun e w' => e = .returned (.tuple #[.agg #[.int .i64 (findP c k).1, .int .i64 (findP c k).2.1], .bool (findP c k).2.2]) ∧ Below w.heap.size w w' := by
 obtain ⟨a, cap, b, cp, rfl, l1, l2, m1, m2, r1, r2⟩ := cache_rd h;exact implFind_any a b c cap cp k w hok r1
theorem l6Empty_u (w : World) : Calls Tryz.prog 156 #[] w fun e w' => ∃ ds, e = .returned (aggV ds) ∧ MadeR wayR w w' ds emptyW := by
 refine (l6Empty_any w).mono ?_;rintro e w' ⟨av, cv, rfl, mm⟩;exact ⟨_, rfl, mm⟩
theorem specAt_u (cs : List Value) (c : CacheD) (k : Int) (w : World) (hok : OkC isL treeB c) (h : cacheR.rd w cs c) :
    Calls Tryz.prog 150 #[aggV cs, .int .i64 k] w fun e w' => e = .returned (.int .i64 (idxI (atC c k))) ∧ Below w.heap.size w w' := by
 obtain ⟨a, cap, b, cp, rfl, l1, l2, m1, m2, r1, r2⟩ := cache_rd h;exact specAt_any a b c cap cp k w hok r1
theorem implEmpty_u (us : List Value) (u : WayD) (w : World) (h : wayR.rd w us u) :
    Calls Tryz.prog 104 #[aggV us] w fun e w' => e = .returned (.bool (clearB u)) ∧ Below w.heap.size w w' := by
 obtain ⟨ad, cpw, rfl, i1, i2, k1, k2, k3⟩ := way_rd h;rw [← clr_eq];exact implEmpty_any _ _ _ _ _ w (Nat.le_trans k1 k2)
theorem implFull_u (us : List Value) (u : WayD) (w : World) (h : wayR.rd w us u) :
    Calls Tryz.prog 248 #[aggV us] w fun e w' => e = .returned (.bool (fullB isL u)) ∧ Below w.heap.size w w' := by
 obtain ⟨ad, cpw, rfl, i1, i2, k1, k2, k3⟩ := way_rd h;exact implFull_any _ _ _ _ _ w k3
theorem implLetGo_u (us : List Value) (u : WayD) (w : World) (h : wayR.rd w us u) :
    Calls Tryz.prog 249 #[aggV us] w fun e w' => e = .returned (.bool (goneB u)) ∧ Below w.heap.size w w' := by
 obtain ⟨ad, cpw, rfl, i1, i2, k1, k2, k3⟩ := way_rd h;have hu63 : u.2.2.length ≤ 9223372036854775807 := Nat.le_trans k1 k2;clear h k1 k2 k3;have X := heap_at w (.cells #[.int .i64 u.1, .int .i64 u.2.1, .slice ad u.2.2.length cpw] 88);have B := box_below w (.cells #[.int .i64 u.1, .int .i64 u.2.1, .slice ad u.2.2.length cpw] 88);change Calls Tryz.prog 249 #[.agg #[.int .i64 u.1, .int .i64 u.2.1, .slice ad u.2.2.length cpw]] w _
 unfold goneB;generalize u.2.2.length = n at *;have HB : Hid (∀ b : Bool, b = betw u.1 0 15 → betw u.1 0 15 = b) := fun b e => e.symm;cases h1 : betw u.1 0 15
 all_goals
  go_enter Tryz.func249, Tryz.ntmps249;go_wp2_with fail
  generalize w.alloc (.cells #[.int .i64 u.1, .int .i64 u.2.1, .slice ad n cpw] 88) = W0 at X B ⊢;refine (lineNumberOk_any _ _).mono ?_;rintro e w1 ⟨rfl, h⟩;rw [h, h1];clear h w1;obtain ⟨y0, y1, y2⟩ := cells_three X
 ·clear X y0 y1 y2;go_wp2;go_ret
  exact ⟨rfl, B⟩
 ·by_cases h2 : u.2.1 = 0
  ·have h2' : (u.2.1 == 0) = true := by simp [h2]
   by_cases h3 : n = 0
   ·have h3' : ((n : Int) == 0) = true := by simp [h3]
    clear X;go_wp2;go_ret
    exact ⟨by simp [h2, h3], B⟩
   ·have h3' : ((n : Int) == 0) = false := by simp [h3]
    clear X;go_wp2;go_ret
    exact ⟨by simp [h2, h3], B⟩
  ·have h2' : (u.2.1 == 0) = false := by simp [h2]
   clear X;go_wp2;go_ret
   exact ⟨by simp [h2], B⟩
def placeB (x : CoreD) : Bool := betw x.2.2.1 0 x.2.1.length && decide ((x.2.2.2.2.2.length : Int) = x.2.2.1)
noncomputable def phaseB (x : CoreD) : Bool := if x.2.2.2.1 = 0 then clearB x.2.2.2.2.1 else if x.2.2.2.1 = 1 then decide (atC x.1 x.2.2.2.2.1.1 = none) && (fullB isL x.2.2.2.2.1 || goneB x.2.2.2.2.1) else if x.2.2.2.1 = 2 then clearB x.2.2.2.2.1 && decide (x.2.2.1 < (x.2.1.length : Int)) else false
theorem core_all (x : CoreD) : coreB x = (okB isL treeB x.1 && (progB x.2.1 && (placeB x && phaseB x))) := by
 unfold coreB progB placeB phaseB restC;cases okB isL treeB x.1
 ·rfl
 by_cases h1 : x.2.1.length ≤ 30
 ·simp only [h1, decide_true, Bool.true_and];cases h2 : betw x.2.2.1 0 x.2.1.length
  ·cases x.2.1.all opOkD <;> rfl
  ·cases h3 : decide ((x.2.2.2.2.2.length : Int) = x.2.2.1)
   ·cases x.2.1.all opOkD <;> rfl
   ·have hle : x.2.2.1 ≤ (x.2.1.length : Int) := by simp [betw] at h2; omega
    simp only [Bool.true_and];by_cases p0 : x.2.2.2.1 = 0
    ·rw [if_pos p0, if_neg (by omega)];simp [p0, betw]
    ·by_cases p1 : x.2.2.2.1 = 1
     ·rw [if_neg p0, if_pos p1, if_pos p1];simp only [p1, betw];rw [Bool.or_comm, Bool.and_comm (decide (atC x.1 x.2.2.2.2.1.1 = none))];simp
     ·by_cases p2 : x.2.2.2.1 = 2
      ·rw [if_neg p0, if_neg p1, if_pos p2, if_neg p1];have e : decide (x.2.2.1 < (x.2.1.length : Int)) = !decide (x.2.2.1 = (x.2.1.length : Int)) := by
        by_cases e : x.2.2.1 = (x.2.1.length : Int)
        ·simp [e]
        ·simp [e]; omega
       rw [e];simp only [p2, betw];cases x.2.1.all opOkD <;> cases clearB x.2.2.2.2.1 <;> cases decide (x.2.2.1 = (x.2.1.length : Int)) <;> simp
      ·rw [if_neg p0, if_neg p1, if_neg p2, if_neg p1];have e : betw x.2.2.2.1 0 2 = false := by simp [betw]; omega
       rw [e];cases x.2.1.all opOkD <;> rfl
 ·simp only [h1, decide_false, Bool.false_and, Bool.and_false]
theorem implHasOp_u (cs : List Value) (x : CoreD) (w : World) (h : coreR.rd w cs x) :
    Calls Tryz.prog 250 #[aggV cs] w fun e w' => e = .returned (.bool (decide (x.2.2.1 < (x.2.1.length : Int)))) ∧ Below w.heap.size w w' := by
 obtain ⟨v0, v1, v2, v5, v6, v7, v8, rfl, r0, r1, i2, i3, r4, r5⟩ := core_rd h;obtain ⟨a1, c1, e1, k1, k2, -⟩ := r1;simp only [List.cons.injEq, and_true] at e1;obtain rfl := e1;have hp63 : x.2.1.length ≤ 9223372036854775807 := Nat.le_trans k1 k2;clear h r0 r4 r5 k1 k2;change Calls Tryz.prog 250 #[.agg #[v0, v1, .slice a1 x.2.1.length c1, .int .i64 x.2.2.1, .int .i64 x.2.2.2.1, v5, v6, v7, v8]] w _
 have X := heap_at w (.cells #[v0, v1, .slice a1 x.2.1.length c1, .int .i64 x.2.2.1, .int .i64 x.2.2.2.1, v5, v6, v7, v8] 95);have B := box_below w (.cells #[v0, v1, .slice a1 x.2.1.length c1, .int .i64 x.2.2.1, .int .i64 x.2.2.2.1, v5, v6, v7, v8] 95);have HB : Hid _ := B;clear B;by_cases hq : x.2.2.1 < (x.2.1.length : Int)
 all_goals
  go_enter Tryz.func250, Tryz.ntmps250;obtain ⟨y0, y1, y2, y3, y4, y5, y6, y7, y8⟩ := cells_core X;clear X;go_wp2;go_ret
  exact ⟨by simp [hq], HB.out⟩
theorem implPlace_u (cs : List Value) (x : CoreD) (w : World) (h : coreR.rd w cs x) :
    Calls Tryz.prog 214 #[aggV cs] w fun e w' => e = .returned (.bool (placeB x)) ∧ Below w.heap.size w w' := by
 obtain ⟨v0, v1, v2, v5, v6, v7, v8, rfl, r0, r1, i2, i3, r4, r5⟩ := core_rd h;obtain ⟨a1, c1, e1, k1, k2, -⟩ := r1;simp only [List.cons.injEq, and_true] at e1;obtain rfl := e1;obtain ⟨a5, c5, e5, m1, m2, -⟩ := r5;simp only [List.cons.injEq, and_true] at e5;obtain rfl := e5;have hp63 : x.2.1.length ≤ 9223372036854775807 := Nat.le_trans k1 k2;have ht63 : x.2.2.2.2.2.length ≤ 9223372036854775807 := Nat.le_trans m1 m2;clear h r0 r4 k1 k2 m1 m2;change Calls Tryz.prog 214 #[.agg #[v0, v1, .slice a1 x.2.1.length c1, .int .i64 x.2.2.1, .int .i64 x.2.2.2.1, v5, v6, v7, .slice a5 x.2.2.2.2.2.length c5]] w _
 have X := heap_at w (.cells #[v0, v1, .slice a1 x.2.1.length c1, .int .i64 x.2.2.1, .int .i64 x.2.2.2.1, v5, v6, v7, .slice a5 x.2.2.2.2.2.length c5] 95);have B := box_below w (.cells #[v0, v1, .slice a1 x.2.1.length c1, .int .i64 x.2.2.1, .int .i64 x.2.2.2.1, v5, v6, v7, .slice a5 x.2.2.2.2.2.length c5] 95);unfold placeB;have HB : Hid _ := B;clear B;have hc : ((x.2.2.2.2.2.length : Int) == x.2.2.1) = decide ((x.2.2.2.2.2.length : Int) = x.2.2.1) := rfl;cases h1 : betw x.2.2.1 0 x.2.1.length
 all_goals
  go_enter Tryz.func214, Tryz.ntmps214;obtain ⟨y0, y1, y2, y3, y4, y5, y6, y7, y8⟩ := cells_core X;clear X;go_wp2_with fail
  refine (between_any _ _ _ _).mono ?_;rintro e w1 ⟨rfl, h⟩;rw [h, h1];clear h w1
 ·go_wp2;go_ret
  exact ⟨rfl, HB.out⟩
 ·by_cases hq : (x.2.2.2.2.2.length : Int) = x.2.2.1
  ·have hq' : ((x.2.2.2.2.2.length : Int) == x.2.2.1) = true := by simp [hq]
   go_wp2;go_ret
   exact ⟨by simp [hq], HB.out⟩
  ·have hq' : ((x.2.2.2.2.2.length : Int) == x.2.2.1) = false := by simp [hq]
   go_wp2;go_ret
   exact ⟨by simp [hq], HB.out⟩
theorem find_there {c : CacheD} (h : OkC isL treeB c) (k : Int) : (findP c k).2.2 = !decide (atC c k = none) := by
 rw [findP_eq h];cases hb : betw k 0 15
 ·rw [at_out h hb]; rfl
 ·cases atC c k <;> rfl
theorem implPhase_u (cs : List Value) (x : CoreD) (w : World) (hok : OkC isL treeB x.1) (h : coreR.rd w cs x) :
    Calls Tryz.prog 215 #[aggV cs] w fun e w' => e = .returned (.bool (phaseB x)) ∧ Below w.heap.size w w' := by
 have KH : Hid (∀ W, Below w.heap.size w W → Calls Tryz.prog 250 #[aggV cs] W fun e w' => e = .returned (.bool (decide (x.2.2.1 < (x.2.1.length : Int)))) ∧ Below W.heap.size W w') := fun W hb => implHasOp_u cs x W (rd_next h hb);obtain ⟨v0, v1, v2, v5, v6, v7, v8, rfl, r0, r1, i2, i3, r4, r5⟩ := core_rd h;have KE : Hid (∀ W, Below w.heap.size w W → Calls Tryz.prog 104 #[.agg #[v5, v6, v7]] W fun e w' => e = .returned (.bool (clearB x.2.2.2.2.1)) ∧ Below W.heap.size W w') := fun W hb => implEmpty_u [v5, v6, v7] _ W (rd_next r4 hb);have KF : Hid (∀ W, Below w.heap.size w W → Calls Tryz.prog 248 #[.agg #[v5, v6, v7]] W fun e w' => e = .returned (.bool (fullB isL x.2.2.2.2.1)) ∧ Below W.heap.size W w') := fun W hb => implFull_u [v5, v6, v7] _ W (rd_next r4 hb);have KG : Hid (∀ W, Below w.heap.size w W → Calls Tryz.prog 249 #[.agg #[v5, v6, v7]] W fun e w' => e = .returned (.bool (goneB x.2.2.2.2.1)) ∧ Below W.heap.size W w') := fun W hb => implLetGo_u [v5, v6, v7] _ W (rd_next r4 hb);have KT : Hid (∀ W, Below w.heap.size w W → Calls Tryz.prog 196 #[.agg #[v0, v1], .int .i64 x.2.2.2.2.1.1] W fun e w' => e = .returned (.tuple #[.agg #[.int .i64 (findP x.1 x.2.2.2.2.1.1).1, .int .i64 (findP x.1 x.2.2.2.2.1.1).2.1], .bool (!decide (atC x.1 x.2.2.2.2.1.1 = none))]) ∧ Below W.heap.size W w') := fun W hb => by
  have := implFind_u [v0, v1] x.1 x.2.2.2.2.1.1 W hok (rd_next r0 hb);rw [find_there hok] at this;exact this
 obtain ⟨ad, cpw, e4, -, -, -, -, -⟩ := way_rd r4;simp only [List.cons.injEq, and_true] at e4;obtain ⟨rfl, rfl, rfl⟩ := e4;clear h r0 r1 r4 r5 hok;unfold phaseB;change Calls Tryz.prog 215 #[.agg #[v0, v1, v2, .int .i64 x.2.2.1, .int .i64 x.2.2.2.1, .int .i64 x.2.2.2.2.1.1, .int .i64 x.2.2.2.2.1.2.1, .slice ad x.2.2.2.2.1.2.2.length cpw, v8]] w _
 rw [show aggV _ = .agg _ from rfl] at KH;generalize decide (x.2.2.1 < (x.2.1.length : Int)) = hp at KH ⊢;generalize clearB x.2.2.2.2.1 = cl at KE ⊢;generalize fullB isL x.2.2.2.2.1 = fu at KF ⊢;generalize goneB x.2.2.2.2.1 = go at KG ⊢;generalize hat : decide (atC x.1 x.2.2.2.2.1.1 = none) = an at KT ⊢;clear hat;generalize findP x.1 x.2.2.2.2.1.1 = fp at KT;have X := heap_at w (.cells #[v0, v1, v2, .int .i64 x.2.2.1, .int .i64 x.2.2.2.1, .int .i64 x.2.2.2.2.1.1, .int .i64 x.2.2.2.2.1.2.1, .slice ad x.2.2.2.2.1.2.2.length cpw, v8] 95);have B := box_below w (.cells #[v0, v1, v2, .int .i64 x.2.2.1, .int .i64 x.2.2.2.1, .int .i64 x.2.2.2.2.1.1, .int .i64 x.2.2.2.2.1.2.1, .slice ad x.2.2.2.2.1.2.2.length cpw, v8] 95);generalize x.2.2.2.1 = ph at *;have HI : ∀ b c d : Bool, (if ph = 0 then b else if ph = 1 then c else if ph = 2 then d else false) = (if ph = 0 then b else if ph = 1 then c else if ph = 2 then d else false) := fun _ _ _ => rfl;clear HI;go_enter Tryz.func215, Tryz.ntmps215;obtain ⟨y0, y1, y2, y3, y4, y5, y6, y7, y8⟩ := cells_core X;by_cases p0 : ph = 0
 ·subst p0;rw [if_pos rfl];go_wp2_with fail
  refine (KE.out _ B).mono ?_;rintro e w1 ⟨rfl, b1⟩;go_wp2;go_ret
  exact ⟨rfl, below_step B b1⟩
 ·have p0' : (ph == 0) = false := by simp [p0]
  rw [if_neg p0];by_cases p1 : ph = 1
  ·subst p1;rw [if_pos rfl];go_wp2_with fail
   generalize w.alloc (.cells #[v0, v1, v2, .int .i64 x.2.2.1, .int .i64 1, .int .i64 x.2.2.2.2.1.1, .int .i64 x.2.2.2.2.1.2.1, .slice ad x.2.2.2.2.1.2.2.length cpw, v8] 95) = W0 at X B ⊢;refine (KT.out _ B).mono ?_;rintro e w1 ⟨rfl, b1⟩;replace X := heap_on (.cells #[.int .i64 fp.1, .int .i64 fp.2.1] 217) (row_keep b1 X);replace B := below_step (below_step B b1) (box_below w1 (.cells #[.int .i64 fp.1, .int .i64 fp.2.1] 217));clear b1 KT y0 y1 y2 y3 y4 y5 y6 y7 y8;obtain ⟨y0, y1, y2, y3, y4, y5, y6, y7, y8⟩ := cells_core X;cases an
   ·clear X;go_wp2;go_ret
    exact ⟨rfl, B⟩
   ·go_wp2_with fail
    generalize w1.alloc (.cells #[.int .i64 fp.1, .int .i64 fp.2.1] 217) = W1 at X B ⊢;refine (KF.out _ B).mono ?_;rintro e w2 ⟨rfl, b2⟩;replace X := row_keep b2 X;replace B := below_step B b2;clear b2 KF y0 y1 y2 y3 y4 y5 y6 y7 y8;obtain ⟨y0, y1, y2, y3, y4, y5, y6, y7, y8⟩ := cells_core X;cases fu
    ·go_wp2_with fail
     refine (KG.out _ B).mono ?_;rintro e w3 ⟨rfl, b3⟩;replace B := below_step B b3;clear X b3 y0 y1 y2 y3 y4 y5 y6 y7 y8;go_wp2;go_ret
     exact ⟨rfl, B⟩
    ·clear X;go_wp2;go_ret
     exact ⟨rfl, B⟩
  ·have p1' : (ph == 1) = false := by simp [p1]
   rw [if_neg p1];by_cases p2 : ph = 2
   ·subst p2;rw [if_pos rfl];go_wp2_with fail
    refine (KE.out _ B).mono ?_;rintro e w1 ⟨rfl, b1⟩;replace X := row_keep b1 X;replace B := below_step B b1;clear b1 y0 y1 y2 y3 y4 y5 y6 y7 y8;obtain ⟨y0, y1, y2, y3, y4, y5, y6, y7, y8⟩ := cells_core X;cases cl
    ·clear X;go_wp2;go_ret
     exact ⟨rfl, B⟩
    ·go_wp2_with fail
     refine (KH.out _ B).mono ?_;rintro e w2 ⟨rfl, b2⟩;clear X y0 y1 y2 y3 y4 y5 y6 y7 y8;go_wp2;go_ret
     exact ⟨rfl, below_step B b2⟩
   ·have p2' : (ph == 2) = false := by simp [p2]
    rw [if_neg p2];clear X;go_wp2;go_ret
    exact ⟨rfl, B⟩
theorem implCoreOk_u (cs : List Value) (x : CoreD) (w : World) (h : coreR.rd w cs x) :
    Calls Tryz.prog 172 #[aggV cs] w fun e w' => e = .returned (.bool (coreB x)) ∧ Below w.heap.size w w' := by
 rw [core_all];have KL : Hid (∀ W, Below w.heap.size w W → Calls Tryz.prog 214 #[aggV cs] W fun e w' => e = .returned (.bool (placeB x)) ∧ Below W.heap.size W w') := fun W hb => implPlace_u cs x W (rd_next h hb);have KP : Hid (∀ W, okB isL treeB x.1 = true → Below w.heap.size w W → Calls Tryz.prog 215 #[aggV cs] W fun e w' => e = .returned (.bool (phaseB x)) ∧ Below W.heap.size W w') := fun W hk hb => implPhase_u cs x W (okB_iff.1 hk) (rd_next h hb);obtain ⟨v0, v1, v2, v5, v6, v7, v8, rfl, r0, r1, i2, i3, r4, r5⟩ := core_rd h;have KC : Hid (∀ W, Below w.heap.size w W → Calls Tryz.prog 194 #[.agg #[v0, v1]] W fun e w' => e = .returned (.bool (okB isL treeB x.1)) ∧ Below W.heap.size W w') := fun W hb => implCacheOk_u [v0, v1] _ W (rd_next r0 hb);have KO : Hid (∀ W, Below w.heap.size w W → Calls Tryz.prog 213 #[v2] W fun e w' => e = .returned (.bool (progB x.2.1)) ∧ Below W.heap.size W w') := fun W hb => by
  obtain ⟨a1, c1, e1, k1, k2, q⟩ := rd_next r1 hb;simp only [List.cons.injEq, and_true] at e1;obtain rfl := e1;exact implOpsOk_any _ _ _ W q (Nat.le_trans k1 k2)
 clear h r0 r1 r4 r5;rw [show aggV _ = .agg _ from rfl] at KL KP ⊢;generalize placeB x = pl at KL ⊢;generalize phaseB x = pb at KP ⊢;generalize progB x.2.1 = pr at KO ⊢;generalize okB isL treeB x.1 = ok at KC KP ⊢;have X := heap_at w (.cells #[v0, v1, v2, .int .i64 x.2.2.1, .int .i64 x.2.2.2.1, v5, v6, v7, v8] 95);have B := box_below w (.cells #[v0, v1, v2, .int .i64 x.2.2.1, .int .i64 x.2.2.2.1, v5, v6, v7, v8] 95);go_enter Tryz.func172, Tryz.ntmps172;obtain ⟨y0, y1, y2, y3, y4, y5, y6, y7, y8⟩ := cells_core X;go_wp2_with fail
 generalize w.alloc (.cells #[v0, v1, v2, .int .i64 x.2.2.1, .int .i64 x.2.2.2.1, v5, v6, v7, v8] 95) = W0 at X B ⊢;refine (KC.out _ B).mono ?_;rintro e w1 ⟨rfl, b1⟩;replace X := row_keep b1 X;replace B := below_step B b1;clear b1 KC y0 y1 y2 y3 y4 y5 y6 y7 y8;obtain ⟨y0, y1, y2, y3, y4, y5, y6, y7, y8⟩ := cells_core X;cases ok
 ·clear X;go_wp2;go_ret
  exact ⟨rfl, B⟩
 go_wp2_with fail
 refine (KO.out _ B).mono ?_;rintro e w2 ⟨rfl, b1⟩;replace X := row_keep b1 X;replace B := below_step B b1;clear b1 KO y0 y1 y2 y3 y4 y5 y6 y7 y8;obtain ⟨y0, y1, y2, y3, y4, y5, y6, y7, y8⟩ := cells_core X;cases pr
 ·clear X;go_wp2;go_ret
  exact ⟨rfl, B⟩
 go_wp2_with fail
 refine (KL.out _ B).mono ?_;rintro e w3 ⟨rfl, b1⟩;replace X := row_keep b1 X;replace B := below_step B b1;clear b1 KL y0 y1 y2 y3 y4 y5 y6 y7 y8;obtain ⟨y0, y1, y2, y3, y4, y5, y6, y7, y8⟩ := cells_core X;cases pl
 ·clear X;go_wp2;go_ret
  exact ⟨rfl, B⟩
 go_wp2_with fail
 refine (KP.out _ (by first | rfl | trivial) B).mono ?_;rintro e w4 ⟨rfl, b1⟩;replace B := below_step B b1;clear b1 KP X y0 y1 y2 y3 y4 y5 y6 y7 y8;go_wp2;go_ret
 exact ⟨rfl, B⟩
open Go.RowKit Go.Extern.Stop Go.Stop Go.Extern
theorem ex_typeOf (args : Array Value) (w : World) : (callFunc 273 args).run Tryz.prog w = ((Extern.ReflectliteType.typeOf args).run Tryz.prog w).andThen fun v w' => .ok (.value v) w' := @run_callFunc_extern Tryz.prog 273 _ Extern.ReflectliteType.typeOf Tryz.func273 (by kernel_rfl) (by kernel_rfl) (by kernel_rfl) (by kernel_rfl) args w
theorem ex_unp (args : Array Value) (w : World) : (callFunc 257 args).run Tryz.prog w = ((unpF args).run Tryz.prog w).andThen fun v w' => .ok (.value v) w' := @run_callFunc_extern Tryz.prog 257 _ unpF Tryz.func257 (by kernel_rfl) (by kernel_rfl) (by kernel_rfl) (by kernel_rfl) args w
theorem ex_type (args : Array Value) (w : World) : (callFunc 258 args).run Tryz.prog w = ((typeF args).run Tryz.prog w).andThen fun v w' => .ok (.value v) w' := @run_callFunc_extern Tryz.prog 258 _ typeF Tryz.func258 (by kernel_rfl) (by kernel_rfl) (by kernel_rfl) (by kernel_rfl) args w
theorem ex_isNil (args : Array Value) (w : World) : (callFunc 259 args).run Tryz.prog w = ((isNilF args).run Tryz.prog w).andThen fun v w' => .ok (.value v) w' := @run_callFunc_extern Tryz.prog 259 _ isNilF Tryz.func259 (by kernel_rfl) (by kernel_rfl) (by kernel_rfl) (by kernel_rfl) args w
theorem ex_kind (args : Array Value) (w : World) : (callFunc 301 args).run Tryz.prog w = ((kindF args).run Tryz.prog w).andThen fun v w' => .ok (.value v) w' := @run_callFunc_extern Tryz.prog 301 _ kindF Tryz.func301 (by kernel_rfl) (by kernel_rfl) (by kernel_rfl) (by kernel_rfl) args w
theorem ex_elemT (args : Array Value) (w : World) : (callFunc 318 args).run Tryz.prog w = ((elemTF args).run Tryz.prog w).andThen fun v w' => .ok (.value v) w' := @run_callFunc_extern Tryz.prog 318 _ elemTF Tryz.func318 (by kernel_rfl) (by kernel_rfl) (by kernel_rfl) (by kernel_rfl) args w
theorem ex_impl (args : Array Value) (w : World) : (callFunc 319 args).run Tryz.prog w = ((implF args).run Tryz.prog w).andThen fun v w' => .ok (.value v) w' := @run_callFunc_extern Tryz.prog 319 _ implF Tryz.func319 (by kernel_rfl) (by kernel_rfl) (by kernel_rfl) (by kernel_rfl) args w
theorem ex_asgn (args : Array Value) (w : World) : (callFunc 316 args).run Tryz.prog w = ((asgnF args).run Tryz.prog w).andThen fun v w' => .ok (.value v) w' := @run_callFunc_extern Tryz.prog 316 _ asgnF Tryz.func316 (by kernel_rfl) (by kernel_rfl) (by kernel_rfl) (by kernel_rfl) args w
theorem ex_elemV (args : Array Value) (w : World) : (callFunc 274 args).run Tryz.prog w = ((elemVF args).run Tryz.prog w).andThen fun v w' => .ok (.value v) w' := @run_callFunc_extern Tryz.prog 274 _ elemVF Tryz.func274 (by kernel_rfl) (by kernel_rfl) (by kernel_rfl) (by kernel_rfl) args w
theorem ex_set (args : Array Value) (w : World) : (callFunc 275 args).run Tryz.prog w = ((setF args).run Tryz.prog w).andThen fun v w' => .ok (.value v) w' := @run_callFunc_extern Tryz.prog 275 _ setF Tryz.func275 (by kernel_rfl) (by kernel_rfl) (by kernel_rfl) (by kernel_rfl) args w
theorem froz_keep {w w' : World} {D b o : Nat} (hb : Below D w w') (h : w.frozen? ⟨b, o, none⟩ = false) (hl : b < D) : w'.frozen? ⟨b, o, none⟩ = false := by
 have := hb.block b hl;simp only [World.frozen?, this] at h ⊢;exact h
theorem asR_any (c : Int) (ab ao tb tq : Nat) (old : Value) (w : World) (ha : w.cell? ⟨ab, ao, none⟩ = some (.pointer (some ⟨tb, tq, none⟩))) (ht : w.cell? ⟨tb, tq, none⟩ = some old) (hf : w.frozen? ⟨tb, tq, none⟩ = false) :
    Calls Tryz.prog 260 #[.iface 243 (.int .i64 c), .iface 245 (.pointer (some ⟨tb, tq, none⟩)), valP ⟨ab, ao, none⟩, hanV 243] w fun e w' => e = .returned (.bool true) ∧ ∃ W, Below w.heap.size w W ∧ w' = W.setCell ⟨tb, tq, none⟩ (.int .i64 c) := by
 have B1 := box_below w (valO ⟨ab, ao, none⟩);have A1 := cell_keep B1 ha (cell_lt ha);have B2 := below_step B1 (box_below (w.alloc (valO ⟨ab, ao, none⟩)) (.cells #[.int .i64 c] 243));have e1 := ex_typeOf;have e2 := ex_asgn;have e3 := ex_elemV;have e4 := ex_unp;have e5 := ex_set;have t1 := er_typeOf;have m1 := as_mAsgn;have m2 := as_asgnR;have m3 := as_elemV ⟨ab, ao, none⟩ ⟨tb, tq, none⟩ (w.alloc (valO ⟨ab, ao, none⟩)) A1;have m4 := as_unpE c (w.alloc (valO ⟨ab, ao, none⟩));have m5 := as_set ⟨tb, tq, none⟩ ⟨w.heap.size + 1, 0, none⟩ c old ((w.alloc (valO ⟨ab, ao, none⟩)).alloc (.cells #[.int .i64 c] 243)) (by rw [World.cell?_alloc_at _ _ _ _ (by simp)]; rfl) (cell_keep B2 ht (cell_lt ht)) (froz_keep B2 hf (cell_lt ht));go_enter Tryz.func260, Tryz.ntmps260;go_wp2;refine wp_loop_rounds 1 ?_;rw [rounds_succ];go_wp2;go_ret
 exact ⟨rfl, _, B2, rfl⟩
theorem asF_any (n c : Int) (ab ao tb tq : Nat) (old : Value) (w : World) (ha : w.cell? ⟨ab, ao, none⟩ = some (.pointer (some ⟨tb, tq, none⟩))) (ht : w.cell? ⟨tb, tq, none⟩ = some old) (hf : w.frozen? ⟨tb, tq, none⟩ = false) :
    Calls Tryz.prog 260 #[.iface 275 (.agg #[.int .i64 n, .iface 243 (.int .i64 c)]), .iface 245 (.pointer (some ⟨tb, tq, none⟩)), valP ⟨ab, ao, none⟩, hanV 243] w fun e w' => e = .returned (.bool true) ∧ ∃ W, Below w.heap.size w W ∧ w' = W.setCell ⟨tb, tq, none⟩ (.int .i64 c) := by
 have B1 := box_below w (valO ⟨ab, ao, none⟩);have A1 := heap_at w (valO ⟨ab, ao, none⟩);have e1 := ex_typeOf;have e2 := ex_asgn;have e3 := ex_elemV;have e4 := ex_unp;have e5 := ex_set;have t1 := er_typeOf;have t2 := er_typeOfF;have m1 := as_mAsgn;have m2 := as_asgnR;have m6 := as_asgnF;have n1 := as_noAsF;have n5 := er_hasUnF;have mU := er_mUn;go_enter Tryz.func260, Tryz.ntmps260;go_wp2;refine wp_loop_rounds 2 ?_;rw [rounds_succ];generalize w.alloc (valO ⟨ab, ao, none⟩) = w0 at A1 B1 ⊢;have HB1 : Hid (Below w.heap.size w w0) := B1;have hsz : w.heap.size < w0.heap.size := (ltH A1);clear B1;go_wp2_with (go_at_call 314; refine (unwrap_any _ _ _).mono ?_; rintro e w1 ⟨rfl, bb⟩)
 rw [rounds_succ];have B2 := below_step HB1.out bb;have c0 : w1.cell? ⟨w.heap.size, 0, none⟩ = some (.pointer (some ⟨2, 245, none⟩)) := cell_keep bb (by simp [World.cell?, A1]) hsz;have c1 : w1.cell? ⟨w.heap.size, 1, none⟩ = some (.pointer (some ⟨ab, ao, none⟩)) := cell_keep bb (by simp [World.cell?, A1]) hsz;have c2 : w1.cell? ⟨w.heap.size, 2, none⟩ = some (.int .u64 150) := cell_keep bb (by simp [World.cell?, A1]) hsz;have a1 := cell_keep B2 ha (cell_lt ha);have t1' := cell_keep B2 ht (cell_lt ht);have f1 := froz_keep B2 hf (cell_lt ht);have B3 := box_below w1 (.cells #[.int .i64 c] 243);have m3 := as_elemV ⟨ab, ao, none⟩ ⟨tb, tq, none⟩ w1 a1;have m4 := as_unpE c w1;have m5 := as_set ⟨tb, tq, none⟩ ⟨w1.heap.size, 0, none⟩ c old (w1.alloc (.cells #[.int .i64 c] 243)) (by rw [World.cell?_alloc_at _ _ _ _ (by simp)]; rfl) (cell_keep B3 t1' (cell_lt t1')) (froz_keep B3 f1 (cell_lt t1'));have HE : Hid (Below w.heap.size w (w1.alloc (.cells #[.int .i64 c] 243))) := below_step B2 B3;clear B2 B3 bb ha ht hf a1 t1' f1 A1 HB1 hsz;go_wp2;go_ret
 exact ⟨rfl, _, HE.out, rfl⟩
def ErrV (v : Value) (c : Int) : Prop := v = refV c ∨ ∃ n : Int, v = fltV n c
theorem as_any (v : Value) (c : Int) (hv : ErrV v c) (ab ao tb tq : Nat) (old : Value) (w : World) (ha : w.cell? ⟨ab, ao, none⟩ = some (.pointer (some ⟨tb, tq, none⟩))) (ht : w.cell? ⟨tb, tq, none⟩ = some old) (hf : w.frozen? ⟨tb, tq, none⟩ = false) :
    Calls Tryz.prog 260 #[v, .iface 245 (.pointer (some ⟨tb, tq, none⟩)), valP ⟨ab, ao, none⟩, hanV 243] w fun e w' => e = .returned (.bool true) ∧ ∃ W, Below w.heap.size w W ∧ w' = W.setCell ⟨tb, tq, none⟩ (.int .i64 c) := by
 rcases hv with rfl | ⟨n, rfl⟩
 ·exact asR_any c ab ao tb tq old w ha ht hf
 ·exact asF_any n c ab ao tb tq old w ha ht hf
theorem asWhole_any (v : Value) (c : Int) (hv : ErrV v c) (tb tq : Nat) (old : Value) (w : World) (hh : Hold w) (ht : w.cell? ⟨tb, tq, none⟩ = some old) (hf : w.frozen? ⟨tb, tq, none⟩ = false) :
    Calls Tryz.prog 225 #[v, .iface 245 (.pointer (some ⟨tb, tq, none⟩))] w fun e w' => e = .returned (.bool true) ∧ ∃ W, Below w.heap.size w W ∧ w' = W.setCell ⟨tb, tq, none⟩ (.int .i64 c) := by
 have B1 := box_below w (.cells #[.pointer (some ⟨tb, tq, none⟩)] 245);have B2 := below_step B1 (box_below (w.alloc (.cells #[.pointer (some ⟨tb, tq, none⟩)] 245)) (valO ⟨w.heap.size, 0, none⟩));have G2 : ((w.alloc (.cells #[.pointer (some ⟨tb, tq, none⟩)] 245)).alloc (valO ⟨w.heap.size, 0, none⟩)).cell? ⟨1, 0, none⟩ = some (hanV 213) := hh.goes B2;have P2 : ((w.alloc (.cells #[.pointer (some ⟨tb, tq, none⟩)] 245)).alloc (valO ⟨w.heap.size, 0, none⟩)).cell? ⟨w.heap.size, 0, none⟩ = some (.pointer (some ⟨tb, tq, none⟩)) := by
  rw [World.cell?_alloc_lt _ _ ⟨w.heap.size, 0, none⟩ (by simp)]; simp
 have HC : Hid (Calls Tryz.prog 260 #[v, .iface 245 (.pointer (some ⟨tb, tq, none⟩)), valP ⟨w.heap.size, 0, none⟩, hanV 243] ((w.alloc (.cells #[.pointer (some ⟨tb, tq, none⟩)] 245)).alloc (valO ⟨w.heap.size, 0, none⟩)) fun e w' => e = .returned (.bool true) ∧ ∃ W, Below w.heap.size w W ∧ w' = W.setCell ⟨tb, tq, none⟩ (.int .i64 c)) :=
  (as_any v c hv w.heap.size 0 tb tq old _ P2 (cell_keep B2 ht (cell_lt ht)) (froz_keep B2 hf (cell_lt ht))).mono fun e w' ⟨h1, W, h2, h3⟩ => ⟨h1, W, below_step B2 h2, h3⟩
 have m8 := as_isNil ⟨w.heap.size, 0, none⟩ ⟨tb, tq, none⟩ _ P2;obtain ⟨T, x, rfl⟩ : ∃ T x, v = .iface T x := by
  rcases hv with rfl | ⟨n, rfl⟩
  ·exact ⟨_, _, rfl⟩
  ·exact ⟨_, _, rfl⟩
 clear hv hh ht hf B1 B2;have e1 := ex_unp;have e2 := ex_type;have e3 := ex_kind;have e4 := ex_isNil;have e5 := ex_elemT;have e6 := ex_impl;have m1 := as_unpP;have m2 := as_type;have m3 := as_mKind;have m4 := as_kindP;have m5 := as_kindE;have m6 := as_mElem;have m7 := as_elemT;have m9 := as_mImpl;have m10 := as_impl;go_enter Tryz.func225, Tryz.ntmps225;go_wp2_with (go_at_call 260; refine HC.out.mono ?_; rintro e w' ⟨rfl, W, h2, h3⟩)
 go_ret
 exact ⟨rfl, W, h2, rfl⟩
theorem implCodeOf_any (v : Value) (c : Int) (hv : ErrV v c) (w : World) (hh : Hold w) :
    Calls Tryz.prog 183 #[v] w fun e w' => e = .returned (.int .i64 c) ∧ Below w.heap.size w w' := by
 have bx := box_below w (.cells #[.int .i64 0] 243);have HC := asWhole_any v c hv w.heap.size 0 (.int .i64 0) (w.alloc (.cells #[.int .i64 0] 243)) (hh.goes bx) (by simp) (by simp);clear hh hv;go_enter Tryz.func183, Tryz.ntmps183;go_wp2_with fail
 refine HC.mono ?_;rintro e w' ⟨rfl, W, h2, rfl⟩;have A1 := heap_at w (.cells #[.int .i64 0] 243);have A2 : W.heap[w.heap.size]? = some (.cells #[.int .i64 0] 243) := (h2.block _ (ltH A1)).trans A1;have hc : (W.setCell ⟨w.heap.size, 0, none⟩ (.int .i64 c)).cell? ⟨w.heap.size, 0, none⟩ = some (.int .i64 c) := by
  have := heap_setCell_same W w.heap.size 0 _ _ (.int .i64 c) A2;simp [World.cell?, this]
 have HB : Hid (Below w.heap.size w (W.setCell ⟨w.heap.size, 0, none⟩ (.int .i64 c))) := below_setC (below_step bx h2) (Nat.le_refl _);clear A1 A2;clear HC h2 bx;generalize W.setCell ⟨w.heap.size, 0, none⟩ (.int .i64 c) = V at hc HB ⊢;go_wp2;go_ret
 exact ⟨rfl, HB.out⟩
theorem implCodeOf_nil (w : World) : Calls Tryz.prog 183 #[.nilIface] w fun e w' => e = .returned (.int .i64 0) ∧ Below w.heap.size w w' := by
 have bx := box_below w (.cells #[.int .i64 0] 243);go_enter Tryz.func183, Tryz.ntmps183;go_wp2_with go_in
 go_ret
 exact ⟨rfl, bx⟩
end Go.Proofs.YtcocbafhcpdheaaGreatDoor
