import Derived.Test.YtiiipclglngdhaaGreatDoorQ00Box
import Derived.Test.YtiiipclglngdhaaGreatDoorQ03Bits
import Derived.Test.YtiiipclglngdhaaGreatDoorQ12Ways2
import Derived.Test.YtiiipclglngdhaaGreatDoorQ09MsgMarks
import Derived.Test.YtiiipclglngdhaaGreatDoorQ19Prog11
import Derived.Test.YtiiipclglngdhaaGreatDoorQ06Errs
import Derived.Maps.AppendAt
import Derived.Test.YtiiipclglngdhaaGreatDoorQ21Finds
import Derived.Deep.RegionHeld3
import Derived.Deep.DeepCutAuto
import Derived.Test.YtiiipclglngdhaaGreatDoorQ02Nums
import Derived.Lib.SliceRun
import Derived.BigRegion
import Derived.Deep.RegionLaw
import Derived.Deep.CutBlock
import Derived.Test.YtiiipclglngdhaaGreatDoorQ15WaysOk
namespace Go.Proofs.YtiiipclglngdhaaGreatDoor
set_option maxHeartbeats 4000000
open Go.ChangeShapes Go.WideShapes Go.ChangeAt Go.RowKit
set_option linter.unusedVariables false
section
variable {α : Type}
end
section
variable {α : Type}
end
open Go.ChangeShapes Go.WideShapes Go.ChangeAt Go.RowKit Go.Shelf
theorem cs1 {w : World} {g b o k : Nat} {u v : Value} (hne : ¬ (b = g)) (h : w.cell? ⟨b, k, none⟩ = some u) : (w.setCell ⟨g, o, none⟩ v).cell? ⟨b, k, none⟩ = some u :=
 (World.cell?_of_block (w := w) (a := ⟨b, k, none⟩) (heap_setCell_other w ⟨g, o, none⟩ b v hne)).trans h
open Go.RowKit
section
variable {P : Program} {C : World → Prop} {l : List Oper} {o : Oper}
end
attribute [local go_sem] Oper.semAt_some
section
variable {W0 wx : World} {b0 o0 o1 : Nat} {u v : Value}
end
theorem implCacheOk_u (cs : List Value) (c : CacheD) (w : World) (h : cacheR.rd w cs c) :
    Calls Tryz.prog 169 #[aggV cs] w fun e w' => e = .returned (.bool (okB isL treeB c)) ∧ Below w.heap.size w w' := by
 obtain ⟨a, cap, b, cp, rfl, l1, l2, m1, m2, r1, r2⟩ := cache_rd h
 exact implCacheOk_any a b c cap cp w r1 r2 (Nat.le_trans l1 l2) (Nat.le_trans m1 m2) (rows_len r1)
theorem implFind_u (cs : List Value) (c : CacheD) (k : Int) (w : World) (hok : OkC isL treeB c) (h : cacheR.rd w cs c) :
    Calls Tryz.prog 203 #[aggV cs, .int .i64 k] w fun e w' => e = .returned (.tuple #[.agg #[.int .i64 (findP c k).1, .int .i64 (findP c k).2.1], .bool (findP c k).2.2]) ∧ Below w.heap.size w w' := by
 obtain ⟨a, cap, b, cp, rfl, l1, l2, m1, m2, r1, r2⟩ := cache_rd h
 exact implFind_any a b c cap cp k w hok r1
theorem implEmpty_u (us : List Value) (u : WayD) (w : World) (h : wayR.rd w us u) :
    Calls Tryz.prog 202 #[aggV us] w fun e w' => e = .returned (.bool (clearB u)) ∧ Below w.heap.size w w' := by
 obtain ⟨ad, cpw, rfl, i1, i2, k1, k2, k3⟩ := way_rd h
 rw [← clr_eq]
 exact implEmpty_any _ _ _ _ _ w (Nat.le_trans k1 k2)
theorem implFull_u (us : List Value) (u : WayD) (w : World) (h : wayR.rd w us u) :
    Calls Tryz.prog 204 #[aggV us] w fun e w' => e = .returned (.bool (fullB isL u)) ∧ Below w.heap.size w w' := by
 obtain ⟨ad, cpw, rfl, i1, i2, k1, k2, k3⟩ := way_rd h
 exact implFull_any _ _ _ _ _ w k3
theorem implLetGo_u (us : List Value) (u : WayD) (w : World) (h : wayR.rd w us u) :
    Calls Tryz.prog 205 #[aggV us] w fun e w' => e = .returned (.bool (goneB u)) ∧ Below w.heap.size w w' := by
 obtain ⟨ad, cpw, rfl, i1, i2, k1, k2, k3⟩ := way_rd h
 have hu63 : u.2.2.length ≤ 9223372036854775807 := Nat.le_trans k1 k2
 clear h k1 k2 k3
 have X := heap_at w (.cells #[.int .i64 u.1, .int .i64 u.2.1, .slice ad u.2.2.length cpw] 78)
 have B := box_below w (.cells #[.int .i64 u.1, .int .i64 u.2.1, .slice ad u.2.2.length cpw] 78)
 change Calls Tryz.prog 205 #[.agg #[.int .i64 u.1, .int .i64 u.2.1, .slice ad u.2.2.length cpw]] w _
 unfold goneB
 generalize u.2.2.length = n at *
 have HB : Hid (∀ b : Bool, b = betw u.1 0 15 → betw u.1 0 15 = b) := fun b e => e.symm
 cases h1 : betw u.1 0 15
 all_goals
  go_enter Tryz.func205, Tryz.ntmps205
  go_wp2_with fail
  generalize w.alloc (.cells #[.int .i64 u.1, .int .i64 u.2.1, .slice ad n cpw] 78) = W0 at X B ⊢
  refine (lineNumberOk_any _ _).mono ?_
  rintro e w1 ⟨rfl, h⟩
  rw [h, h1]
  clear h w1
  obtain ⟨y0, y1, y2⟩ := cells_three X
 ·clear X y0 y1 y2
  go_wp2
  go_ret
  exact ⟨rfl, B⟩
 ·by_cases h2 : u.2.1 = 0
  ·have h2' : (u.2.1 == 0) = true := by simp [h2]
   by_cases h3 : n = 0
   ·have h3' : ((n : Int) == 0) = true := by simp [h3]
    clear X
    go_wp2
    go_ret
    exact ⟨by simp [h2, h3], B⟩
   ·have h3' : ((n : Int) == 0) = false := by simp [h3]
    clear X
    go_wp2
    go_ret
    exact ⟨by simp [h2, h3], B⟩
  ·have h2' : (u.2.1 == 0) = false := by simp [h2]
   clear X
   go_wp2
   go_ret
   exact ⟨by simp [h2], B⟩
def placeB (x : CoreD) : Bool := betw x.2.2.1 0 x.2.1.length && decide ((x.2.2.2.2.2.length : Int) = x.2.2.1)
noncomputable def phaseB (x : CoreD) : Bool := if x.2.2.2.1 = 0 then clearB x.2.2.2.2.1 else if x.2.2.2.1 = 1 then decide (atC x.1 x.2.2.2.2.1.1 = none) && (fullB isL x.2.2.2.2.1 || goneB x.2.2.2.2.1) else if x.2.2.2.1 = 2 then clearB x.2.2.2.2.1 && decide (x.2.2.1 < (x.2.1.length : Int)) else false
theorem core_all (x : CoreD) : coreB x = (okB isL treeB x.1 && (progB x.2.1 && (placeB x && phaseB x))) := by
 unfold coreB progB placeB phaseB restC
 cases okB isL treeB x.1
 ·rfl
 by_cases h1 : x.2.1.length ≤ 30
 ·simp only [h1, decide_true, Bool.true_and]
  cases h2 : betw x.2.2.1 0 x.2.1.length
  ·cases x.2.1.all opOkD <;> rfl
  ·cases h3 : decide ((x.2.2.2.2.2.length : Int) = x.2.2.1)
   ·cases x.2.1.all opOkD <;> rfl
   ·have hle : x.2.2.1 ≤ (x.2.1.length : Int) := by simp [betw] at h2; omega
    simp only [Bool.true_and]
    by_cases p0 : x.2.2.2.1 = 0
    ·rw [if_pos p0, if_neg (by omega)]
     simp [p0, betw]
    ·by_cases p1 : x.2.2.2.1 = 1
     ·rw [if_neg p0, if_pos p1, if_pos p1]
      simp only [p1, betw]
      rw [Bool.or_comm, Bool.and_comm (decide (atC x.1 x.2.2.2.2.1.1 = none))]
      simp
     ·by_cases p2 : x.2.2.2.1 = 2
      ·rw [if_neg p0, if_neg p1, if_pos p2, if_neg p1]
       have e : decide (x.2.2.1 < (x.2.1.length : Int)) = !decide (x.2.2.1 = (x.2.1.length : Int)) := by
        by_cases e : x.2.2.1 = (x.2.1.length : Int)
        ·simp [e]
        ·simp [e]; omega
       rw [e]
       simp only [p2, betw]
       cases x.2.1.all opOkD <;> cases clearB x.2.2.2.2.1 <;> cases decide (x.2.2.1 = (x.2.1.length : Int)) <;> simp
      ·rw [if_neg p0, if_neg p1, if_neg p2, if_neg p1]
       have e : betw x.2.2.2.1 0 2 = false := by simp [betw]; omega
       rw [e]
       cases x.2.1.all opOkD <;> rfl
 ·simp only [h1, decide_false, Bool.false_and, Bool.and_false]
theorem implHasOp_u (cs : List Value) (x : CoreD) (w : World) (h : coreR.rd w cs x) :
    Calls Tryz.prog 63 #[aggV cs] w fun e w' => e = .returned (.bool (decide (x.2.2.1 < (x.2.1.length : Int)))) ∧ Below w.heap.size w w' := by
 obtain ⟨v0, v1, v2, v5, v6, v7, v8, rfl, r0, r1, i2, i3, r4, r5⟩ := core_rd h
 obtain ⟨a1, c1, e1, k1, k2, -⟩ := r1
 simp only [List.cons.injEq, and_true] at e1
 obtain rfl := e1
 have hp63 : x.2.1.length ≤ 9223372036854775807 := Nat.le_trans k1 k2
 clear h r0 r4 r5 k1 k2
 change Calls Tryz.prog 63 #[.agg #[v0, v1, .slice a1 x.2.1.length c1, .int .i64 x.2.2.1, .int .i64 x.2.2.2.1, v5, v6, v7, v8]] w _
 have X := heap_at w (.cells #[v0, v1, .slice a1 x.2.1.length c1, .int .i64 x.2.2.1, .int .i64 x.2.2.2.1, v5, v6, v7, v8] 80)
 have B := box_below w (.cells #[v0, v1, .slice a1 x.2.1.length c1, .int .i64 x.2.2.1, .int .i64 x.2.2.2.1, v5, v6, v7, v8] 80)
 have HB : Hid _ := B
 clear B
 by_cases hq : x.2.2.1 < (x.2.1.length : Int)
 all_goals
  go_enter Tryz.func63, Tryz.ntmps63
  obtain ⟨y0, y1, y2, y3, y4, y5, y6, y7, y8⟩ := cells_core X
  clear X
  go_wp2
  go_ret
  exact ⟨by simp [hq], HB.out⟩
theorem implPlace_u (cs : List Value) (x : CoreD) (w : World) (h : coreR.rd w cs x) :
    Calls Tryz.prog 171 #[aggV cs] w fun e w' => e = .returned (.bool (placeB x)) ∧ Below w.heap.size w w' := by
 obtain ⟨v0, v1, v2, v5, v6, v7, v8, rfl, r0, r1, i2, i3, r4, r5⟩ := core_rd h
 obtain ⟨a1, c1, e1, k1, k2, -⟩ := r1
 simp only [List.cons.injEq, and_true] at e1
 obtain rfl := e1
 obtain ⟨a5, c5, e5, m1, m2, -⟩ := r5
 simp only [List.cons.injEq, and_true] at e5
 obtain rfl := e5
 have hp63 : x.2.1.length ≤ 9223372036854775807 := Nat.le_trans k1 k2
 have ht63 : x.2.2.2.2.2.length ≤ 9223372036854775807 := Nat.le_trans m1 m2
 clear h r0 r4 k1 k2 m1 m2
 change Calls Tryz.prog 171 #[.agg #[v0, v1, .slice a1 x.2.1.length c1, .int .i64 x.2.2.1, .int .i64 x.2.2.2.1, v5, v6, v7, .slice a5 x.2.2.2.2.2.length c5]] w _
 have X := heap_at w (.cells #[v0, v1, .slice a1 x.2.1.length c1, .int .i64 x.2.2.1, .int .i64 x.2.2.2.1, v5, v6, v7, .slice a5 x.2.2.2.2.2.length c5] 80)
 have B := box_below w (.cells #[v0, v1, .slice a1 x.2.1.length c1, .int .i64 x.2.2.1, .int .i64 x.2.2.2.1, v5, v6, v7, .slice a5 x.2.2.2.2.2.length c5] 80)
 unfold placeB
 have HB : Hid _ := B
 clear B
 have hc : ((x.2.2.2.2.2.length : Int) == x.2.2.1) = decide ((x.2.2.2.2.2.length : Int) = x.2.2.1) := rfl
 cases h1 : betw x.2.2.1 0 x.2.1.length
 all_goals
  go_enter Tryz.func171, Tryz.ntmps171
  obtain ⟨y0, y1, y2, y3, y4, y5, y6, y7, y8⟩ := cells_core X
  clear X
  go_wp2_with fail
  refine (between_any _ _ _ _).mono ?_
  rintro e w1 ⟨rfl, h⟩
  rw [h, h1]
  clear h w1
 ·go_wp2
  go_ret
  exact ⟨rfl, HB.out⟩
 ·by_cases hq : (x.2.2.2.2.2.length : Int) = x.2.2.1
  ·have hq' : ((x.2.2.2.2.2.length : Int) == x.2.2.1) = true := by simp [hq]
   go_wp2
   go_ret
   exact ⟨by simp [hq], HB.out⟩
  ·have hq' : ((x.2.2.2.2.2.length : Int) == x.2.2.1) = false := by simp [hq]
   go_wp2
   go_ret
   exact ⟨by simp [hq], HB.out⟩
theorem find_there {c : CacheD} (h : OkC isL treeB c) (k : Int) : (findP c k).2.2 = !decide (atC c k = none) := by
 rw [findP_eq h]
 cases hb : betw k 0 15
 ·rw [at_out h hb]; rfl
 ·cases atC c k <;> rfl
theorem implPhase_u (cs : List Value) (x : CoreD) (w : World) (hok : OkC isL treeB x.1) (h : coreR.rd w cs x) :
    Calls Tryz.prog 172 #[aggV cs] w fun e w' => e = .returned (.bool (phaseB x)) ∧ Below w.heap.size w w' := by
 have KH : Hid (∀ W, Below w.heap.size w W → Calls Tryz.prog 63 #[aggV cs] W fun e w' => e = .returned (.bool (decide (x.2.2.1 < (x.2.1.length : Int)))) ∧ Below W.heap.size W w') := fun W hb => implHasOp_u cs x W (rd_next h hb)
 obtain ⟨v0, v1, v2, v5, v6, v7, v8, rfl, r0, r1, i2, i3, r4, r5⟩ := core_rd h
 have KE : Hid (∀ W, Below w.heap.size w W → Calls Tryz.prog 202 #[.agg #[v5, v6, v7]] W fun e w' => e = .returned (.bool (clearB x.2.2.2.2.1)) ∧ Below W.heap.size W w') := fun W hb => implEmpty_u [v5, v6, v7] _ W (rd_next r4 hb)
 have KF : Hid (∀ W, Below w.heap.size w W → Calls Tryz.prog 204 #[.agg #[v5, v6, v7]] W fun e w' => e = .returned (.bool (fullB isL x.2.2.2.2.1)) ∧ Below W.heap.size W w') := fun W hb => implFull_u [v5, v6, v7] _ W (rd_next r4 hb)
 have KG : Hid (∀ W, Below w.heap.size w W → Calls Tryz.prog 205 #[.agg #[v5, v6, v7]] W fun e w' => e = .returned (.bool (goneB x.2.2.2.2.1)) ∧ Below W.heap.size W w') := fun W hb => implLetGo_u [v5, v6, v7] _ W (rd_next r4 hb)
 have KT : Hid (∀ W, Below w.heap.size w W → Calls Tryz.prog 203 #[.agg #[v0, v1], .int .i64 x.2.2.2.2.1.1] W fun e w' => e = .returned (.tuple #[.agg #[.int .i64 (findP x.1 x.2.2.2.2.1.1).1, .int .i64 (findP x.1 x.2.2.2.2.1.1).2.1], .bool (!decide (atC x.1 x.2.2.2.2.1.1 = none))]) ∧ Below W.heap.size W w') := fun W hb => by
  have := implFind_u [v0, v1] x.1 x.2.2.2.2.1.1 W hok (rd_next r0 hb)
  rw [find_there hok] at this
  exact this
 obtain ⟨ad, cpw, e4, -, -, -, -, -⟩ := way_rd r4
 simp only [List.cons.injEq, and_true] at e4
 obtain ⟨rfl, rfl, rfl⟩ := e4
 clear h r0 r1 r4 r5 hok
 unfold phaseB
 change Calls Tryz.prog 172 #[.agg #[v0, v1, v2, .int .i64 x.2.2.1, .int .i64 x.2.2.2.1, .int .i64 x.2.2.2.2.1.1, .int .i64 x.2.2.2.2.1.2.1, .slice ad x.2.2.2.2.1.2.2.length cpw, v8]] w _
 rw [show aggV [v0, v1, v2, .int .i64 x.2.2.1, .int .i64 x.2.2.2.1, .int .i64 x.2.2.2.2.1.1, .int .i64 x.2.2.2.2.1.2.1, .slice ad x.2.2.2.2.1.2.2.length cpw, v8] = .agg #[v0, v1, v2, .int .i64 x.2.2.1, .int .i64 x.2.2.2.1, .int .i64 x.2.2.2.2.1.1, .int .i64 x.2.2.2.2.1.2.1, .slice ad x.2.2.2.2.1.2.2.length cpw, v8] from rfl] at KH
 generalize decide (x.2.2.1 < (x.2.1.length : Int)) = hp at KH ⊢
 generalize clearB x.2.2.2.2.1 = cl at KE ⊢
 generalize fullB isL x.2.2.2.2.1 = fu at KF ⊢
 generalize goneB x.2.2.2.2.1 = go at KG ⊢
 generalize hat : decide (atC x.1 x.2.2.2.2.1.1 = none) = an at KT ⊢
 clear hat
 generalize findP x.1 x.2.2.2.2.1.1 = fp at KT
 have X := heap_at w (.cells #[v0, v1, v2, .int .i64 x.2.2.1, .int .i64 x.2.2.2.1, .int .i64 x.2.2.2.2.1.1, .int .i64 x.2.2.2.2.1.2.1, .slice ad x.2.2.2.2.1.2.2.length cpw, v8] 80)
 have B := box_below w (.cells #[v0, v1, v2, .int .i64 x.2.2.1, .int .i64 x.2.2.2.1, .int .i64 x.2.2.2.2.1.1, .int .i64 x.2.2.2.2.1.2.1, .slice ad x.2.2.2.2.1.2.2.length cpw, v8] 80)
 generalize x.2.2.2.1 = ph at *
 have HI : ∀ b c d : Bool, (if ph = 0 then b else if ph = 1 then c else if ph = 2 then d else false) = (if ph = 0 then b else if ph = 1 then c else if ph = 2 then d else false) := fun _ _ _ => rfl
 clear HI
 go_enter Tryz.func172, Tryz.ntmps172
 obtain ⟨y0, y1, y2, y3, y4, y5, y6, y7, y8⟩ := cells_core X
 by_cases p0 : ph = 0
 ·subst p0
  rw [if_pos rfl]
  go_wp2_with fail
  refine (KE.out _ B).mono ?_
  rintro e w1 ⟨rfl, b1⟩
  go_wp2
  go_ret
  exact ⟨rfl, below_step B b1⟩
 ·have p0' : (ph == 0) = false := by simp [p0]
  rw [if_neg p0]
  by_cases p1 : ph = 1
  ·subst p1
   rw [if_pos rfl]
   go_wp2_with fail
   generalize w.alloc (.cells #[v0, v1, v2, .int .i64 x.2.2.1, .int .i64 1, .int .i64 x.2.2.2.2.1.1, .int .i64 x.2.2.2.2.1.2.1, .slice ad x.2.2.2.2.1.2.2.length cpw, v8] 80) = W0 at X B ⊢
   refine (KT.out _ B).mono ?_
   rintro e w1 ⟨rfl, b1⟩
   replace X := heap_on (.cells #[.int .i64 fp.1, .int .i64 fp.2.1] 214) (row_keep b1 X)
   replace B := below_step (below_step B b1) (box_below w1 (.cells #[.int .i64 fp.1, .int .i64 fp.2.1] 214))
   clear b1 KT y0 y1 y2 y3 y4 y5 y6 y7 y8
   obtain ⟨y0, y1, y2, y3, y4, y5, y6, y7, y8⟩ := cells_core X
   cases an
   ·clear X
    go_wp2
    go_ret
    exact ⟨rfl, B⟩
   ·go_wp2_with fail
    generalize w1.alloc (.cells #[.int .i64 fp.1, .int .i64 fp.2.1] 214) = W1 at X B ⊢
    refine (KF.out _ B).mono ?_
    rintro e w2 ⟨rfl, b2⟩
    replace X := row_keep b2 X
    replace B := below_step B b2
    clear b2 KF y0 y1 y2 y3 y4 y5 y6 y7 y8
    obtain ⟨y0, y1, y2, y3, y4, y5, y6, y7, y8⟩ := cells_core X
    cases fu
    ·go_wp2_with fail
     refine (KG.out _ B).mono ?_
     rintro e w3 ⟨rfl, b3⟩
     replace B := below_step B b3
     clear X b3 y0 y1 y2 y3 y4 y5 y6 y7 y8
     go_wp2
     go_ret
     exact ⟨rfl, B⟩
    ·clear X
     go_wp2
     go_ret
     exact ⟨rfl, B⟩
  ·have p1' : (ph == 1) = false := by simp [p1]
   rw [if_neg p1]
   by_cases p2 : ph = 2
   ·subst p2
    rw [if_pos rfl]
    go_wp2_with fail
    refine (KE.out _ B).mono ?_
    rintro e w1 ⟨rfl, b1⟩
    replace X := row_keep b1 X
    replace B := below_step B b1
    clear b1 y0 y1 y2 y3 y4 y5 y6 y7 y8
    obtain ⟨y0, y1, y2, y3, y4, y5, y6, y7, y8⟩ := cells_core X
    cases cl
    ·clear X
     go_wp2
     go_ret
     exact ⟨rfl, B⟩
    ·go_wp2_with fail
     refine (KH.out _ B).mono ?_
     rintro e w2 ⟨rfl, b2⟩
     clear X y0 y1 y2 y3 y4 y5 y6 y7 y8
     go_wp2
     go_ret
     exact ⟨rfl, below_step B b2⟩
   ·have p2' : (ph == 2) = false := by simp [p2]
    rw [if_neg p2]
    clear X
    go_wp2
    go_ret
    exact ⟨rfl, B⟩
theorem implCoreOk_u (cs : List Value) (x : CoreD) (w : World) (h : coreR.rd w cs x) :
    Calls Tryz.prog 136 #[aggV cs] w fun e w' => e = .returned (.bool (coreB x)) ∧ Below w.heap.size w w' := by
 rw [core_all]
 have KL : Hid (∀ W, Below w.heap.size w W → Calls Tryz.prog 171 #[aggV cs] W fun e w' => e = .returned (.bool (placeB x)) ∧ Below W.heap.size W w') := fun W hb => implPlace_u cs x W (rd_next h hb)
 have KP : Hid (∀ W, okB isL treeB x.1 = true → Below w.heap.size w W → Calls Tryz.prog 172 #[aggV cs] W fun e w' => e = .returned (.bool (phaseB x)) ∧ Below W.heap.size W w') := fun W hk hb => implPhase_u cs x W (okB_iff.1 hk) (rd_next h hb)
 obtain ⟨v0, v1, v2, v5, v6, v7, v8, rfl, r0, r1, i2, i3, r4, r5⟩ := core_rd h
 have KC : Hid (∀ W, Below w.heap.size w W → Calls Tryz.prog 169 #[.agg #[v0, v1]] W fun e w' => e = .returned (.bool (okB isL treeB x.1)) ∧ Below W.heap.size W w') := fun W hb => implCacheOk_u [v0, v1] _ W (rd_next r0 hb)
 have KO : Hid (∀ W, Below w.heap.size w W → Calls Tryz.prog 170 #[v2] W fun e w' => e = .returned (.bool (progB x.2.1)) ∧ Below W.heap.size W w') := fun W hb => by
  obtain ⟨a1, c1, e1, k1, k2, q⟩ := rd_next r1 hb
  simp only [List.cons.injEq, and_true] at e1
  obtain rfl := e1
  exact implOpsOk_any _ _ _ W q (Nat.le_trans k1 k2)
 clear h r0 r1 r4 r5
 rw [show aggV [v0, v1, v2, .int .i64 x.2.2.1, .int .i64 x.2.2.2.1, v5, v6, v7, v8] = .agg #[v0, v1, v2, .int .i64 x.2.2.1, .int .i64 x.2.2.2.1, v5, v6, v7, v8] from rfl] at KL KP ⊢
 generalize placeB x = pl at KL ⊢
 generalize phaseB x = pb at KP ⊢
 generalize progB x.2.1 = pr at KO ⊢
 generalize okB isL treeB x.1 = ok at KC KP ⊢
 have X := heap_at w (.cells #[v0, v1, v2, .int .i64 x.2.2.1, .int .i64 x.2.2.2.1, v5, v6, v7, v8] 80)
 have B := box_below w (.cells #[v0, v1, v2, .int .i64 x.2.2.1, .int .i64 x.2.2.2.1, v5, v6, v7, v8] 80)
 go_enter Tryz.func136, Tryz.ntmps136
 obtain ⟨y0, y1, y2, y3, y4, y5, y6, y7, y8⟩ := cells_core X
 go_wp2_with fail
 generalize w.alloc (.cells #[v0, v1, v2, .int .i64 x.2.2.1, .int .i64 x.2.2.2.1, v5, v6, v7, v8] 80) = W0 at X B ⊢
 refine (KC.out _ B).mono ?_
 rintro e w1 ⟨rfl, b1⟩
 replace X := row_keep b1 X
 replace B := below_step B b1
 clear b1 KC y0 y1 y2 y3 y4 y5 y6 y7 y8
 obtain ⟨y0, y1, y2, y3, y4, y5, y6, y7, y8⟩ := cells_core X
 cases ok
 ·clear X
  go_wp2
  go_ret
  exact ⟨rfl, B⟩
 go_wp2_with fail
 refine (KO.out _ B).mono ?_
 rintro e w2 ⟨rfl, b1⟩
 replace X := row_keep b1 X
 replace B := below_step B b1
 clear b1 KO y0 y1 y2 y3 y4 y5 y6 y7 y8
 obtain ⟨y0, y1, y2, y3, y4, y5, y6, y7, y8⟩ := cells_core X
 cases pr
 ·clear X
  go_wp2
  go_ret
  exact ⟨rfl, B⟩
 go_wp2_with fail
 refine (KL.out _ B).mono ?_
 rintro e w3 ⟨rfl, b1⟩
 replace X := row_keep b1 X
 replace B := below_step B b1
 clear b1 KL y0 y1 y2 y3 y4 y5 y6 y7 y8
 obtain ⟨y0, y1, y2, y3, y4, y5, y6, y7, y8⟩ := cells_core X
 cases pl
 ·clear X
  go_wp2
  go_ret
  exact ⟨rfl, B⟩
 go_wp2_with fail
 refine (KP.out _ (by first | rfl | trivial) B).mono ?_
 rintro e w4 ⟨rfl, b1⟩
 replace B := below_step B b1
 clear b1 KP X y0 y1 y2 y3 y4 y5 y6 y7 y8
 go_wp2
 go_ret
 exact ⟨rfl, B⟩
end Go.Proofs.YtiiipclglngdhaaGreatDoor
