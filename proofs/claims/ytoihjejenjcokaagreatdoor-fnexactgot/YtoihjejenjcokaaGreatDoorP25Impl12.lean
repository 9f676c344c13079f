import Derived.Test.YtoihjejenjcokaaGreatDoorP00Box
import Derived.Test.YtoihjejenjcokaaGreatDoorP24FillImpl
import Derived.Test.YtoihjejenjcokaaGreatDoorP21Ops
import Derived.Test.YtoihjejenjcokaaGreatDoorP03OpensBase
import Derived.Test.YtoihjejenjcokaaGreatDoorP19LetterOk
import Derived.Test.YtoihjejenjcokaaGreatDoorP16CopyFacts
import Derived.Test.YtoihjejenjcokaaGreatDoorP12Finds
import Derived.Lib.SliceRun
namespace Go.Proofs.YtoihjejenjcokaaGreatDoor
set_option maxHeartbeats 4000000
set_option maxRecDepth 100000
open Go.ChangeShapes Go.WideShapes Go.ChangeAt Go.RowKit
set_option linter.unusedVariables false
theorem zK3 (us : List Value) (u : zAU) (w : World) (h : zAS.rd w us u) :
    Calls Tryz.prog 94 #[zAM us] w fun e w' => e = .returned (.bool (zB7 u)) ∧ Below w.heap.size w w' := by
 obtain ⟨ad, cpw, rfl, i1, i2, k1, k2, k3⟩ := zAL h
 rw [← zHA]
 exact zDO _ _ _ _ _ w (Nat.le_trans k1 k2)
theorem zMe (us : List Value) (u : zAU) (w : World) (h : zAS.rd w us u) :
    Calls Tryz.prog 96 #[zAM us] w fun e w' => e = .returned (.bool (zBi isL u)) ∧ Below w.heap.size w w' := by
 obtain ⟨ad, cpw, rfl, i1, i2, k1, k2, k3⟩ := zAL h
 exact zDw _ _ _ _ _ w k3
theorem zK4 (us : List Value) (u : zAU) (w : World) (h : zAS.rd w us u) :
    Calls Tryz.prog 97 #[zAM us] w fun e w' => e = .returned (.bool (zEf u)) ∧ Below w.heap.size w w' := by
 obtain ⟨ad, cpw, rfl, i1, i2, k1, k2, k3⟩ := zAL h
 have hu63 : u.2.2.length ≤ 9223372036854775807 := Nat.le_trans k1 k2
 clear h k1 k2 k3
 have X := zAy w (.cells #[.int .i64 u.1, .int .i64 u.2.1, .slice ad u.2.2.length cpw] 39)
 have B := zAf w (.cells #[.int .i64 u.1, .int .i64 u.2.1, .slice ad u.2.2.length cpw] 39)
 change Calls Tryz.prog 97 #[.agg #[.int .i64 u.1, .int .i64 u.2.1, .slice ad u.2.2.length cpw]] w _
 unfold zEf
 generalize u.2.2.length = n at *
 have HB : Hid (∀ b : Bool, b = zAQ u.1 0 15 → zAQ u.1 0 15 = b) := fun b e => e.symm
 cases h1 : zAQ u.1 0 15
 all_goals
  go_enter Tryz.func97, Tryz.ntmps97
  go_wp2_with fail
  generalize w.alloc (.cells #[.int .i64 u.1, .int .i64 u.2.1, .slice ad n cpw] 39) = W0 at X B ⊢
  refine (zBI _ _).mono ?_
  rintro e w1 ⟨rfl, h⟩
  rw [h, h1]
  clear h w1
  obtain ⟨y0, y1, y2⟩ := zAg X
 ·clear X y0 y1 y2
  go_wp2
  go_ret
  exact ⟨rfl, B⟩
 ·by_cases h2 : u.2.1 = 0
  ·have h2' : (u.2.1 == 0) = true := by simp [h2]
   by_cases h3 : n = 0
   ·have h3' : ((n : Int) == 0) = true := by simp [h3]
    clear X
    go_wp2
    go_ret
    exact ⟨by simp [h2, h3], B⟩
   ·have h3' : ((n : Int) == 0) = false := by simp [h3]
    clear X
    go_wp2
    go_ret
    exact ⟨by simp [h2, h3], B⟩
  ·have h2' : (u.2.1 == 0) = false := by simp [h2]
   clear X
   go_wp2
   go_ret
   exact ⟨by simp [h2], B⟩
def zHI (x : zAE) : Bool := zAQ x.2.2.1 0 x.2.1.length && decide ((x.2.2.2.2.2.length : Int) = x.2.2.1)
noncomputable def zHJ (x : zAE) : Bool := if x.2.2.2.1 = 0 then zB7 x.2.2.2.2.1 else if x.2.2.2.1 = 1 then decide (atC x.1 x.2.2.2.2.1.1 = none) && (zBi isL x.2.2.2.2.1 || zEf x.2.2.2.2.1) else if x.2.2.2.1 = 2 then zB7 x.2.2.2.2.1 && decide (x.2.2.1 < (x.2.1.length : Int)) else false
theorem core_all (x : zAE) : zAZ x = (okB isL zAJ x.1 && (zMd x.2.1 && (zHI x && zHJ x))) := by
 unfold zAZ zMd zHI zHJ zJs
 cases okB isL zAJ x.1
 ·rfl
 by_cases h1 : x.2.1.length ≤ 30
 ·simp only [h1, decide_true, Bool.true_and]
  cases h2 : zAQ x.2.2.1 0 x.2.1.length
  ·cases x.2.1.all zBN <;> rfl
  ·cases h3 : decide ((x.2.2.2.2.2.length : Int) = x.2.2.1)
   ·cases x.2.1.all zBN <;> rfl
   ·have hle : x.2.2.1 ≤ (x.2.1.length : Int) := by simp [zAQ] at h2; omega
    simp only [Bool.true_and]
    by_cases p0 : x.2.2.2.1 = 0
    ·rw [if_pos p0, if_neg (by omega)]
     simp [p0, zAQ]
    ·by_cases p1 : x.2.2.2.1 = 1
     ·rw [if_neg p0, if_pos p1, if_pos p1]
      simp only [p1, zAQ]
      rw [Bool.or_comm, Bool.and_comm (decide (atC x.1 x.2.2.2.2.1.1 = none))]
      simp
     ·by_cases p2 : x.2.2.2.1 = 2
      ·rw [if_neg p0, if_neg p1, if_pos p2, if_neg p1]
       have e : decide (x.2.2.1 < (x.2.1.length : Int)) = !decide (x.2.2.1 = (x.2.1.length : Int)) := by
        by_cases e : x.2.2.1 = (x.2.1.length : Int)
        ·simp [e]
        ·simp [e]; omega
       rw [e]
       simp only [p2, zAQ]
       cases x.2.1.all zBN <;> cases zB7 x.2.2.2.2.1 <;> cases decide (x.2.2.1 = (x.2.1.length : Int)) <;> simp
      ·rw [if_neg p0, if_neg p1, if_neg p2, if_neg p1]
       have e : zAQ x.2.2.2.1 0 2 = false := by simp [zAQ]; omega
       rw [e]
       cases x.2.1.all zBN <;> rfl
 ·simp only [h1, decide_false, Bool.false_and, Bool.and_false]
theorem zK5 (cs : List Value) (x : zAE) (w : World) (h : zAn.rd w cs x) :
    Calls Tryz.prog 98 #[zAM cs] w fun e w' => e = .returned (.bool (decide (x.2.2.1 < (x.2.1.length : Int)))) ∧ Below w.heap.size w w' := by
 obtain ⟨v0, v1, v2, v5, v6, v7, v8, rfl, r0, r1, i2, i3, r4, r5⟩ := zCs h
 obtain ⟨a1, c1, e1, k1, k2, -⟩ := r1
 simp only [List.cons.injEq, and_true] at e1
 obtain rfl := e1
 have hp63 : x.2.1.length ≤ 9223372036854775807 := Nat.le_trans k1 k2
 clear h r0 r4 r5 k1 k2
 change Calls Tryz.prog 98 #[.agg #[v0, v1, .slice a1 x.2.1.length c1, .int .i64 x.2.2.1, .int .i64 x.2.2.2.1, v5, v6, v7, v8]] w _
 have X := zAy w (.cells #[v0, v1, .slice a1 x.2.1.length c1, .int .i64 x.2.2.1, .int .i64 x.2.2.2.1, v5, v6, v7, v8] 41)
 have B := zAf w (.cells #[v0, v1, .slice a1 x.2.1.length c1, .int .i64 x.2.2.1, .int .i64 x.2.2.2.1, v5, v6, v7, v8] 41)
 have HB : Hid _ := B
 clear B
 by_cases hq : x.2.2.1 < (x.2.1.length : Int)
 all_goals
  go_enter Tryz.func98, Tryz.ntmps98
  obtain ⟨y0, y1, y2, y3, y4, y5, y6, y7, y8⟩ := zAc X
  clear X
  go_wp2
  go_ret
  exact ⟨by simp [hq], HB.out⟩
theorem zK6 (cs : List Value) (x : zAE) (w : World) (h : zAn.rd w cs x) :
    Calls Tryz.prog 66 #[zAM cs] w fun e w' => e = .returned (.bool (zHI x)) ∧ Below w.heap.size w w' := by
 obtain ⟨v0, v1, v2, v5, v6, v7, v8, rfl, r0, r1, i2, i3, r4, r5⟩ := zCs h
 obtain ⟨a1, c1, e1, k1, k2, -⟩ := r1
 simp only [List.cons.injEq, and_true] at e1
 obtain rfl := e1
 obtain ⟨a5, c5, e5, m1, m2, -⟩ := r5
 simp only [List.cons.injEq, and_true] at e5
 obtain rfl := e5
 have hp63 : x.2.1.length ≤ 9223372036854775807 := Nat.le_trans k1 k2
 have ht63 : x.2.2.2.2.2.length ≤ 9223372036854775807 := Nat.le_trans m1 m2
 clear h r0 r4 k1 k2 m1 m2
 change Calls Tryz.prog 66 #[.agg #[v0, v1, .slice a1 x.2.1.length c1, .int .i64 x.2.2.1, .int .i64 x.2.2.2.1, v5, v6, v7, .slice a5 x.2.2.2.2.2.length c5]] w _
 have X := zAy w (.cells #[v0, v1, .slice a1 x.2.1.length c1, .int .i64 x.2.2.1, .int .i64 x.2.2.2.1, v5, v6, v7, .slice a5 x.2.2.2.2.2.length c5] 41)
 have B := zAf w (.cells #[v0, v1, .slice a1 x.2.1.length c1, .int .i64 x.2.2.1, .int .i64 x.2.2.2.1, v5, v6, v7, .slice a5 x.2.2.2.2.2.length c5] 41)
 unfold zHI
 have HB : Hid _ := B
 clear B
 have hc : ((x.2.2.2.2.2.length : Int) == x.2.2.1) = decide ((x.2.2.2.2.2.length : Int) = x.2.2.1) := rfl
 cases h1 : zAQ x.2.2.1 0 x.2.1.length
 all_goals
  go_enter Tryz.func66, Tryz.ntmps66
  obtain ⟨y0, y1, y2, y3, y4, y5, y6, y7, y8⟩ := zAc X
  clear X
  go_wp2_with fail
  refine (zBe _ _ _ _).mono ?_
  rintro e w1 ⟨rfl, h⟩
  rw [h, h1]
  clear h w1
 ·go_wp2
  go_ret
  exact ⟨rfl, HB.out⟩
 ·by_cases hq : (x.2.2.2.2.2.length : Int) = x.2.2.1
  ·have hq' : ((x.2.2.2.2.2.length : Int) == x.2.2.1) = true := by simp [hq]
   go_wp2
   go_ret
   exact ⟨by simp [hq], HB.out⟩
  ·have hq' : ((x.2.2.2.2.2.length : Int) == x.2.2.1) = false := by simp [hq]
   go_wp2
   go_ret
   exact ⟨by simp [hq], HB.out⟩
theorem zMf {c : zAu} (h : OkC isL zAJ c) (k : Int) : (zCr c k).2.2 = !decide (atC c k = none) := by
 rw [zE8 h]
 cases hb : zAQ k 0 15
 ·rw [at_out h hb]; rfl
 ·cases atC c k <;> rfl
theorem zK7 (cs : List Value) (x : zAE) (w : World) (hok : OkC isL zAJ x.1) (h : zAn.rd w cs x) :
    Calls Tryz.prog 67 #[zAM cs] w fun e w' => e = .returned (.bool (zHJ x)) ∧ Below w.heap.size w w' := by
 have KH : Hid (∀ W, Below w.heap.size w W → Calls Tryz.prog 98 #[zAM cs] W fun e w' => e = .returned (.bool (decide (x.2.2.1 < (x.2.1.length : Int)))) ∧ Below W.heap.size W w') := fun W hb => zK5 cs x W (zAN h hb)
 obtain ⟨v0, v1, v2, v5, v6, v7, v8, rfl, r0, r1, i2, i3, r4, r5⟩ := zCs h
 have KE : Hid (∀ W, Below w.heap.size w W → Calls Tryz.prog 94 #[.agg #[v5, v6, v7]] W fun e w' => e = .returned (.bool (zB7 x.2.2.2.2.1)) ∧ Below W.heap.size W w') := fun W hb => zK3 [v5, v6, v7] _ W (zAN r4 hb)
 have KF : Hid (∀ W, Below w.heap.size w W → Calls Tryz.prog 96 #[.agg #[v5, v6, v7]] W fun e w' => e = .returned (.bool (zBi isL x.2.2.2.2.1)) ∧ Below W.heap.size W w') := fun W hb => zMe [v5, v6, v7] _ W (zAN r4 hb)
 have KG : Hid (∀ W, Below w.heap.size w W → Calls Tryz.prog 97 #[.agg #[v5, v6, v7]] W fun e w' => e = .returned (.bool (zEf x.2.2.2.2.1)) ∧ Below W.heap.size W w') := fun W hb => zK4 [v5, v6, v7] _ W (zAN r4 hb)
 have KT : Hid (∀ W, Below w.heap.size w W → Calls Tryz.prog 95 #[.agg #[v0, v1], .int .i64 x.2.2.2.2.1.1] W fun e w' => e = .returned (.tuple #[.agg #[.int .i64 (zCr x.1 x.2.2.2.2.1.1).1, .int .i64 (zCr x.1 x.2.2.2.2.1.1).2.1], .bool (!decide (atC x.1 x.2.2.2.2.1.1 = none))]) ∧ Below W.heap.size W w') := fun W hb => by
  have := zFI [v0, v1] x.1 x.2.2.2.2.1.1 W hok (zAN r0 hb)
  rw [zMf hok] at this
  exact this
 obtain ⟨ad, cpw, e4, -, -, -, -, -⟩ := zAL r4
 simp only [List.cons.injEq, and_true] at e4
 obtain ⟨rfl, rfl, rfl⟩ := e4
 clear h r0 r1 r4 r5 hok
 unfold zHJ
 change Calls Tryz.prog 67 #[.agg #[v0, v1, v2, .int .i64 x.2.2.1, .int .i64 x.2.2.2.1, .int .i64 x.2.2.2.2.1.1, .int .i64 x.2.2.2.2.1.2.1, .slice ad x.2.2.2.2.1.2.2.length cpw, v8]] w _
 rw [show zAM [v0, v1, v2, .int .i64 x.2.2.1, .int .i64 x.2.2.2.1, .int .i64 x.2.2.2.2.1.1, .int .i64 x.2.2.2.2.1.2.1, .slice ad x.2.2.2.2.1.2.2.length cpw, v8] = .agg #[v0, v1, v2, .int .i64 x.2.2.1, .int .i64 x.2.2.2.1, .int .i64 x.2.2.2.2.1.1, .int .i64 x.2.2.2.2.1.2.1, .slice ad x.2.2.2.2.1.2.2.length cpw, v8] from rfl] at KH
 generalize decide (x.2.2.1 < (x.2.1.length : Int)) = hp at KH ⊢
 generalize zB7 x.2.2.2.2.1 = cl at KE ⊢
 generalize zBi isL x.2.2.2.2.1 = fu at KF ⊢
 generalize zEf x.2.2.2.2.1 = go at KG ⊢
 generalize hat : decide (atC x.1 x.2.2.2.2.1.1 = none) = an at KT ⊢
 clear hat
 generalize zCr x.1 x.2.2.2.2.1.1 = fp at KT
 have X := zAy w (.cells #[v0, v1, v2, .int .i64 x.2.2.1, .int .i64 x.2.2.2.1, .int .i64 x.2.2.2.2.1.1, .int .i64 x.2.2.2.2.1.2.1, .slice ad x.2.2.2.2.1.2.2.length cpw, v8] 41)
 have B := zAf w (.cells #[v0, v1, v2, .int .i64 x.2.2.1, .int .i64 x.2.2.2.1, .int .i64 x.2.2.2.2.1.1, .int .i64 x.2.2.2.2.1.2.1, .slice ad x.2.2.2.2.1.2.2.length cpw, v8] 41)
 generalize x.2.2.2.1 = ph at *
 have HI : ∀ b c d : Bool, (if ph = 0 then b else if ph = 1 then c else if ph = 2 then d else false) = (if ph = 0 then b else if ph = 1 then c else if ph = 2 then d else false) := fun _ _ _ => rfl
 clear HI
 go_enter Tryz.func67, Tryz.ntmps67
 obtain ⟨y0, y1, y2, y3, y4, y5, y6, y7, y8⟩ := zAc X
 by_cases p0 : ph = 0
 ·subst p0
  rw [if_pos rfl]
  go_wp2_with fail
  refine (KE.out _ B).mono ?_
  rintro e w1 ⟨rfl, b1⟩
  go_wp2
  go_ret
  exact ⟨rfl, zAb B b1⟩
 ·have p0' : (ph == 0) = false := by simp [p0]
  rw [if_neg p0]
  by_cases p1 : ph = 1
  ·subst p1
   rw [if_pos rfl]
   go_wp2_with fail
   generalize w.alloc (.cells #[v0, v1, v2, .int .i64 x.2.2.1, .int .i64 1, .int .i64 x.2.2.2.2.1.1, .int .i64 x.2.2.2.2.1.2.1, .slice ad x.2.2.2.2.1.2.2.length cpw, v8] 41) = W0 at X B ⊢
   refine (KT.out _ B).mono ?_
   rintro e w1 ⟨rfl, b1⟩
   replace X := zAK (.cells #[.int .i64 fp.1, .int .i64 fp.2.1] 126) (zAa b1 X)
   replace B := zAb (zAb B b1) (zAf w1 (.cells #[.int .i64 fp.1, .int .i64 fp.2.1] 126))
   clear b1 KT y0 y1 y2 y3 y4 y5 y6 y7 y8
   obtain ⟨y0, y1, y2, y3, y4, y5, y6, y7, y8⟩ := zAc X
   cases an
   ·clear X
    go_wp2
    go_ret
    exact ⟨rfl, B⟩
   ·go_wp2_with fail
    generalize w1.alloc (.cells #[.int .i64 fp.1, .int .i64 fp.2.1] 126) = W1 at X B ⊢
    refine (KF.out _ B).mono ?_
    rintro e w2 ⟨rfl, b2⟩
    replace X := zAa b2 X
    replace B := zAb B b2
    clear b2 KF y0 y1 y2 y3 y4 y5 y6 y7 y8
    obtain ⟨y0, y1, y2, y3, y4, y5, y6, y7, y8⟩ := zAc X
    cases fu
    ·go_wp2_with fail
     refine (KG.out _ B).mono ?_
     rintro e w3 ⟨rfl, b3⟩
     replace B := zAb B b3
     clear X b3 y0 y1 y2 y3 y4 y5 y6 y7 y8
     go_wp2
     go_ret
     exact ⟨rfl, B⟩
    ·clear X
     go_wp2
     go_ret
     exact ⟨rfl, B⟩
  ·have p1' : (ph == 1) = false := by simp [p1]
   rw [if_neg p1]
   by_cases p2 : ph = 2
   ·subst p2
    rw [if_pos rfl]
    go_wp2_with fail
    refine (KE.out _ B).mono ?_
    rintro e w1 ⟨rfl, b1⟩
    replace X := zAa b1 X
    replace B := zAb B b1
    clear b1 y0 y1 y2 y3 y4 y5 y6 y7 y8
    obtain ⟨y0, y1, y2, y3, y4, y5, y6, y7, y8⟩ := zAc X
    cases cl
    ·clear X
     go_wp2
     go_ret
     exact ⟨rfl, B⟩
    ·go_wp2_with fail
     refine (KH.out _ B).mono ?_
     rintro e w2 ⟨rfl, b2⟩
     clear X y0 y1 y2 y3 y4 y5 y6 y7 y8
     go_wp2
     go_ret
     exact ⟨rfl, zAb B b2⟩
   ·have p2' : (ph == 2) = false := by simp [p2]
    rw [if_neg p2]
    clear X
    go_wp2
    go_ret
    exact ⟨rfl, B⟩
theorem zJz (cs : List Value) (x : zAE) (w : World) (h : zAn.rd w cs x) :
    Calls Tryz.prog 30 #[zAM cs] w fun e w' => e = .returned (.bool (zAZ x)) ∧ Below w.heap.size w w' := by
 rw [core_all]
 have KL : Hid (∀ W, Below w.heap.size w W → Calls Tryz.prog 66 #[zAM cs] W fun e w' => e = .returned (.bool (zHI x)) ∧ Below W.heap.size W w') := fun W hb => zK6 cs x W (zAN h hb)
 have KP : Hid (∀ W, okB isL zAJ x.1 = true → Below w.heap.size w W → Calls Tryz.prog 67 #[zAM cs] W fun e w' => e = .returned (.bool (zHJ x)) ∧ Below W.heap.size W w') := fun W hk hb => zK7 cs x W (zCK.1 hk) (zAN h hb)
 obtain ⟨v0, v1, v2, v5, v6, v7, v8, rfl, r0, r1, i2, i3, r4, r5⟩ := zCs h
 have KC : Hid (∀ W, Below w.heap.size w W → Calls Tryz.prog 64 #[.agg #[v0, v1]] W fun e w' => e = .returned (.bool (okB isL zAJ x.1)) ∧ Below W.heap.size W w') := fun W hb => zIB [v0, v1] _ W (zAN r0 hb)
 have KO : Hid (∀ W, Below w.heap.size w W → Calls Tryz.prog 65 #[v2] W fun e w' => e = .returned (.bool (zMd x.2.1)) ∧ Below W.heap.size W w') := fun W hb => by
  obtain ⟨a1, c1, e1, k1, k2, q⟩ := zAN r1 hb
  simp only [List.cons.injEq, and_true] at e1
  obtain rfl := e1
  exact zID _ _ _ W q (Nat.le_trans k1 k2)
 clear h r0 r1 r4 r5
 rw [show zAM [v0, v1, v2, .int .i64 x.2.2.1, .int .i64 x.2.2.2.1, v5, v6, v7, v8] = .agg #[v0, v1, v2, .int .i64 x.2.2.1, .int .i64 x.2.2.2.1, v5, v6, v7, v8] from rfl] at KL KP ⊢
 generalize zHI x = pl at KL ⊢
 generalize zHJ x = pb at KP ⊢
 generalize zMd x.2.1 = pr at KO ⊢
 generalize okB isL zAJ x.1 = ok at KC KP ⊢
 have X := zAy w (.cells #[v0, v1, v2, .int .i64 x.2.2.1, .int .i64 x.2.2.2.1, v5, v6, v7, v8] 41)
 have B := zAf w (.cells #[v0, v1, v2, .int .i64 x.2.2.1, .int .i64 x.2.2.2.1, v5, v6, v7, v8] 41)
 go_enter Tryz.func30, Tryz.ntmps30
 obtain ⟨y0, y1, y2, y3, y4, y5, y6, y7, y8⟩ := zAc X
 go_wp2_with fail
 generalize w.alloc (.cells #[v0, v1, v2, .int .i64 x.2.2.1, .int .i64 x.2.2.2.1, v5, v6, v7, v8] 41) = W0 at X B ⊢
 refine (KC.out _ B).mono ?_
 rintro e w1 ⟨rfl, b1⟩
 replace X := zAa b1 X
 replace B := zAb B b1
 clear b1 KC y0 y1 y2 y3 y4 y5 y6 y7 y8
 obtain ⟨y0, y1, y2, y3, y4, y5, y6, y7, y8⟩ := zAc X
 cases ok
 ·clear X
  go_wp2
  go_ret
  exact ⟨rfl, B⟩
 go_wp2_with fail
 refine (KO.out _ B).mono ?_
 rintro e w2 ⟨rfl, b1⟩
 replace X := zAa b1 X
 replace B := zAb B b1
 clear b1 KO y0 y1 y2 y3 y4 y5 y6 y7 y8
 obtain ⟨y0, y1, y2, y3, y4, y5, y6, y7, y8⟩ := zAc X
 cases pr
 ·clear X
  go_wp2
  go_ret
  exact ⟨rfl, B⟩
 go_wp2_with fail
 refine (KL.out _ B).mono ?_
 rintro e w3 ⟨rfl, b1⟩
 replace X := zAa b1 X
 replace B := zAb B b1
 clear b1 KL y0 y1 y2 y3 y4 y5 y6 y7 y8
 obtain ⟨y0, y1, y2, y3, y4, y5, y6, y7, y8⟩ := zAc X
 cases pl
 ·clear X
  go_wp2
  go_ret
  exact ⟨rfl, B⟩
 go_wp2_with fail
 refine (KP.out _ (by first | rfl | trivial) B).mono ?_
 rintro e w4 ⟨rfl, b1⟩
 replace B := zAb B b1
 clear b1 KP X y0 y1 y2 y3 y4 y5 y6 y7 y8
 go_wp2
 go_ret
 exact ⟨rfl, B⟩
theorem zJ0 {α : Type} {R : Rep α} {w : World} {ad : Addr} {xs : List α} (h : zBh R w (some ad) xs) : ∃ rows, lrd R w rows xs ∧ ∀ j u, rows[j]? = some u → w.cell? (ad.add j) = some u := by
 rcases h with rfl | ⟨b, off, rows, ha, hr, hc⟩
 ·exact ⟨[], rfl, by simp⟩
 ·simp only [Option.some.injEq] at ha
  subst ha
  exact ⟨rows, hr, fun j u hj => by rw [show (⟨b, off, none⟩ : Addr).add j = ⟨b, off + j, none⟩ from by simp [Addr.add]]; exact hc j u hj⟩
theorem Tryz.infoOps : (Tryz.prog.info? 85).map (fun i => (i.zero, i.size, i.bytes)) = some (some (.agg #[.int .i64 0, .int .i64 0, .int .i64 0, .int .i64 0]), 4, 32) := by kernel_rfl
theorem zGs {w w' : World} {S : zAX} : ∀ {rows : List Value} {xs : List OpD}, lrd opR w rows xs → zHi opR w' S rows xs ∧ (∀ u ∈ rows, u.oneCell' = true) ∧ rows.length = xs.length * 4
 | rows, [], h => by
  have : rows = [] := h
  subst this
  exact ⟨rfl, by simp, rfl⟩
 | rows, x :: r, h => by
  obtain ⟨c1, c2, rfl, h1, h2⟩ := h
  obtain ⟨q1, q2, q3⟩ := zGs (w' := w') (S := S) h2
  obtain ⟨rfl, h4⟩ := op_rd h1
  refine ⟨⟨_, c2, fun _ => False, S, rfl, zHF h4, q1, fun _ h => h.elim, Sub.refl _, fun _ h _ => h⟩, ?_, ?_⟩
  ·intro u hu
   rcases List.mem_append.1 hu with hu | hu
   ·simp only [List.mem_cons, List.not_mem_nil, or_false] at hu
    rcases hu with rfl | rfl | rfl | rfl <;> rfl
   ·exact q2 u hu
  ·rw [List.length_append, q3]
   simp
   omega
theorem zLq {w w0 w1 : World} {v' : Value} {o : Obj} {rows : List Value} {xs : List OpD} (hr : lrd opR w0 rows xs) (h : w1.ownsRow w.heap.size 85 4 v' xs.length rows)
    (hg : (w.alloc o).grownBy w1 (Value.slice (some ⟨w.heap.size, 0, none⟩) 0 0).ownBlock) (hv : v' ≠ .slice none 0 0) : zAY zBX w w1 [v'] xs := by
 obtain ⟨q1, q2, q3⟩ := zGs (w' := w1) (S := fun _ => False) hr
 have hb : Below w.heap.size w w1 := ((Below.refl _ _).alloc (Nat.le_refl _) _).grown hg (by simp) (by
  intro r hr
  simp [Value.ownBlock] at hr
  omega)
 refine ⟨⟨v', rows, fun _ => False, rfl, zDr h (fun _ _ => Nat.zero_le _), fun g hg' => ⟨?_, fun h => h⟩, fun _ h => h.elim, q1⟩, hb⟩
 exact World.ownsRow.lt h g hg'
theorem zN6 (v : Value) (d : List OpD) (w : World) (h : zBX.rd w [v] d) (hm : d.length ≤ 1048576) :
    Calls Tryz.prog 70 #[v] w fun e w' => ∃ v', e = .returned v' ∧ zAY zBX w w' [v'] d := by
 obtain ⟨a, cap, e0, l1, l2, hs⟩ := h
 simp only [List.cons.injEq, and_true] at e0
 subst e0
 cases a with
 | some ad =>
  obtain ⟨rows, hr, hc⟩ := zJ0 hs
  obtain ⟨q1, q2, q3⟩ := zGs (w' := w) (S := fun _ => False) hr
  obtain ⟨i0, hi, hz0, hz1, hz2⟩ := info_parts Tryz.infoOps
  have hown : (w.alloc (.cells #[] 85)).ownsRow w.heap.size 85 4 (.slice (some ⟨w.heap.size, 0, none⟩) 0 0) 0 [] := World.ownsRow_lit _ #[] 0 (Nat.le_refl _) (Nat.zero_le _) rfl
  have HR : Hid (lrd opR w rows d) := hr
  have he := fun W => Go.Lib.run_eql_slice_nil (P := Tryz.prog) W 38 85 (some ad) d.length cap 0 0 Tryz.underlying38
  have HC : Hid (∀ j u, rows[j]? = some u → (w.alloc (.cells #[] 85)).cell? (ad.add j) = some u) := fun j u hj => by
   have g0 := hc j u hj
   exact (World.cell?_of_block (Below.heap_alloc w (.cells #[] 85) _ (World.block_lt_of_cell? w _ g0))).trans g0
  clear hs hr q1 hc
  go_enter Tryz.func70, Tryz.ntmps70
  go_wp2_with (at_builtin; refine wpList_append_own _ rfl _ _ 38 rfl w.heap.size 85 i0 (.agg #[.int .i64 0, .int .i64 0, .int .i64 0, .int .i64 0]) 4 32 Tryz.underlying38 hi hz0 hz1 hz2 rfl (by decide) _ _ _ rfl hown ad d.length cap rows rfl q3 HC.out q2 ?c3 ?c4 ?c5 ?_)
  case c3 => unfold maxLen; omega
  case c4 => omega
  case c5 => simp
  ·intro v' w1 hown' hgrow hnil
   have hv : v' ≠ .slice none 0 0 := hnil
   have hown'' : w1.ownsRow w.heap.size 85 4 v' d.length rows := by simpa using hown'
   have HH : Hid _ := zLq (w := w) HR.out hown'' hgrow hv
   clear hown' hgrow hnil hown hown'' hv
   go_wp2
   go_ret
   exact ⟨_, rfl, HH.out⟩
 | none =>
  obtain rfl : d = [] := by
   rcases hs with h | ⟨b, off, rows, ha, _⟩
   ·exact h
   ·cases ha
  rw [show ([] : List OpD).length = 0 from rfl]
  have he := fun W => Go.Lib.run_eql_slice_nil (P := Tryz.prog) W 38 85 none 0 cap 0 0 Tryz.underlying38
  go_enter Tryz.func70, Tryz.ntmps70
  go_wp2
  go_ret
  exact ⟨_, rfl, ⟨_, [], fun _ => False, rfl, World.ownsRow_nil _ _ _ _, fun g hg => by simp [Value.ownBlock] at hg, fun _ h => h.elim, rfl⟩, Below.refl _ w⟩
theorem zMg {V : World} {ops : Array Oper} {rest : List Oper} {o : Oper} {a : Act} {Q : Exit → Act → World → Prop} (hgd : o.guard = none) (s x : Operand)
    (ho : o.op = .call { callee := .builtin .append, args := #[s, x], argTypes := #[38, 38] }) (v : Value) (d : List OpD) (hs : a.eval s = .slice (some ⟨V.heap.size, 0, none⟩) 0 0) (hx : a.eval x = v) (h : zBX.rd V [v] d) (hm : d.length ≤ 1048576)
    (k : ∀ v' w', zAY zBX V w' [v'] d → wpList Tryz.prog ops Q rest (a.put o.dst v') w') : wpList Tryz.prog ops Q (o :: rest) a (V.alloc (.cells #[] 85)) := by
 obtain ⟨i0, hi, hz0, hz1, hz2⟩ := info_parts Tryz.infoOps
 have hown : (V.alloc (.cells #[] 85)).ownsRow V.heap.size 85 4 (.slice (some ⟨V.heap.size, 0, none⟩) 0 0) 0 [] := World.ownsRow_lit _ #[] 0 (Nat.le_refl _) (Nat.zero_le _) rfl
 obtain ⟨ad, cap, e0, l1, l2, hsl⟩ := h
 simp only [List.cons.injEq, and_true] at e0
 subst e0
 cases ad with
 | none =>
  obtain rfl : d = [] := by
   rcases hsl with h | ⟨b, off, rows, ha, _⟩
   ·exact h
   ·cases ha
  exact zCG hgd s x 38 ho V.heap.size 85 i0 4 Tryz.underlying38 hi cap _ 0 [] hs hown hx (k _ _ ⟨(show zBX.own (V.alloc (.cells #[] 85)) (rng V.heap.size (V.alloc (.cells #[] 85)).heap.size) [.slice (some ⟨V.heap.size, 0, none⟩) 0 0] [] from ⟨_, [], fun _ => False, rfl, zDr hown (fun _ _ => Nat.zero_le _), fun g hg => ⟨World.ownsRow.lt hown g hg, fun h => h⟩, fun _ h => h.elim, rfl⟩), zAf V _⟩)
 | some ad =>
  obtain ⟨rows, hr, hc⟩ := zJ0 hsl
  obtain ⟨q1, q2, q3⟩ := zGs (w' := V) (S := fun _ => False) hr
  refine wpList_append_own _ hgd s x 38 ho V.heap.size 85 i0 (.agg #[.int .i64 0, .int .i64 0, .int .i64 0, .int .i64 0]) 4 32 Tryz.underlying38 hi hz0 hz1 hz2 rfl (by decide) _ 0 [] hs hown ad d.length cap rows hx q3 (fun j u hj => ?_) q2 (by unfold maxLen; omega) (by omega) (by simp) (fun v' w1 hown' hgrow hnil => ?_)
  ·have g0 := hc j u hj
   exact (World.cell?_of_block (Below.heap_alloc V (.cells #[] 85) _ (World.block_lt_of_cell? V _ g0))).trans g0
  ·have hv : v' ≠ .slice none 0 0 := fun e => by have := (hnil.1 e).1; cases this
   have hown'' : w1.ownsRow V.heap.size 85 4 v' d.length rows := by simpa using hown'
   exact k v' w1 (zLq (w := V) hr hown'' hgrow hv)
variable {α : Type}
def zAo (w : World) (g : Nat) : Nat → List Value → World
 | _, [] => w
 | o, v :: vs => zAo (w.setCell ⟨g, o, none⟩ v) g (o + 1) vs
def putA (cs : Array Value) : Nat → List Value → Array Value
 | _, [] => cs
 | o, v :: vs => putA (cs.setIfInBounds o v) (o + 1) vs
theorem zAC {g : Nat} {t : TypeId} : ∀ (vs : List Value) (o : Nat) {w : World} {cs : Array Value}, w.heap[g]? = some (.cells cs t (0, 0)) → (zAo w g o vs).heap[g]? = some (.cells (putA cs o vs) t (0, 0))
 | [], _, _, _, h => h
 | v :: vs, o, w, cs, h => zAC vs (o + 1) (heap_setCell_same w g o cs t v h)
theorem zBU {g : Nat} : ∀ (vs : List Value) (o : Nat) (w : World), Chg (fun k => k = g) w (zAo w g o vs)
 | [], _, w => Chg.refl _ w
 | v :: vs, o, w => (show Chg (fun k => k = g) w (w.setCell ⟨g, o, none⟩ v) from ⟨rfl, rfl, rfl, by simp, fun k hk hn => heap_setCell_other w ⟨g, o, none⟩ k v hn⟩).trans (zBU vs (o + 1) _)
theorem zAj {g : Nat} : ∀ (vs : List Value) (o : Nat) (w : World), (zAo w g o vs).heap.size = w.heap.size
 | [], _, _ => rfl
 | v :: vs, o, w => (zAj vs (o + 1) _).trans (by simp)
theorem zK8 {a w : World} {B g o : Nat} {vs : List Value} (h : Below B a w) (hB : B ≤ w.heap.size) (hg : B ≤ g) : Below B a (zAo w g o vs) :=
 (zBU vs o w).below h (fun k hk => by have : k = g := hk; omega) hB
theorem zAv {a w : World} {g o : Nat} {vs : List Value} (h : Below a.heap.size a w) (hg : a.heap.size ≤ g) : Below a.heap.size a (zAo w g o vs) := zK8 h h.size hg
theorem zAk {w : World} {k g o : Nat} {vs : List Value} {ob : Obj} (h : w.heap[k]? = some ob) (hn : k ≠ g) : (zAo w g o vs).heap[k]? = some ob :=
 ((zBU vs o w).block k (Array.getElem?_eq_some_iff.1 h).1 hn).trans h
theorem zAs {R : Rep α} {w : World} {S : zAX} {cs : List Value} {x : α} {g o : Nat} {vs : List Value} (h : R.own w S cs x) (hg : ¬ S g) : R.own (zAo w g o vs) S cs x :=
 zAO h (zBU vs o w) fun k hk e => by have e' : k = g := e; subst e'; exact hg hk
theorem zAw {R : Rep α} {w : World} {lo hi : Nat} {cs : List Value} {x : α} {g o : Nat} {vs : List Value} (h : zCp R lo hi w cs x) (hg : g < lo ∨ hi ≤ g) : zCp R lo hi (zAo w g o vs) cs x :=
 ⟨zAs h.1 fun hk => by have := hk.1; have := hk.2; omega, by rw [zAj]; exact h.2⟩
theorem zFJ {e : TypeId} {R : Rep α} {w : World} {S : zAX} {cs : List Value} {x : α} (hs : 0 < R.size) (h : R.own w S cs x) (hS : ∀ k, S k → k < w.heap.size) : (slR e R).own (w.alloc (.cells cs.toArray e)) (fun k => S k ∨ k = w.heap.size) [.slice (some ⟨w.heap.size, 0, none⟩) 1 1] [x] := by
 have hl := R.rd_len (R.own_rd h)
 refine ⟨_, cs, S, rfl, World.ownsRow_lit w cs.toArray 1 (Nat.zero_le _) (by decide) (by simp [hl]), fun g hg => ?_, fun k hk => .inl hk, ⟨cs, [], S, fun _ => False, by simp, zBQ _ h, rfl, Sub.refl _, fun _ h => h.elim, fun _ _ h => h⟩⟩
 simp [Value.ownBlock] at hg
 subst hg
 exact ⟨.inr rfl, fun hk => Nat.lt_irrefl _ (hS _ hk)⟩
theorem zC3 {e : TypeId} {R : Rep α} (w : World) : (slR e R).own (w.alloc (.cells #[] e)) (fun k => k = w.heap.size) [.slice (some ⟨w.heap.size, 0, none⟩) 0 0] [] := by
 refine ⟨_, [], fun _ => False, rfl, World.ownsRow_lit w #[] 0 (Nat.zero_le _) (by decide) (by simp), fun g hg => ?_, fun _ h => h.elim, rfl⟩
 simp [Value.ownBlock] at hg
 subst hg
 exact ⟨rfl, fun h => h⟩
end Go.Proofs.YtoihjejenjcokaaGreatDoor
