import Derived.Test.YtglejdilghcbaaaGreatDoorP00Box
import Derived.Test.YtglejdilghcbaaaGreatDoorP22
import Derived.Deep.RegionHeld3
import Derived.Lib.SliceRun
import Derived.Deep.RegionLaw
import Derived.Deep.CutBlock
namespace Go.Proofs.YtglejdilghcbaaaGreatDoor
set_option maxHeartbeats 4000000
open Go.ChangeShapes Go.WideShapes Go.ChangeAt Go.RowKit
set_option linter.unusedVariables false
section
variable {α : Type}
end
section
variable {α : Type}
end
open Go.ChangeShapes Go.WideShapes Go.ChangeAt Go.RowKit Go.Shelf
theorem cs1 {w : World} {g b o k : Nat} {u v : Value} (hne : ¬ (b = g)) (h : w.cell? ⟨b, k, none⟩ = some u) : (w.setCell ⟨g, o, none⟩ v).cell? ⟨b, k, none⟩ = some u :=
 (World.cell?_of_block (w := w) (a := ⟨b, k, none⟩) (heap_setCell_other w ⟨g, o, none⟩ b v hne)).trans h
open Go.RowKit
section
variable {P : Program} {C : World → Prop} {l : List Oper} {o : Oper}
end
attribute [local go_sem] Oper.semAt_some
section
variable {W0 wx : World} {b0 o0 o1 : Nat} {u v : Value}
end
theorem implCacheOk_u (cs : List Value) (c : CacheD) (w : World) (h : cacheR.rd w cs c) :
    Calls Tryz.prog 180 #[aggV cs] w fun e w' => e = .returned (.bool (okB isL treeB c)) ∧ Bl w w' := by
 obtain ⟨a, d, b, j, rfl, i, g, l, k, f, m⟩ := cache_rd h;exact implCacheOk_any a b c d j w f m (Nat.le_trans i g) (Nat.le_trans l k) (rows_len f)
theorem implFind_u (cs : List Value) (c : CacheD) (k : Int) (w : World) (hok : OkC isL treeB c) (h : cacheR.rd w cs c) :
    Calls Tryz.prog 215 #[aggV cs, nI k] w fun e w' => e = .returned (.tuple #[.agg #[nI (findP c k).1, nI (findP c k).2.1], .bool (findP c k).2.2]) ∧ Bl w w' := by
 obtain ⟨a, d, b, f, rfl, l1, l2, m1, m2, g, r2⟩ := cache_rd h;exact implFind_any a b c d f k w hok g
theorem implEmpty_u (us : List Value) (u : WayD) (w : World) (h : wayR.rd w us u) :
    Calls Tryz.prog 214 #[aggV us] w fun e w' => e = .returned (.bool (clearB u)) ∧ Bl w w' := by
 obtain ⟨ad, a, rfl, i1, i2, c, b, k3⟩ := way_rd h;rw [← clr_eq];exact implEmpty_any _ _ _ _ _ w (Nat.le_trans c b)
theorem implFull_u (us : List Value) (u : WayD) (w : World) (h : wayR.rd w us u) :
    Calls Tryz.prog 216 #[aggV us] w fun e w' => e = .returned (.bool (fullB isL u)) ∧ Bl w w' := by
 obtain ⟨ad, a, rfl, i1, i2, k1, k2, b⟩ := way_rd h;exact implFull_any _ _ _ _ _ w b
theorem implLetGo_u (us : List Value) (u : WayD) (w : World) (h : wayR.rd w us u) :
    Calls Tryz.prog 217 #[aggV us] w fun e w' => e = .returned (.bool (goneB u)) ∧ Bl w w' := by
 obtain ⟨f, a, rfl, i1, i2, k, j, o⟩ := way_rd h;have l : u.2.2.length ≤ 9223372036854775807 := Nat.le_trans k j;clear h k j o;have X := heap_at w (.cells #[nI u.1, nI u.2.1, sL f u.2.2.length a] 64);have B := box_below w (.cells #[nI u.1, nI u.2.1, sL f u.2.2.length a] 64);change Calls Tryz.prog 217 #[.agg #[nI u.1, nI u.2.1, sL f u.2.2.length a]] w _
 unfold goneB;generalize u.2.2.length = n at *;have HB : Hid (∀ b : Bool, b = betw u.1 0 15 → betw u.1 0 15 = b) := fun b e => e.symm;cases q : betw u.1 0 15
 all_goals
  go_enter Tryz.func217, Tryz.ntmps217;go_wp2_with fail
  generalize w.alloc (.cells #[nI u.1, nI u.2.1, sL f n a] 64) = W0 at X B ⊢;refine (lineNumberOk_any _ _).mono ?_;rintro e r ⟨rfl, h⟩;rw [h, q];clear h r;obtain ⟨s, m, p⟩ := cells_three X
 ·clear X s m p;go_wp2;go_ret
  exact ⟨rfl, B⟩
 ·by_cases c : u.2.1 = 0
  ·have i : (u.2.1 == 0) = true := by simp [c]
   by_cases d : n = 0
   ·have g : ((n : Int) == 0) = true := by simp [d]
    clear X;go_wp2;go_ret
    exact ⟨by simp [c, d], B⟩
   ·have g : ((n : Int) == 0) = false := by simp [d]
    clear X;go_wp2;go_ret
    exact ⟨by simp [c, d], B⟩
  ·have i : (u.2.1 == 0) = false := by simp [c]
   clear X;go_wp2;go_ret
   exact ⟨by simp [c], B⟩
def placeB (x : CoreD) : Bool := betw x.2.2.1 0 x.2.1.length && decide ((x.2.2.2.2.2.length : Int) = x.2.2.1)
noncomputable def phaseB (x : CoreD) : Bool := if x.2.2.2.1 = 0 then clearB x.2.2.2.2.1 else if x.2.2.2.1 = 1 then decide (atC x.1 x.2.2.2.2.1.1 = none) && (fullB isL x.2.2.2.2.1 || goneB x.2.2.2.2.1) else if x.2.2.2.1 = 2 then clearB x.2.2.2.2.1 && decide (x.2.2.1 < (x.2.1.length : Int)) else false
theorem core_all (x : CoreD) : coreB x = (okB isL treeB x.1 && (progB x.2.1 && (placeB x && phaseB x))) := by
 unfold coreB progB placeB phaseB restC;cases okB isL treeB x.1
 ·rfl
 by_cases d : x.2.1.length ≤ 30
 ·simp only [d, decide_true, Bool.true_and];cases g : betw x.2.2.1 0 x.2.1.length
  ·cases x.2.1.all opOkD <;> rfl
  ·cases h3 : decide ((x.2.2.2.2.2.length : Int) = x.2.2.1)
   ·cases x.2.1.all opOkD <;> rfl
   ·have f : x.2.2.1 ≤ (x.2.1.length : Int) := by simp [betw] at g; omega
    simp only [Bool.true_and];by_cases b : x.2.2.2.1 = 0
    ·rw [if_pos b, if_neg (by omega)];simp [b, betw]
    ·by_cases a : x.2.2.2.1 = 1
     ·rw [if_neg b, if_pos a, if_pos a];simp only [a, betw];rw [Bool.or_comm, Bool.and_comm (decide (atC x.1 x.2.2.2.2.1.1 = none))];simp
     ·by_cases c : x.2.2.2.1 = 2
      ·rw [if_neg b, if_neg a, if_pos c, if_neg a];have e : decide (x.2.2.1 < (x.2.1.length : Int)) = !decide (x.2.2.1 = (x.2.1.length : Int)) := by
        by_cases e : x.2.2.1 = (x.2.1.length : Int)
        ·simp [e]
        ·simp [e]; omega
       rw [e];simp only [c, betw];cases x.2.1.all opOkD <;> cases clearB x.2.2.2.2.1 <;> cases decide (x.2.2.1 = (x.2.1.length : Int)) <;> simp
      ·rw [if_neg b, if_neg a, if_neg c, if_neg a];have e : betw x.2.2.2.1 0 2 = false := by simp [betw]; omega
       rw [e];cases x.2.1.all opOkD <;> rfl
 ·simp only [d, decide_false, Bool.false_and, Bool.and_false]
theorem implHasOp_u (cs : List Value) (x : CoreD) (w : World) (h : coreR.rd w cs x) :
    Calls Tryz.prog 218 #[aggV cs] w fun e w' => e = .returned (.bool (decide (x.2.2.1 < (x.2.1.length : Int)))) ∧ Bl w w' := by
 obtain ⟨j, b, v2, c, i, g, d, rfl, v, r, i2, i3, p, q⟩ := core_rd h;obtain ⟨f, a, n, l, k, -⟩ := r;simp only [List.cons.injEq, and_true] at n;obtain rfl := n;have m : x.2.1.length ≤ 9223372036854775807 := Nat.le_trans l k;clear h v p q l k;change Calls Tryz.prog 218 #[.agg #[j, b, sL f x.2.1.length a, nI x.2.2.1, nI x.2.2.2.1, c, i, g, d]] w _
 have X := heap_at w (.cells #[j, b, sL f x.2.1.length a, nI x.2.2.1, nI x.2.2.2.1, c, i, g, d] 66);have B := box_below w (.cells #[j, b, sL f x.2.1.length a, nI x.2.2.1, nI x.2.2.2.1, c, i, g, d] 66);have s : Hid _ := B;clear B;by_cases o : x.2.2.1 < (x.2.1.length : Int)
 all_goals
  go_enter Tryz.func218, Tryz.ntmps218;obtain ⟨y0, y1, y2, y3, y4, y5, y6, y7, y8⟩ := cells_core X;clear X;go_wp2;go_ret
  exact ⟨by simp [o], s.out⟩
theorem implPlace_u (cs : List Value) (x : CoreD) (w : World) (h : coreR.rd w cs x) :
    Calls Tryz.prog 182 #[aggV cs] w fun e w' => e = .returned (.bool (placeB x)) ∧ Bl w w' := by
 obtain ⟨n, c, v2, g, m, l, v8, rfl, F, D, i2, i3, A, C⟩ := core_rd h;obtain ⟨j, b, z, q, p, -⟩ := D;simp only [List.cons.injEq, and_true] at z;obtain rfl := z;obtain ⟨d, i, o, r, v, -⟩ := C;simp only [List.cons.injEq, and_true] at o;obtain rfl := o;have y : x.2.1.length ≤ 9223372036854775807 := Nat.le_trans q p;have s : x.2.2.2.2.2.length ≤ 9223372036854775807 := Nat.le_trans r v;clear h F A q p r v;change Calls Tryz.prog 182 #[.agg #[n, c, sL j x.2.1.length b, nI x.2.2.1, nI x.2.2.2.1, g, m, l, sL d x.2.2.2.2.2.length i]] w _
 have X := heap_at w (.cells #[n, c, sL j x.2.1.length b, nI x.2.2.1, nI x.2.2.2.1, g, m, l, sL d x.2.2.2.2.2.length i] 66);have B := box_below w (.cells #[n, c, sL j x.2.1.length b, nI x.2.2.1, nI x.2.2.2.1, g, m, l, sL d x.2.2.2.2.2.length i] 66);unfold placeB;have k : Hid _ := B;clear B;have hc : ((x.2.2.2.2.2.length : Int) == x.2.2.1) = decide ((x.2.2.2.2.2.length : Int) = x.2.2.1) := rfl;cases E : betw x.2.2.1 0 x.2.1.length
 all_goals
  go_enter Tryz.func182, Tryz.ntmps182;obtain ⟨y0, y1, y2, y3, y4, y5, y6, y7, y8⟩ := cells_core X;clear X;go_wp2_with fail
  refine (between_any _ _ _ _).mono ?_;rintro e G ⟨rfl, h⟩;rw [h, E];clear h G
 ·go_wp2;go_ret
  exact ⟨rfl, k.out⟩
 ·by_cases a : (x.2.2.2.2.2.length : Int) = x.2.2.1
  ·have f : ((x.2.2.2.2.2.length : Int) == x.2.2.1) = true := by simp [a]
   go_wp2;go_ret
   exact ⟨by simp [a], k.out⟩
  ·have f : ((x.2.2.2.2.2.length : Int) == x.2.2.1) = false := by simp [a]
   go_wp2;go_ret
   exact ⟨by simp [a], k.out⟩
theorem find_there {c : CacheD} (h : OkC isL treeB c) (k : Int) : (findP c k).2.2 = !decide (atC c k = none) := by
 rw [findP_eq h];cases a : betw k 0 15
 ·rw [at_out h a]; rfl
 ·cases atC c k <;> rfl
theorem implPhase_u (cs : List Value) (x : CoreD) (w : World) (hok : OkC isL treeB x.1) (h : coreR.rd w cs x) :
    Calls Tryz.prog 183 #[aggV cs] w fun e w' => e = .returned (.bool (phaseB x)) ∧ Bl w w' := by
 have J : Hid _ := fun (W : World) (hb : Bl w W) => implHasOp_u cs x W (rd_next h hb);obtain ⟨y, q, C, r, v, s, D, rfl, S, Z, i2, i3, z, Y⟩ := core_rd h;have H : Hid (∀ W, Bl w W → Calls Tryz.prog 214 #[.agg #[r, v, s]] W fun e w' => e = .returned (.bool (clearB x.2.2.2.2.1)) ∧ Bl W w') := fun W hb => implEmpty_u [r, v, s] _ W (rd_next z hb);have K : Hid (∀ W, Bl w W → Calls Tryz.prog 216 #[.agg #[r, v, s]] W fun e w' => e = .returned (.bool (fullB isL x.2.2.2.2.1)) ∧ Bl W w') := fun W hb => implFull_u [r, v, s] _ W (rd_next z hb);have R : Hid (∀ W, Bl w W → Calls Tryz.prog 217 #[.agg #[r, v, s]] W fun e w' => e = .returned (.bool (goneB x.2.2.2.2.1)) ∧ Bl W w') := fun W hb => implLetGo_u [r, v, s] _ W (rd_next z hb);have G : Hid (∀ W, Bl w W → Calls Tryz.prog 215 #[.agg #[y, q], nI x.2.2.2.2.1.1] W fun e w' => e = .returned (.tuple #[.agg #[nI (findP x.1 x.2.2.2.2.1.1).1, nI (findP x.1 x.2.2.2.2.1.1).2.1], .bool (!decide (atC x.1 x.2.2.2.2.1.1 = none))]) ∧ Bl W w') := fun W hb => by
  have := implFind_u [y, q] x.1 x.2.2.2.2.1.1 W hok (rd_next S hb);rw [find_there hok] at this;exact this
 obtain ⟨E, f, O, -, -, -, -, -⟩ := way_rd z;simp only [List.cons.injEq, and_true] at O;obtain ⟨rfl, rfl, rfl⟩ := O;clear h S Z z Y hok;unfold phaseB;change Calls Tryz.prog 183 #[.agg #[y, q, C, nI x.2.2.1, nI x.2.2.2.1, nI x.2.2.2.2.1.1, nI x.2.2.2.2.1.2.1, sL E x.2.2.2.2.1.2.2.length f, D]] w _
 rw [aE] at J;generalize decide (x.2.2.1 < (x.2.1.length : Int)) = hp at J ⊢;generalize clearB x.2.2.2.2.1 = cl at H ⊢;generalize fullB isL x.2.2.2.2.1 = fu at K ⊢;generalize goneB x.2.2.2.2.1 = go at R ⊢;generalize L : decide (atC x.1 x.2.2.2.2.1.1 = none) = an at G ⊢;clear L;generalize findP x.1 x.2.2.2.2.1.1 = fp at G;have X := heap_at w (.cells #[y, q, C, nI x.2.2.1, nI x.2.2.2.1, nI x.2.2.2.2.1.1, nI x.2.2.2.2.1.2.1, sL E x.2.2.2.2.1.2.2.length f, D] 66);have B := box_below w (.cells #[y, q, C, nI x.2.2.1, nI x.2.2.2.1, nI x.2.2.2.2.1.1, nI x.2.2.2.2.1.2.1, sL E x.2.2.2.2.1.2.2.length f, D] 66);generalize x.2.2.2.1 = ph at *;have HI : ∀ b c d : Bool, (if ph = 0 then b else if ph = 1 then c else if ph = 2 then d else false) = (if ph = 0 then b else if ph = 1 then c else if ph = 2 then d else false) := fun _ _ _ => rfl;clear HI;go_enter Tryz.func183, Tryz.ntmps183;obtain ⟨p, g, k, o, j, l, m, n, i⟩ := cells_core X;by_cases I : ph = 0
 ·subst I;rw [if_pos rfl];go_wp2_with fail
  refine (H.out _ B).mono ?_;rintro e F ⟨rfl, a⟩;go_wp2;go_ret
  exact ⟨rfl, below_step B a⟩
 ·have U : (ph == 0) = false := by simp [I]
  rw [if_neg I];by_cases N : ph = 1
  ·subst N;rw [if_pos rfl];go_wp2_with fail
   generalize w.alloc (.cells #[y, q, C, nI x.2.2.1, nI 1, nI x.2.2.2.2.1.1, nI x.2.2.2.2.1.2.1, sL E x.2.2.2.2.1.2.2.length f, D] 66) = W0 at X B ⊢;refine (G.out _ B).mono ?_;rintro e F ⟨rfl, a⟩;replace X := heap_on (.cells #[nI fp.1, nI fp.2.1] 223) (row_keep a X);replace B := below_step (below_step B a) (box_below F (.cells #[nI fp.1, nI fp.2.1] 223));clear a G p g k o j l m n i;obtain ⟨p, g, k, o, j, l, m, n, i⟩ := cells_core X;cases an
   ·clear X;go_wp2;go_ret
    exact ⟨rfl, B⟩
   ·go_wp2_with fail
    generalize F.alloc (.cells #[nI fp.1, nI fp.2.1] 223) = W1 at X B ⊢;refine (K.out _ B).mono ?_;rintro e w2 ⟨rfl, A⟩;replace X := row_keep A X;replace B := below_step B A;clear A K p g k o j l m n i;obtain ⟨p, g, k, o, j, l, m, n, i⟩ := cells_core X;cases fu
    ·go_wp2_with fail
     refine (R.out _ B).mono ?_;rintro e w3 ⟨rfl, T⟩;replace B := below_step B T;clear X T p g k o j l m n i;go_wp2;go_ret
     exact ⟨rfl, B⟩
    ·clear X;go_wp2;go_ret
     exact ⟨rfl, B⟩
  ·have V : (ph == 1) = false := by simp [N]
   rw [if_neg N];by_cases M : ph = 2
   ·subst M;rw [if_pos rfl];go_wp2_with fail
    refine (H.out _ B).mono ?_;rintro e F ⟨rfl, a⟩;replace X := row_keep a X;replace B := below_step B a;clear a p g k o j l m n i;obtain ⟨p, g, k, o, j, l, m, n, i⟩ := cells_core X;cases cl
    ·clear X;go_wp2;go_ret
     exact ⟨rfl, B⟩
    ·go_wp2_with fail
     refine (J.out _ B).mono ?_;rintro e w2 ⟨rfl, A⟩;clear X p g k o j l m n i;go_wp2;go_ret
     exact ⟨rfl, below_step B A⟩
   ·have cA : (ph == 2) = false := by simp [M]
    rw [if_neg M];clear X;go_wp2;go_ret
    exact ⟨rfl, B⟩
theorem implCoreOk_u (cs : List Value) (x : CoreD) (w : World) (h : coreR.rd w cs x) :
    Calls Tryz.prog 141 #[aggV cs] w fun e w' => e = .returned (.bool (coreB x)) ∧ Bl w w' := by
 rw [core_all];have r : Hid _ := fun (W : World) (hb : Bl w W) => implPlace_u cs x W (rd_next h hb);have n : Hid (∀ W, okB isL treeB x.1 = true → Bl w W → Calls Tryz.prog 183 #[aggV cs] W fun e w' => e = .returned (.bool (phaseB x)) ∧ Bl W w') := fun W hk hb => implPhase_u cs x W (okB_iff.1 hk) (rd_next h hb);obtain ⟨o, m, p, v, C, z, y, rfl, E, D, i2, i3, G, H⟩ := core_rd h;have s : Hid (∀ W, Bl w W → Calls Tryz.prog 180 #[.agg #[o, m]] W fun e w' => e = .returned (.bool (okB isL treeB x.1)) ∧ Bl W w') := fun W hb => implCacheOk_u [o, m] _ W (rd_next E hb);have A : Hid (∀ W, Bl w W → Calls Tryz.prog 181 #[p] W fun e w' => e = .returned (.bool (progB x.2.1)) ∧ Bl W w') := fun W hb => by
  obtain ⟨a1, c1, F, J, I, q⟩ := rd_next D hb;simp only [List.cons.injEq, and_true] at F;obtain rfl := F;exact implOpsOk_any _ _ _ W q (Nat.le_trans J I)
 clear h E D G H;rw [aE] at r n ⊢;generalize placeB x = pl at r ⊢;generalize phaseB x = pb at n ⊢;generalize progB x.2.1 = pr at A ⊢;generalize okB isL treeB x.1 = ok at s n ⊢;have X := heap_at w (.cells #[o, m, p, nI x.2.2.1, nI x.2.2.2.1, v, C, z, y] 66);have B := box_below w (.cells #[o, m, p, nI x.2.2.1, nI x.2.2.2.1, v, C, z, y] 66);go_enter Tryz.func141, Tryz.ntmps141;obtain ⟨l, b, f, k, d, g, i, j, c⟩ := cells_core X;go_wp2_with fail
 generalize w.alloc (.cells #[o, m, p, nI x.2.2.1, nI x.2.2.2.1, v, C, z, y] 66) = W0 at X B ⊢;refine (s.out _ B).mono ?_;rintro e w1 ⟨rfl, a⟩;replace X := row_keep a X;replace B := below_step B a;clear a s l b f k d g i j c;obtain ⟨l, b, f, k, d, g, i, j, c⟩ := cells_core X;cases ok
 ·clear X;go_wp2;go_ret
  exact ⟨rfl, B⟩
 go_wp2_with fail
 refine (A.out _ B).mono ?_;rintro e w2 ⟨rfl, a⟩;replace X := row_keep a X;replace B := below_step B a;clear a A l b f k d g i j c;obtain ⟨l, b, f, k, d, g, i, j, c⟩ := cells_core X;cases pr
 ·clear X;go_wp2;go_ret
  exact ⟨rfl, B⟩
 go_wp2_with fail
 refine (r.out _ B).mono ?_;rintro e w3 ⟨rfl, a⟩;replace X := row_keep a X;replace B := below_step B a;clear a r l b f k d g i j c;obtain ⟨l, b, f, k, d, g, i, j, c⟩ := cells_core X;cases pl
 ·clear X;go_wp2;go_ret
  exact ⟨rfl, B⟩
 go_wp2_with fail
 refine (n.out _ (by first | rfl | trivial) B).mono ?_;rintro e w4 ⟨rfl, a⟩;replace B := below_step B a;clear a n X l b f k d g i j c;go_wp2;go_ret
 exact ⟨rfl, B⟩
open Go.RowKit Go.Extern.Stop Go.Stop Go.Extern
theorem ex_typeOf (args : Array Value) (w : World) : (callFunc 243 args).run Tryz.prog w = ((Extern.ReflectliteType.typeOf args).run Tryz.prog w).andThen fun v w' => .ok (.value v) w' := @run_callFunc_extern Tryz.prog 243 _ Extern.ReflectliteType.typeOf Tryz.func243 (by kernel_rfl) (by kernel_rfl) (by kernel_rfl) (by kernel_rfl) args w
theorem ex_unp (args : Array Value) (w : World) : (callFunc 225 args).run Tryz.prog w = ((unpF args).run Tryz.prog w).andThen fun v w' => .ok (.value v) w' := @run_callFunc_extern Tryz.prog 225 _ unpF Tryz.func225 (by kernel_rfl) (by kernel_rfl) (by kernel_rfl) (by kernel_rfl) args w
theorem ex_type (args : Array Value) (w : World) : (callFunc 226 args).run Tryz.prog w = ((typeF args).run Tryz.prog w).andThen fun v w' => .ok (.value v) w' := @run_callFunc_extern Tryz.prog 226 _ typeF Tryz.func226 (by kernel_rfl) (by kernel_rfl) (by kernel_rfl) (by kernel_rfl) args w
theorem ex_isNil (args : Array Value) (w : World) : (callFunc 227 args).run Tryz.prog w = ((isNilF args).run Tryz.prog w).andThen fun v w' => .ok (.value v) w' := @run_callFunc_extern Tryz.prog 227 _ isNilF Tryz.func227 (by kernel_rfl) (by kernel_rfl) (by kernel_rfl) (by kernel_rfl) args w
theorem ex_kind (args : Array Value) (w : World) : (callFunc 271 args).run Tryz.prog w = ((kindF args).run Tryz.prog w).andThen fun v w' => .ok (.value v) w' := @run_callFunc_extern Tryz.prog 271 _ kindF Tryz.func271 (by kernel_rfl) (by kernel_rfl) (by kernel_rfl) (by kernel_rfl) args w
theorem ex_elemT (args : Array Value) (w : World) : (callFunc 289 args).run Tryz.prog w = ((elemTF args).run Tryz.prog w).andThen fun v w' => .ok (.value v) w' := @run_callFunc_extern Tryz.prog 289 _ elemTF Tryz.func289 (by kernel_rfl) (by kernel_rfl) (by kernel_rfl) (by kernel_rfl) args w
theorem ex_impl (args : Array Value) (w : World) : (callFunc 290 args).run Tryz.prog w = ((implF args).run Tryz.prog w).andThen fun v w' => .ok (.value v) w' := @run_callFunc_extern Tryz.prog 290 _ implF Tryz.func290 (by kernel_rfl) (by kernel_rfl) (by kernel_rfl) (by kernel_rfl) args w
theorem ex_asgn (args : Array Value) (w : World) : (callFunc 287 args).run Tryz.prog w = ((asgnF args).run Tryz.prog w).andThen fun v w' => .ok (.value v) w' := @run_callFunc_extern Tryz.prog 287 _ asgnF Tryz.func287 (by kernel_rfl) (by kernel_rfl) (by kernel_rfl) (by kernel_rfl) args w
theorem ex_elemV (args : Array Value) (w : World) : (callFunc 244 args).run Tryz.prog w = ((elemVF args).run Tryz.prog w).andThen fun v w' => .ok (.value v) w' := @run_callFunc_extern Tryz.prog 244 _ elemVF Tryz.func244 (by kernel_rfl) (by kernel_rfl) (by kernel_rfl) (by kernel_rfl) args w
theorem ex_set (args : Array Value) (w : World) : (callFunc 245 args).run Tryz.prog w = ((setF args).run Tryz.prog w).andThen fun v w' => .ok (.value v) w' := @run_callFunc_extern Tryz.prog 245 _ setF Tryz.func245 (by kernel_rfl) (by kernel_rfl) (by kernel_rfl) (by kernel_rfl) args w
theorem froz_keep {w w' : World} {D b o : Nat} (hb : Below D w w') (h : w.frozen? ⟨b, o, none⟩ = false) (hl : b < D) : w'.frozen? ⟨b, o, none⟩ = false := by
 have := hb.block b hl;simp only [World.frozen?, this] at h ⊢;exact h
theorem asR_any (c : Int) (ab ao tb tq : Nat) (old : Value) (w : World) (ha : w.cell? ⟨ab, ao, none⟩ = some (.pointer (some ⟨tb, tq, none⟩))) (ht : w.cell? ⟨tb, tq, none⟩ = some old) (hf : w.frozen? ⟨tb, tq, none⟩ = false) :
    Calls Tryz.prog 228 #[.iface 225 (nI c), .iface 227 (.pointer (some ⟨tb, tq, none⟩)), valP ⟨ab, ao, none⟩, hanV 225] w fun e w' => e = .returned (.bool true) ∧ ∃ W, Bl w W ∧ w' = W.setCell ⟨tb, tq, none⟩ (nI c) := by
 have b := box_below w (valO ⟨ab, ao, none⟩);have d := cell_keep b ha (cell_lt ha);have a := below_step b (box_below (w.alloc (valO ⟨ab, ao, none⟩)) (.cells #[nI c] 225));have e1 := ex_typeOf;have e2 := ex_asgn;have e3 := ex_elemV;have e4 := ex_unp;have e5 := ex_set;have t1 := er_typeOf;have m1 := as_mAsgn;have m2 := as_asgnR;have m3 := as_elemV ⟨ab, ao, none⟩ ⟨tb, tq, none⟩ (w.alloc (valO ⟨ab, ao, none⟩)) d;have m4 := as_unpE c (w.alloc (valO ⟨ab, ao, none⟩));have m5 := as_set ⟨tb, tq, none⟩ ⟨w.heap.size + 1, 0, none⟩ c old ((w.alloc (valO ⟨ab, ao, none⟩)).alloc (.cells #[nI c] 225)) (by rw [World.cell?_alloc_at _ _ _ _ (by simp)]; rfl) (cell_keep a ht (cell_lt ht)) (froz_keep a hf (cell_lt ht));go_enter Tryz.func228, Tryz.ntmps228;go_wp2;refine wp_loop_rounds 1 ?_;rw [rounds_succ];go_wp2;go_ret
 exact ⟨rfl, _, a, rfl⟩
theorem asF_any (n c : Int) (ab ao tb tq : Nat) (old : Value) (w : World) (ha : w.cell? ⟨ab, ao, none⟩ = some (.pointer (some ⟨tb, tq, none⟩))) (ht : w.cell? ⟨tb, tq, none⟩ = some old) (hf : w.frozen? ⟨tb, tq, none⟩ = false) :
    Calls Tryz.prog 228 #[.iface 258 (.agg #[nI n, .iface 225 (nI c)]), .iface 227 (.pointer (some ⟨tb, tq, none⟩)), valP ⟨ab, ao, none⟩, hanV 225] w fun e w' => e = .returned (.bool true) ∧ ∃ W, Bl w W ∧ w' = W.setCell ⟨tb, tq, none⟩ (nI c) := by
 have m := box_below w (valO ⟨ab, ao, none⟩);have g := heap_at w (valO ⟨ab, ao, none⟩);have e1 := ex_typeOf;have e2 := ex_asgn;have e3 := ex_elemV;have e4 := ex_unp;have e5 := ex_set;have t1 := er_typeOf;have t2 := er_typeOfF;have m1 := as_mAsgn;have m2 := as_asgnR;have m6 := as_asgnF;have n1 := as_noAsF;have n5 := er_hasUnF;have mU := er_mUn;go_enter Tryz.func228, Tryz.ntmps228;go_wp2;refine wp_loop_rounds 2 ?_;rw [rounds_succ];generalize w.alloc (valO ⟨ab, ao, none⟩) = w0 at g m ⊢;have j : Hid (Bl w w0) := m;have d : w.heap.size < w0.heap.size := (ltH g);clear m;go_wp2_with (go_at_call 285; refine (unwrap_any _ _ _).mono ?_; rintro e f ⟨rfl, i⟩)
 rw [rounds_succ];have k := below_step j.out i;have c0 : f.cell? ⟨w.heap.size, 0, none⟩ = some (.pointer (some ⟨1, 227, none⟩)) := cell_keep i (by simp [World.cell?, g]) d;have c1 : f.cell? ⟨w.heap.size, 1, none⟩ = some (.pointer (some ⟨ab, ao, none⟩)) := cell_keep i (by simp [World.cell?, g]) d;have c2 : f.cell? ⟨w.heap.size, 2, none⟩ = some (.int .u64 150) := cell_keep i (by simp [World.cell?, g]) d;have o := cell_keep k ha (cell_lt ha);have b := cell_keep k ht (cell_lt ht);have p := froz_keep k hf (cell_lt ht);have l := box_below f (.cells #[nI c] 225);have m3 := as_elemV ⟨ab, ao, none⟩ ⟨tb, tq, none⟩ f o;have m4 := as_unpE c f;have m5 := as_set ⟨tb, tq, none⟩ ⟨f.heap.size, 0, none⟩ c old (f.alloc (.cells #[nI c] 225)) (by rw [World.cell?_alloc_at _ _ _ _ (by simp)]; rfl) (cell_keep l b (cell_lt b)) (froz_keep l p (cell_lt b));have q : Hid (Bl w (f.alloc (.cells #[nI c] 225))) := below_step k l;clear k l i ha ht hf o b p g j d;go_wp2;go_ret
 exact ⟨rfl, _, q.out, rfl⟩
def ErrV (v : Value) (c : Int) : Prop := v = refV c ∨ ∃ n : Int, v = fltV n c
theorem as_any (v : Value) (c : Int) (hv : ErrV v c) (ab ao tb tq : Nat) (old : Value) (w : World) (ha : w.cell? ⟨ab, ao, none⟩ = some (.pointer (some ⟨tb, tq, none⟩))) (ht : w.cell? ⟨tb, tq, none⟩ = some old) (hf : w.frozen? ⟨tb, tq, none⟩ = false) :
    Calls Tryz.prog 228 #[v, .iface 227 (.pointer (some ⟨tb, tq, none⟩)), valP ⟨ab, ao, none⟩, hanV 225] w fun e w' => e = .returned (.bool true) ∧ ∃ W, Bl w W ∧ w' = W.setCell ⟨tb, tq, none⟩ (nI c) := by
 rcases hv with rfl | ⟨n, rfl⟩
 ·exact asR_any c ab ao tb tq old w ha ht hf
 ·exact asF_any n c ab ao tb tq old w ha ht hf
theorem asWhole_any (v : Value) (c : Int) (hv : ErrV v c) (tb tq : Nat) (old : Value) (w : World) (hh : Hold w) (ht : w.cell? ⟨tb, tq, none⟩ = some old) (hf : w.frozen? ⟨tb, tq, none⟩ = false) :
    Calls Tryz.prog 193 #[v, .iface 227 (.pointer (some ⟨tb, tq, none⟩))] w fun e a => e = .returned (.bool true) ∧ ∃ W, Bl w W ∧ a = W.setCell ⟨tb, tq, none⟩ (nI c) := by
 have i := box_below w (.cells #[.pointer (some ⟨tb, tq, none⟩)] 227);have b := below_step i (box_below (w.alloc (.cells #[.pointer (some ⟨tb, tq, none⟩)] 227)) (valO ⟨w.heap.size, 0, none⟩));have G2 : ((w.alloc (.cells #[.pointer (some ⟨tb, tq, none⟩)] 227)).alloc (valO ⟨w.heap.size, 0, none⟩)).cell? ⟨0, 0, none⟩ = some (hanV 193) := hh.goes b;have f : ((w.alloc (.cells #[.pointer (some ⟨tb, tq, none⟩)] 227)).alloc (valO ⟨w.heap.size, 0, none⟩)).cell? ⟨w.heap.size, 0, none⟩ = some (.pointer (some ⟨tb, tq, none⟩)) := by
  rw [World.cell?_alloc_lt _ _ ⟨w.heap.size, 0, none⟩ (by simp)]; simp
 have k : Hid (Calls Tryz.prog 228 #[v, .iface 227 (.pointer (some ⟨tb, tq, none⟩)), valP ⟨w.heap.size, 0, none⟩, hanV 225] ((w.alloc (.cells #[.pointer (some ⟨tb, tq, none⟩)] 227)).alloc (valO ⟨w.heap.size, 0, none⟩)) fun e a => e = .returned (.bool true) ∧ ∃ W, Bl w W ∧ a = W.setCell ⟨tb, tq, none⟩ (nI c)) :=
  (as_any v c hv w.heap.size 0 tb tq old _ f (cell_keep b ht (cell_lt ht)) (froz_keep b hf (cell_lt ht))).mono fun e a ⟨h1, W, d, g⟩ => ⟨h1, W, below_step b d, g⟩
 have m8 := as_isNil ⟨w.heap.size, 0, none⟩ ⟨tb, tq, none⟩ _ f;obtain ⟨T, x, rfl⟩ : ∃ T x, v = .iface T x := by
  rcases hv with rfl | ⟨n, rfl⟩
  ·exact ⟨_, _, rfl⟩
  ·exact ⟨_, _, rfl⟩
 clear hv hh ht hf i b;have e1 := ex_unp;have e2 := ex_type;have e3 := ex_kind;have e4 := ex_isNil;have e5 := ex_elemT;have e6 := ex_impl;have m1 := as_unpP;have m2 := as_type;have m3 := as_mKind;have m4 := as_kindP;have m5 := as_kindE;have m6 := as_mElem;have m7 := as_elemT;have m9 := as_mImpl;have j := as_impl;go_enter Tryz.func193, Tryz.ntmps193;go_wp2_with (go_at_call 228; refine k.out.mono ?_; rintro e a ⟨rfl, W, d, g⟩)
 go_ret
 exact ⟨rfl, W, d, rfl⟩
theorem implCodeOf_any (v : Value) (c : Int) (hv : ErrV v c) (w : World) (hh : Hold w) :
    Calls Tryz.prog 151 #[v] w fun e g => e = .returned (nI c) ∧ Bl w g := by
 have b := box_below w (.cells #[nI 0] 225);have j := asWhole_any v c hv w.heap.size 0 (nI 0) (w.alloc (.cells #[nI 0] 225)) (hh.goes b) (by simp) (by simp);clear hh hv;go_enter Tryz.func151, Tryz.ntmps151;go_wp2_with fail
 refine j.mono ?_;rintro e g ⟨rfl, W, d, rfl⟩;have a := heap_at w (.cells #[nI 0] 225);have f : W.heap[w.heap.size]? = some (.cells #[nI 0] 225) := (d.block _ (ltH a)).trans a;have k : (W.setCell ⟨w.heap.size, 0, none⟩ (nI c)).cell? ⟨w.heap.size, 0, none⟩ = some (nI c) := by
  have := heap_setCell_same W w.heap.size 0 _ _ (nI c) f;simp [World.cell?, this]
 have i : Hid (Bl w (W.setCell ⟨w.heap.size, 0, none⟩ (nI c))) := below_setC (below_step b d) (Nat.le_refl _);clear a f j d b;generalize W.setCell ⟨w.heap.size, 0, none⟩ (nI c) = V at k i ⊢;go_wp2;go_ret
 exact ⟨rfl, i.out⟩
theorem implCodeOf_nil (w : World) : Calls Tryz.prog 151 #[.nilIface] w fun e w' => e = .returned (nI 0) ∧ Bl w w' := by
 have a := box_below w (.cells #[nI 0] 225);go_enter Tryz.func151, Tryz.ntmps151;go_wp2_with go_in
 go_ret
 exact ⟨rfl, a⟩
end Go.Proofs.YtglejdilghcbaaaGreatDoor
