import Derived.Test.YtdamokokcdcedaaGreatDoorF00Box
import Derived.Test.YtdamokokcdcedaaGreatDoorF21
import Derived.Deep.RegionHeld3
import Derived.Lib.SliceRun
import Derived.Deep.RegionLaw
import Derived.Deep.CutBlock
namespace Go.Proofs.YtdamokokcdcedaaGreatDoor
set_option maxHeartbeats 4000000
open Go.ChangeShapes Go.WideShapes Go.ChangeAt Go.RowKit
set_option linter.unusedVariables false
section
variable {α : Type}
end
section
variable {α : Type}
end
open Go.ChangeShapes Go.WideShapes Go.ChangeAt Go.RowKit Go.Shelf
theorem cs1 {w : World} {g b o k : Nat} {u v : Value} (hne : ¬ (b = g)) (h : w.cell? ⟨b, k, none⟩ = some u) : (w.setCell ⟨g, o, none⟩ v).cell? ⟨b, k, none⟩ = some u :=
 (World.cell?_of_block (w := w) (a := ⟨b, k, none⟩) (heap_setCell_other w ⟨g, o, none⟩ b v hne)).trans h
open Go.RowKit
section
variable {P : Program} {C : World → Prop} {l : List Oper} {o : Oper}
end
attribute [local go_sem] Oper.semAt_some
section
variable {W0 wx : World} {b0 o0 o1 : Nat} {u v : Value}
end
theorem implCacheOk_u (cs : List Value) (c : CacheD) (w : World) (h : cacheR.rd w cs c) :
    Calls Tryz.prog 231 #[aggV cs] w fun e w' => e = .returned (.bool (okB isL treeB c)) ∧ Bl w w' := by
 obtain ⟨a, d, b, l, rfl, j, g, i, m, f, k⟩ := cache_rd h;exact implCacheOk_any a b c d l w f k (Nat.le_trans j g) (Nat.le_trans i m) (rows_len f)
theorem implFind_u (cs : List Value) (c : CacheD) (k : Int) (w : World) (hok : OkC isL treeB c) (h : cacheR.rd w cs c) :
    Calls Tryz.prog 260 #[aggV cs, nI k] w fun e w' => e = .returned (.tuple #[.agg #[nI (findP c k).1, nI (findP c k).2.1], .bool (findP c k).2.2]) ∧ Bl w w' := by
 obtain ⟨a, d, b, g, rfl, l1, l2, m1, m2, f, r2⟩ := cache_rd h;exact implFind_any a b c d g k w hok f
theorem implEmpty_u (us : List Value) (u : WayD) (w : World) (h : wayR.rd w us u) :
    Calls Tryz.prog 94 #[aggV us] w fun e w' => e = .returned (.bool (clearB u)) ∧ Bl w w' := by
 obtain ⟨ad, c, rfl, i1, i2, a, b, k3⟩ := way_rd h;rw [← clr_eq];exact implEmpty_any _ _ _ _ _ w (Nat.le_trans a b)
theorem implFull_u (us : List Value) (u : WayD) (w : World) (h : wayR.rd w us u) :
    Calls Tryz.prog 261 #[aggV us] w fun e w' => e = .returned (.bool (fullB isL u)) ∧ Bl w w' := by
 obtain ⟨ad, b, rfl, i1, i2, k1, k2, a⟩ := way_rd h;exact implFull_any _ _ _ _ _ w a
theorem implLetGo_u (us : List Value) (u : WayD) (w : World) (h : wayR.rd w us u) :
    Calls Tryz.prog 262 #[aggV us] w fun e w' => e = .returned (.bool (goneB u)) ∧ Bl w w' := by
 obtain ⟨d, a, rfl, i1, i2, k, l, q⟩ := way_rd h;have j : u.2.2.length ≤ 9223372036854775807 := Nat.le_trans k l;clear h k l q;have X := heap_at w (.cells #[nI u.1, nI u.2.1, sL d u.2.2.length a] 74);have B := box_below w (.cells #[nI u.1, nI u.2.1, sL d u.2.2.length a] 74);change Calls Tryz.prog 262 #[.agg #[nI u.1, nI u.2.1, sL d u.2.2.length a]] w _
 unfold goneB;generalize u.2.2.length = n at *;have HB : Hid (∀ b : Bool, b = betw u.1 0 15 → betw u.1 0 15 = b) := fun b e => e.symm;cases s : betw u.1 0 15
 all_goals
  go_enter Tryz.func262, Tryz.ntmps262;go_wp2_with fail
  generalize w.alloc (.cells #[nI u.1, nI u.2.1, sL d n a] 74) = W0 at X B ⊢;refine (lineNumberOk_any _ _).mono ?_;rintro e m ⟨rfl, h⟩;rw [h, s];clear h m;obtain ⟨r, o, p⟩ := cells_three X
 ·clear X r o p;go_wp2;go_ret
  exact ⟨rfl, B⟩
 ·by_cases c : u.2.1 = 0
  ·have i : (u.2.1 == 0) = true := by simp [c]
   by_cases f : n = 0
   ·have g : ((n : Int) == 0) = true := by simp [f]
    clear X;go_wp2;go_ret
    exact ⟨by simp [c, f], B⟩
   ·have g : ((n : Int) == 0) = false := by simp [f]
    clear X;go_wp2;go_ret
    exact ⟨by simp [c, f], B⟩
  ·have i : (u.2.1 == 0) = false := by simp [c]
   clear X;go_wp2;go_ret
   exact ⟨by simp [c], B⟩
def placeB (x : CoreD) : Bool := betw x.2.2.1 0 x.2.1.length && decide ((x.2.2.2.2.2.length : Int) = x.2.2.1)
noncomputable def phaseB (x : CoreD) : Bool := if x.2.2.2.1 = 0 then clearB x.2.2.2.2.1 else if x.2.2.2.1 = 1 then decide (atC x.1 x.2.2.2.2.1.1 = none) && (fullB isL x.2.2.2.2.1 || goneB x.2.2.2.2.1) else if x.2.2.2.1 = 2 then clearB x.2.2.2.2.1 && decide (x.2.2.1 < (x.2.1.length : Int)) else false
theorem core_all (x : CoreD) : coreB x = (okB isL treeB x.1 && (progB x.2.1 && (placeB x && phaseB x))) := by
 unfold coreB progB placeB phaseB restC;cases okB isL treeB x.1
 ·rfl
 by_cases d : x.2.1.length ≤ 30
 ·simp only [d, decide_true, Bool.true_and];cases f : betw x.2.2.1 0 x.2.1.length
  ·cases x.2.1.all opOkD <;> rfl
  ·cases h3 : decide ((x.2.2.2.2.2.length : Int) = x.2.2.1)
   ·cases x.2.1.all opOkD <;> rfl
   ·have g : x.2.2.1 ≤ (x.2.1.length : Int) := by simp [betw] at f; omega
    simp only [Bool.true_and];by_cases b : x.2.2.2.1 = 0
    ·rw [if_pos b, if_neg (by omega)];simp [b, betw]
    ·by_cases a : x.2.2.2.1 = 1
     ·rw [if_neg b, if_pos a, if_pos a];simp only [a, betw];rw [Bool.or_comm, Bool.and_comm (decide (atC x.1 x.2.2.2.2.1.1 = none))];simp
     ·by_cases c : x.2.2.2.1 = 2
      ·rw [if_neg b, if_neg a, if_pos c, if_neg a];have e : decide (x.2.2.1 < (x.2.1.length : Int)) = !decide (x.2.2.1 = (x.2.1.length : Int)) := by
        by_cases e : x.2.2.1 = (x.2.1.length : Int)
        ·simp [e]
        ·simp [e]; omega
       rw [e];simp only [c, betw];cases x.2.1.all opOkD <;> cases clearB x.2.2.2.2.1 <;> cases decide (x.2.2.1 = (x.2.1.length : Int)) <;> simp
      ·rw [if_neg b, if_neg a, if_neg c, if_neg a];have e : betw x.2.2.2.1 0 2 = false := by simp [betw]; omega
       rw [e];cases x.2.1.all opOkD <;> rfl
 ·simp only [d, decide_false, Bool.false_and, Bool.and_false]
theorem implHasOp_u (cs : List Value) (x : CoreD) (w : World) (h : coreR.rd w cs x) :
    Calls Tryz.prog 172 #[aggV cs] w fun e w' => e = .returned (.bool (decide (x.2.2.1 < (x.2.1.length : Int)))) ∧ Bl w w' := by
 obtain ⟨f, c, v2, d, i, a, j, rfl, o, q, i2, i3, r, v⟩ := core_rd h;obtain ⟨b, g, n, l, m, -⟩ := q;simp only [List.cons.injEq, and_true] at n;obtain rfl := n;have k : x.2.1.length ≤ 9223372036854775807 := Nat.le_trans l m;clear h o r v l m;change Calls Tryz.prog 172 #[.agg #[f, c, sL b x.2.1.length g, nI x.2.2.1, nI x.2.2.2.1, d, i, a, j]] w _
 have X := heap_at w (.cells #[f, c, sL b x.2.1.length g, nI x.2.2.1, nI x.2.2.2.1, d, i, a, j] 98);have B := box_below w (.cells #[f, c, sL b x.2.1.length g, nI x.2.2.1, nI x.2.2.2.1, d, i, a, j] 98);have p : Hid _ := B;clear B;by_cases s : x.2.2.1 < (x.2.1.length : Int)
 all_goals
  go_enter Tryz.func172, Tryz.ntmps172;obtain ⟨y0, y1, y2, y3, y4, y5, y6, y7, y8⟩ := cells_core X;clear X;go_wp2;go_ret
  exact ⟨by simp [s], p.out⟩
theorem implPlace_u (cs : List Value) (x : CoreD) (w : World) (h : coreR.rd w cs x) :
    Calls Tryz.prog 233 #[aggV cs] w fun e w' => e = .returned (.bool (placeB x)) ∧ Bl w w' := by
 obtain ⟨j, f, v2, g, m, b, v8, rfl, A, C, i2, i3, E, F⟩ := core_rd h;obtain ⟨d, k, z, s, v, -⟩ := C;simp only [List.cons.injEq, and_true] at z;obtain rfl := z;obtain ⟨l, n, y, q, p, -⟩ := F;simp only [List.cons.injEq, and_true] at y;obtain rfl := y;have o : x.2.1.length ≤ 9223372036854775807 := Nat.le_trans s v;have r : x.2.2.2.2.2.length ≤ 9223372036854775807 := Nat.le_trans q p;clear h A E s v q p;change Calls Tryz.prog 233 #[.agg #[j, f, sL d x.2.1.length k, nI x.2.2.1, nI x.2.2.2.1, g, m, b, sL l x.2.2.2.2.2.length n]] w _
 have X := heap_at w (.cells #[j, f, sL d x.2.1.length k, nI x.2.2.1, nI x.2.2.2.1, g, m, b, sL l x.2.2.2.2.2.length n] 98);have B := box_below w (.cells #[j, f, sL d x.2.1.length k, nI x.2.2.1, nI x.2.2.2.1, g, m, b, sL l x.2.2.2.2.2.length n] 98);unfold placeB;have c : Hid _ := B;clear B;have hc : ((x.2.2.2.2.2.length : Int) == x.2.2.1) = decide ((x.2.2.2.2.2.length : Int) = x.2.2.1) := rfl;cases G : betw x.2.2.1 0 x.2.1.length
 all_goals
  go_enter Tryz.func233, Tryz.ntmps233;obtain ⟨y0, y1, y2, y3, y4, y5, y6, y7, y8⟩ := cells_core X;clear X;go_wp2_with fail
  refine (between_any _ _ _ _).mono ?_;rintro e D ⟨rfl, h⟩;rw [h, G];clear h D
 ·go_wp2;go_ret
  exact ⟨rfl, c.out⟩
 ·by_cases a : (x.2.2.2.2.2.length : Int) = x.2.2.1
  ·have i : ((x.2.2.2.2.2.length : Int) == x.2.2.1) = true := by simp [a]
   go_wp2;go_ret
   exact ⟨by simp [a], c.out⟩
  ·have i : ((x.2.2.2.2.2.length : Int) == x.2.2.1) = false := by simp [a]
   go_wp2;go_ret
   exact ⟨by simp [a], c.out⟩
theorem find_there {c : CacheD} (h : OkC isL treeB c) (k : Int) : (findP c k).2.2 = !decide (atC c k = none) := by
 rw [findP_eq h];cases a : betw k 0 15
 ·rw [at_out h a]; rfl
 ·cases atC c k <;> rfl
theorem implPhase_u (cs : List Value) (x : CoreD) (w : World) (hok : OkC isL treeB x.1) (h : coreR.rd w cs x) :
    Calls Tryz.prog 234 #[aggV cs] w fun e w' => e = .returned (.bool (phaseB x)) ∧ Bl w w' := by
 have L : Hid _ := fun (W : World) (hb : Bl w W) => implHasOp_u cs x W (rd_next h hb);obtain ⟨v, r, C, s, y, q, G, rfl, O, V, i2, i3, z, r5⟩ := core_rd h;have M : Hid (∀ W, Bl w W → Calls Tryz.prog 94 #[.agg #[s, y, q]] W fun e w' => e = .returned (.bool (clearB x.2.2.2.2.1)) ∧ Bl W w') := fun W hb => implEmpty_u [s, y, q] _ W (rd_next z hb);have I : Hid (∀ W, Bl w W → Calls Tryz.prog 261 #[.agg #[s, y, q]] W fun e w' => e = .returned (.bool (fullB isL x.2.2.2.2.1)) ∧ Bl W w') := fun W hb => implFull_u [s, y, q] _ W (rd_next z hb);have R : Hid (∀ W, Bl w W → Calls Tryz.prog 262 #[.agg #[s, y, q]] W fun e w' => e = .returned (.bool (goneB x.2.2.2.2.1)) ∧ Bl W w') := fun W hb => implLetGo_u [s, y, q] _ W (rd_next z hb);have D : Hid (∀ W, Bl w W → Calls Tryz.prog 260 #[.agg #[v, r], nI x.2.2.2.2.1.1] W fun e w' => e = .returned (.tuple #[.agg #[nI (findP x.1 x.2.2.2.2.1.1).1, nI (findP x.1 x.2.2.2.2.1.1).2.1], .bool (!decide (atC x.1 x.2.2.2.2.1.1 = none))]) ∧ Bl W w') := fun W hb => by
  have := implFind_u [v, r] x.1 x.2.2.2.2.1.1 W hok (rd_next O hb);rw [find_there hok] at this;exact this
 obtain ⟨E, f, T, -, -, -, -, -⟩ := way_rd z;simp only [List.cons.injEq, and_true] at T;obtain ⟨rfl, rfl, rfl⟩ := T;clear h O V z r5 hok;unfold phaseB;change Calls Tryz.prog 234 #[.agg #[v, r, C, nI x.2.2.1, nI x.2.2.2.1, nI x.2.2.2.2.1.1, nI x.2.2.2.2.1.2.1, sL E x.2.2.2.2.1.2.2.length f, G]] w _
 rw [aE] at L;generalize decide (x.2.2.1 < (x.2.1.length : Int)) = hp at L ⊢;generalize clearB x.2.2.2.2.1 = cl at M ⊢;generalize fullB isL x.2.2.2.2.1 = fu at I ⊢;generalize goneB x.2.2.2.2.1 = go at R ⊢;generalize K : decide (atC x.1 x.2.2.2.2.1.1 = none) = an at D ⊢;clear K;generalize findP x.1 x.2.2.2.2.1.1 = fp at D;have X := heap_at w (.cells #[v, r, C, nI x.2.2.1, nI x.2.2.2.1, nI x.2.2.2.2.1.1, nI x.2.2.2.2.1.2.1, sL E x.2.2.2.2.1.2.2.length f, G] 98);have B := box_below w (.cells #[v, r, C, nI x.2.2.1, nI x.2.2.2.1, nI x.2.2.2.2.1.1, nI x.2.2.2.2.1.2.1, sL E x.2.2.2.2.1.2.2.length f, G] 98);generalize x.2.2.2.1 = ph at *;have HI : ∀ b c d : Bool, (if ph = 0 then b else if ph = 1 then c else if ph = 2 then d else false) = (if ph = 0 then b else if ph = 1 then c else if ph = 2 then d else false) := fun _ _ _ => rfl;clear HI;go_enter Tryz.func234, Tryz.ntmps234;obtain ⟨p, m, n, j, o, g, k, l, i⟩ := cells_core X;by_cases J : ph = 0
 ·subst J;rw [if_pos rfl];go_wp2_with fail
  refine (M.out _ B).mono ?_;rintro e F ⟨rfl, a⟩;go_wp2;go_ret
  exact ⟨rfl, below_step B a⟩
 ·have Z : (ph == 0) = false := by simp [J]
  rw [if_neg J];by_cases N : ph = 1
  ·subst N;rw [if_pos rfl];go_wp2_with fail
   generalize w.alloc (.cells #[v, r, C, nI x.2.2.1, nI 1, nI x.2.2.2.2.1.1, nI x.2.2.2.2.1.2.1, sL E x.2.2.2.2.1.2.2.length f, G] 98) = W0 at X B ⊢;refine (D.out _ B).mono ?_;rintro e F ⟨rfl, a⟩;replace X := heap_on (.cells #[nI fp.1, nI fp.2.1] 151) (row_keep a X);replace B := below_step (below_step B a) (box_below F (.cells #[nI fp.1, nI fp.2.1] 151));clear a D p m n j o g k l i;obtain ⟨p, m, n, j, o, g, k, l, i⟩ := cells_core X;cases an
   ·clear X;go_wp2;go_ret
    exact ⟨rfl, B⟩
   ·go_wp2_with fail
    generalize F.alloc (.cells #[nI fp.1, nI fp.2.1] 151) = W1 at X B ⊢;refine (I.out _ B).mono ?_;rintro e U ⟨rfl, A⟩;replace X := row_keep A X;replace B := below_step B A;clear A I p m n j o g k l i;obtain ⟨p, m, n, j, o, g, k, l, i⟩ := cells_core X;cases fu
    ·go_wp2_with fail
     refine (R.out _ B).mono ?_;rintro e w3 ⟨rfl, S⟩;replace B := below_step B S;clear X S p m n j o g k l i;go_wp2;go_ret
     exact ⟨rfl, B⟩
    ·clear X;go_wp2;go_ret
     exact ⟨rfl, B⟩
  ·have bA : (ph == 1) = false := by simp [N]
   rw [if_neg N];by_cases H : ph = 2
   ·subst H;rw [if_pos rfl];go_wp2_with fail
    refine (M.out _ B).mono ?_;rintro e F ⟨rfl, a⟩;replace X := row_keep a X;replace B := below_step B a;clear a p m n j o g k l i;obtain ⟨p, m, n, j, o, g, k, l, i⟩ := cells_core X;cases cl
    ·clear X;go_wp2;go_ret
     exact ⟨rfl, B⟩
    ·go_wp2_with fail
     refine (L.out _ B).mono ?_;rintro e U ⟨rfl, A⟩;clear X p m n j o g k l i;go_wp2;go_ret
     exact ⟨rfl, below_step B A⟩
   ·have Y : (ph == 2) = false := by simp [H]
    rw [if_neg H];clear X;go_wp2;go_ret
    exact ⟨rfl, B⟩
theorem implCoreOk_u (cs : List Value) (x : CoreD) (w : World) (h : coreR.rd w cs x) :
    Calls Tryz.prog 195 #[aggV cs] w fun e w' => e = .returned (.bool (coreB x)) ∧ Bl w w' := by
 rw [core_all];have r : Hid _ := fun (W : World) (hb : Bl w W) => implPlace_u cs x W (rd_next h hb);have o : Hid (∀ W, okB isL treeB x.1 = true → Bl w W → Calls Tryz.prog 234 #[aggV cs] W fun e w' => e = .returned (.bool (phaseB x)) ∧ Bl W w') := fun W hk hb => implPhase_u cs x W (okB_iff.1 hk) (rd_next h hb);obtain ⟨n, m, p, v, z, s, C, rfl, D, E, i2, i3, G, J⟩ := core_rd h;have A : Hid (∀ W, Bl w W → Calls Tryz.prog 231 #[.agg #[n, m]] W fun e w' => e = .returned (.bool (okB isL treeB x.1)) ∧ Bl W w') := fun W hb => implCacheOk_u [n, m] _ W (rd_next D hb);have y : Hid (∀ W, Bl w W → Calls Tryz.prog 232 #[p] W fun e w' => e = .returned (.bool (progB x.2.1)) ∧ Bl W w') := fun W hb => by
  obtain ⟨a1, c1, F, H, I, q⟩ := rd_next E hb;simp only [List.cons.injEq, and_true] at F;obtain rfl := F;exact implOpsOk_any _ _ _ W q (Nat.le_trans H I)
 clear h D E G J;rw [aE] at r o ⊢;generalize placeB x = pl at r ⊢;generalize phaseB x = pb at o ⊢;generalize progB x.2.1 = pr at y ⊢;generalize okB isL treeB x.1 = ok at A o ⊢;have X := heap_at w (.cells #[n, m, p, nI x.2.2.1, nI x.2.2.2.1, v, z, s, C] 98);have B := box_below w (.cells #[n, m, p, nI x.2.2.1, nI x.2.2.2.1, v, z, s, C] 98);go_enter Tryz.func195, Tryz.ntmps195;obtain ⟨l, i, j, d, k, b, f, g, c⟩ := cells_core X;go_wp2_with fail
 generalize w.alloc (.cells #[n, m, p, nI x.2.2.1, nI x.2.2.2.1, v, z, s, C] 98) = W0 at X B ⊢;refine (A.out _ B).mono ?_;rintro e w1 ⟨rfl, a⟩;replace X := row_keep a X;replace B := below_step B a;clear a A l i j d k b f g c;obtain ⟨l, i, j, d, k, b, f, g, c⟩ := cells_core X;cases ok
 ·clear X;go_wp2;go_ret
  exact ⟨rfl, B⟩
 go_wp2_with fail
 refine (y.out _ B).mono ?_;rintro e w2 ⟨rfl, a⟩;replace X := row_keep a X;replace B := below_step B a;clear a y l i j d k b f g c;obtain ⟨l, i, j, d, k, b, f, g, c⟩ := cells_core X;cases pr
 ·clear X;go_wp2;go_ret
  exact ⟨rfl, B⟩
 go_wp2_with fail
 refine (r.out _ B).mono ?_;rintro e w3 ⟨rfl, a⟩;replace X := row_keep a X;replace B := below_step B a;clear a r l i j d k b f g c;obtain ⟨l, i, j, d, k, b, f, g, c⟩ := cells_core X;cases pl
 ·clear X;go_wp2;go_ret
  exact ⟨rfl, B⟩
 go_wp2_with fail
 refine (o.out _ (by first | rfl | trivial) B).mono ?_;rintro e w4 ⟨rfl, a⟩;replace B := below_step B a;clear a o X l i j d k b f g c;go_wp2;go_ret
 exact ⟨rfl, B⟩
end Go.Proofs.YtdamokokcdcedaaGreatDoor
