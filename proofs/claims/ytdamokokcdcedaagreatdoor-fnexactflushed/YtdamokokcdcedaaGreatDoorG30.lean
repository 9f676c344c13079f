import Derived.Test.YtdamokokcdcedaaGreatDoorG00Box
import Derived.Test.YtdamokokcdcedaaGreatDoorG29
namespace Go.Proofs.YtdamokokcdcedaaGreatDoor
set_option maxHeartbeats 4000000
open Go.ChangeShapes Go.WideShapes Go.ChangeAt Go.RowKit
set_option linter.unusedVariables false
theorem implEmpty_u (us : List Value) (u : WayD) (w : World) (h : wayR.rd w us u) :
    Calls Tryz.prog 94 #[aggV us] w fun e w' => e = .returned (.bool (clearB u)) ∧ Bl w w' := by
 obtain ⟨ad, b, rfl, i1, i2, a, c, k3⟩ := way_rd h;rw [← clr_eq];exact implEmpty_any _ _ _ _ _ w (Nat.le_trans a c)
theorem implFull_u (us : List Value) (u : WayD) (w : World) (h : wayR.rd w us u) :
    Calls Tryz.prog 261 #[aggV us] w fun e w' => e = .returned (.bool (fullB isL u)) ∧ Bl w w' := by
 obtain ⟨ad, a, rfl, i1, i2, k1, k2, b⟩ := way_rd h;exact implFull_any _ _ _ _ _ w b
theorem implLetGo_u (us : List Value) (u : WayD) (w : World) (h : wayR.rd w us u) :
    Calls Tryz.prog 262 #[aggV us] w fun e w' => e = .returned (.bool (goneB u)) ∧ Bl w w' := by
 obtain ⟨f, a, rfl, i1, i2, k, l, q⟩ := way_rd h;have j : u.2.2.length ≤ 9223372036854775807 := Nat.le_trans k l;clear h k l q;have X := heap_at w (.cells #[nI u.1, nI u.2.1, sL f u.2.2.length a] 74);have B := box_below w (.cells #[nI u.1, nI u.2.1, sL f u.2.2.length a] 74);change Calls Tryz.prog 262 #[.agg #[nI u.1, nI u.2.1, sL f u.2.2.length a]] w _
 unfold goneB;generalize u.2.2.length = n at *;have HB : Hid (∀ b : Bool, b = betw u.1 0 15 → betw u.1 0 15 = b) := fun b e => e.symm;cases o : betw u.1 0 15
 all_goals
  go_enter Tryz.func262, Tryz.ntmps262;go_wp2_with fail
  generalize w.alloc (.cells #[nI u.1, nI u.2.1, sL f n a] 74) = W0 at X B ⊢;refine (lineNumberOk_any _ _).mono ?_;rintro e m ⟨rfl, h⟩;rw [h, o];clear h m;obtain ⟨r, p, s⟩ := cells_three X
 ·clear X r p s;go_wp2;go_ret
  exact ⟨rfl, B⟩
 ·by_cases c : u.2.1 = 0
  ·have i : (u.2.1 == 0) = true := by simp [c]
   by_cases d : n = 0
   ·have g : ((n : Int) == 0) = true := by simp [d]
    clear X;go_wp2;go_ret
    exact ⟨by simp [c, d], B⟩
   ·have g : ((n : Int) == 0) = false := by simp [d]
    clear X;go_wp2;go_ret
    exact ⟨by simp [c, d], B⟩
  ·have i : (u.2.1 == 0) = false := by simp [c]
   clear X;go_wp2;go_ret
   exact ⟨by simp [c], B⟩
def placeB (x : CoreD) : Bool := betw x.2.2.1 0 x.2.1.length && decide ((x.2.2.2.2.2.length : Int) = x.2.2.1)
noncomputable def phaseB (x : CoreD) : Bool := if x.2.2.2.1 = 0 then clearB x.2.2.2.2.1 else if x.2.2.2.1 = 1 then decide (atC x.1 x.2.2.2.2.1.1 = none) && (fullB isL x.2.2.2.2.1 || goneB x.2.2.2.2.1) else if x.2.2.2.1 = 2 then clearB x.2.2.2.2.1 && decide (x.2.2.1 < (x.2.1.length : Int)) else false
theorem core_all (x : CoreD) : coreB x = (okB isL treeB x.1 && (progB x.2.1 && (placeB x && phaseB x))) := by
 unfold coreB progB placeB phaseB restC;cases okB isL treeB x.1
 ·rfl
 by_cases d : x.2.1.length ≤ 30
 ·simp only [d, decide_true, Bool.true_and];cases f : betw x.2.2.1 0 x.2.1.length
  ·cases x.2.1.all opOkD <;> rfl
  ·cases h3 : decide ((x.2.2.2.2.2.length : Int) = x.2.2.1)
   ·cases x.2.1.all opOkD <;> rfl
   ·have g : x.2.2.1 ≤ (x.2.1.length : Int) := by simp [betw] at f; omega
    simp only [Bool.true_and];by_cases b : x.2.2.2.1 = 0
    ·rw [if_pos b, if_neg (by omega)];simp [b, betw]
    ·by_cases a : x.2.2.2.1 = 1
     ·rw [if_neg b, if_pos a, if_pos a];simp only [a, betw];rw [Bool.or_comm, Bool.and_comm (decide (atC x.1 x.2.2.2.2.1.1 = none))];simp
     ·by_cases c : x.2.2.2.1 = 2
      ·rw [if_neg b, if_neg a, if_pos c, if_neg a];have e : decide (x.2.2.1 < (x.2.1.length : Int)) = !decide (x.2.2.1 = (x.2.1.length : Int)) := by
        by_cases e : x.2.2.1 = (x.2.1.length : Int)
        ·simp [e]
        ·simp [e]; omega
       rw [e];simp only [c, betw];cases x.2.1.all opOkD <;> cases clearB x.2.2.2.2.1 <;> cases decide (x.2.2.1 = (x.2.1.length : Int)) <;> simp
      ·rw [if_neg b, if_neg a, if_neg c, if_neg a];have e : betw x.2.2.2.1 0 2 = false := by simp [betw]; omega
       rw [e];cases x.2.1.all opOkD <;> rfl
 ·simp only [d, decide_false, Bool.false_and, Bool.and_false]
theorem implHasOp_u (cs : List Value) (x : CoreD) (w : World) (h : coreR.rd w cs x) :
    Calls Tryz.prog 172 #[aggV cs] w fun e w' => e = .returned (.bool (decide (x.2.2.1 < (x.2.1.length : Int)))) ∧ Bl w w' := by
 obtain ⟨c, g, v2, j, a, b, i, rfl, o, p, i2, i3, r, v⟩ := core_rd h;obtain ⟨d, f, n, l, m, -⟩ := p;simp only [List.cons.injEq, and_true] at n;obtain rfl := n;have k : x.2.1.length ≤ 9223372036854775807 := Nat.le_trans l m;clear h o r v l m;change Calls Tryz.prog 172 #[.agg #[c, g, sL d x.2.1.length f, nI x.2.2.1, nI x.2.2.2.1, j, a, b, i]] w _
 have X := heap_at w (.cells #[c, g, sL d x.2.1.length f, nI x.2.2.1, nI x.2.2.2.1, j, a, b, i] 98);have B := box_below w (.cells #[c, g, sL d x.2.1.length f, nI x.2.2.1, nI x.2.2.2.1, j, a, b, i] 98);have s : Hid _ := B;clear B;by_cases q : x.2.2.1 < (x.2.1.length : Int)
 all_goals
  go_enter Tryz.func172, Tryz.ntmps172;obtain ⟨y0, y1, y2, y3, y4, y5, y6, y7, y8⟩ := cells_core X;clear X;go_wp2;go_ret
  exact ⟨by simp [q], s.out⟩
theorem implPlace_u (cs : List Value) (x : CoreD) (w : World) (h : coreR.rd w cs x) :
    Calls Tryz.prog 233 #[aggV cs] w fun e w' => e = .returned (.bool (placeB x)) ∧ Bl w w' := by
 obtain ⟨f, j, v2, n, b, d, v8, rfl, A, D, i2, i3, F, G⟩ := core_rd h;obtain ⟨g, i, y, q, s, -⟩ := D;simp only [List.cons.injEq, and_true] at y;obtain rfl := y;obtain ⟨k, l, r, z, v, -⟩ := G;simp only [List.cons.injEq, and_true] at r;obtain rfl := r;have p : x.2.1.length ≤ 9223372036854775807 := Nat.le_trans q s;have o : x.2.2.2.2.2.length ≤ 9223372036854775807 := Nat.le_trans z v;clear h A F q s z v;change Calls Tryz.prog 233 #[.agg #[f, j, sL g x.2.1.length i, nI x.2.2.1, nI x.2.2.2.1, n, b, d, sL k x.2.2.2.2.2.length l]] w _
 have X := heap_at w (.cells #[f, j, sL g x.2.1.length i, nI x.2.2.1, nI x.2.2.2.1, n, b, d, sL k x.2.2.2.2.2.length l] 98);have B := box_below w (.cells #[f, j, sL g x.2.1.length i, nI x.2.2.1, nI x.2.2.2.1, n, b, d, sL k x.2.2.2.2.2.length l] 98);unfold placeB;have m : Hid _ := B;clear B;have hc : ((x.2.2.2.2.2.length : Int) == x.2.2.1) = decide ((x.2.2.2.2.2.length : Int) = x.2.2.1) := rfl;cases E : betw x.2.2.1 0 x.2.1.length
 all_goals
  go_enter Tryz.func233, Tryz.ntmps233;obtain ⟨y0, y1, y2, y3, y4, y5, y6, y7, y8⟩ := cells_core X;clear X;go_wp2_with fail
  refine (between_any _ _ _ _).mono ?_;rintro e C ⟨rfl, h⟩;rw [h, E];clear h C
 ·go_wp2;go_ret
  exact ⟨rfl, m.out⟩
 ·by_cases a : (x.2.2.2.2.2.length : Int) = x.2.2.1
  ·have c : ((x.2.2.2.2.2.length : Int) == x.2.2.1) = true := by simp [a]
   go_wp2;go_ret
   exact ⟨by simp [a], m.out⟩
  ·have c : ((x.2.2.2.2.2.length : Int) == x.2.2.1) = false := by simp [a]
   go_wp2;go_ret
   exact ⟨by simp [a], m.out⟩
theorem find_there {c : CacheD} (h : OkC isL treeB c) (k : Int) : (findP c k).2.2 = !decide (atC c k = none) := by
 rw [findP_eq h];cases a : betw k 0 15
 ·rw [at_out h a]; rfl
 ·cases atC c k <;> rfl
theorem implPhase_u (cs : List Value) (x : CoreD) (w : World) (hok : OkC isL treeB x.1) (h : coreR.rd w cs x) :
    Calls Tryz.prog 234 #[aggV cs] w fun e w' => e = .returned (.bool (phaseB x)) ∧ Bl w w' := by
 have H : Hid _ := fun (W : World) (hb : Bl w W) => implHasOp_u cs x W (rd_next h hb);obtain ⟨s, v, G, y, q, r, F, rfl, O, U, i2, i3, A, r5⟩ := core_rd h;have K : Hid (∀ W, Bl w W → Calls Tryz.prog 94 #[.agg #[y, q, r]] W fun e w' => e = .returned (.bool (clearB x.2.2.2.2.1)) ∧ Bl W w') := fun W hb => implEmpty_u [y, q, r] _ W (rd_next A hb);have J : Hid (∀ W, Bl w W → Calls Tryz.prog 261 #[.agg #[y, q, r]] W fun e w' => e = .returned (.bool (fullB isL x.2.2.2.2.1)) ∧ Bl W w') := fun W hb => implFull_u [y, q, r] _ W (rd_next A hb);have R : Hid (∀ W, Bl w W → Calls Tryz.prog 262 #[.agg #[y, q, r]] W fun e w' => e = .returned (.bool (goneB x.2.2.2.2.1)) ∧ Bl W w') := fun W hb => implLetGo_u [y, q, r] _ W (rd_next A hb);have D : Hid (∀ W, Bl w W → Calls Tryz.prog 260 #[.agg #[s, v], nI x.2.2.2.2.1.1] W fun e w' => e = .returned (.tuple #[.agg #[nI (findP x.1 x.2.2.2.2.1.1).1, nI (findP x.1 x.2.2.2.2.1.1).2.1], .bool (!decide (atC x.1 x.2.2.2.2.1.1 = none))]) ∧ Bl W w') := fun W hb => by
  have := implFind_u [s, v] x.1 x.2.2.2.2.1.1 W hok (rd_next O hb);rw [find_there hok] at this;exact this
 obtain ⟨E, f, T, -, -, -, -, -⟩ := way_rd A;simp only [List.cons.injEq, and_true] at T;obtain ⟨rfl, rfl, rfl⟩ := T;clear h O U A r5 hok;unfold phaseB;change Calls Tryz.prog 234 #[.agg #[s, v, G, nI x.2.2.1, nI x.2.2.2.1, nI x.2.2.2.2.1.1, nI x.2.2.2.2.1.2.1, sL E x.2.2.2.2.1.2.2.length f, F]] w _
 rw [aE] at H;generalize decide (x.2.2.1 < (x.2.1.length : Int)) = hp at H ⊢;generalize clearB x.2.2.2.2.1 = cl at K ⊢;generalize fullB isL x.2.2.2.2.1 = fu at J ⊢;generalize goneB x.2.2.2.2.1 = go at R ⊢;generalize I : decide (atC x.1 x.2.2.2.2.1.1 = none) = an at D ⊢;clear I;generalize findP x.1 x.2.2.2.2.1.1 = fp at D;have X := heap_at w (.cells #[s, v, G, nI x.2.2.1, nI x.2.2.2.1, nI x.2.2.2.2.1.1, nI x.2.2.2.2.1.2.1, sL E x.2.2.2.2.1.2.2.length f, F] 98);have B := box_below w (.cells #[s, v, G, nI x.2.2.1, nI x.2.2.2.1, nI x.2.2.2.2.1.1, nI x.2.2.2.2.1.2.1, sL E x.2.2.2.2.1.2.2.length f, F] 98);generalize x.2.2.2.1 = ph at *;have Y : ∀ b c d : Bool, (if ph = 0 then b else if ph = 1 then c else if ph = 2 then d else false) = (if ph = 0 then b else if ph = 1 then c else if ph = 2 then d else false) := fun _ _ _ => rfl;clear Y;go_enter Tryz.func234, Tryz.ntmps234;obtain ⟨m, i, n, g, o, l, p, j, k⟩ := cells_core X;by_cases N : ph = 0
 ·subst N;rw [if_pos rfl];go_wp2_with fail
  refine (K.out _ B).mono ?_;rintro e C ⟨rfl, a⟩;go_wp2;go_ret
  exact ⟨rfl, below_step B a⟩
 ·have V : (ph == 0) = false := by simp [N]
  rw [if_neg N];by_cases L : ph = 1
  ·subst L;rw [if_pos rfl];go_wp2_with fail
   generalize w.alloc (.cells #[s, v, G, nI x.2.2.1, nI 1, nI x.2.2.2.2.1.1, nI x.2.2.2.2.1.2.1, sL E x.2.2.2.2.1.2.2.length f, F] 98) = W0 at X B ⊢;refine (D.out _ B).mono ?_;rintro e C ⟨rfl, a⟩;replace X := heap_on (.cells #[nI fp.1, nI fp.2.1] 151) (row_keep a X);replace B := below_step (below_step B a) (box_below C (.cells #[nI fp.1, nI fp.2.1] 151));clear a D m i n g o l p j k;obtain ⟨m, i, n, g, o, l, p, j, k⟩ := cells_core X;cases an
   ·clear X;go_wp2;go_ret
    exact ⟨rfl, B⟩
   ·go_wp2_with fail
    generalize C.alloc (.cells #[nI fp.1, nI fp.2.1] 151) = W1 at X B ⊢;refine (J.out _ B).mono ?_;rintro e Z ⟨rfl, z⟩;replace X := row_keep z X;replace B := below_step B z;clear z J m i n g o l p j k;obtain ⟨m, i, n, g, o, l, p, j, k⟩ := cells_core X;cases fu
    ·go_wp2_with fail
     refine (R.out _ B).mono ?_;rintro e w3 ⟨rfl, S⟩;replace B := below_step B S;clear X S m i n g o l p j k;go_wp2;go_ret
     exact ⟨rfl, B⟩
    ·clear X;go_wp2;go_ret
     exact ⟨rfl, B⟩
  ·have bA : (ph == 1) = false := by simp [L]
   rw [if_neg L];by_cases M : ph = 2
   ·subst M;rw [if_pos rfl];go_wp2_with fail
    refine (K.out _ B).mono ?_;rintro e C ⟨rfl, a⟩;replace X := row_keep a X;replace B := below_step B a;clear a m i n g o l p j k;obtain ⟨m, i, n, g, o, l, p, j, k⟩ := cells_core X;cases cl
    ·clear X;go_wp2;go_ret
     exact ⟨rfl, B⟩
    ·go_wp2_with fail
     refine (H.out _ B).mono ?_;rintro e Z ⟨rfl, z⟩;clear X m i n g o l p j k;go_wp2;go_ret
     exact ⟨rfl, below_step B z⟩
   ·have aA : (ph == 2) = false := by simp [M]
    rw [if_neg M];clear X;go_wp2;go_ret
    exact ⟨rfl, B⟩
theorem implCoreOk_u (cs : List Value) (x : CoreD) (w : World) (h : coreR.rd w cs x) :
    Calls Tryz.prog 195 #[aggV cs] w fun e w' => e = .returned (.bool (coreB x)) ∧ Bl w w' := by
 rw [core_all];have p : Hid _ := fun (W : World) (hb : Bl w W) => implPlace_u cs x W (rd_next h hb);have o : Hid (∀ W, okB isL treeB x.1 = true → Bl w W → Calls Tryz.prog 234 #[aggV cs] W fun e w' => e = .returned (.bool (phaseB x)) ∧ Bl W w') := fun W hk hb => implPhase_u cs x W (okB_iff.1 hk) (rd_next h hb);obtain ⟨m, n, r, C, s, y, z, rfl, D, E, i2, i3, I, J⟩ := core_rd h;have v : Hid (∀ W, Bl w W → Calls Tryz.prog 231 #[.agg #[m, n]] W fun e w' => e = .returned (.bool (okB isL treeB x.1)) ∧ Bl W w') := fun W hb => implCacheOk_u [m, n] _ W (rd_next D hb);have A : Hid (∀ W, Bl w W → Calls Tryz.prog 232 #[r] W fun e w' => e = .returned (.bool (progB x.2.1)) ∧ Bl W w') := fun W hb => by
  obtain ⟨a1, c1, F, G, H, q⟩ := rd_next E hb;simp only [List.cons.injEq, and_true] at F;obtain rfl := F;exact implOpsOk_any _ _ _ W q (Nat.le_trans G H)
 clear h D E I J;rw [aE] at p o ⊢;generalize placeB x = pl at p ⊢;generalize phaseB x = pb at o ⊢;generalize progB x.2.1 = pr at A ⊢;generalize okB isL treeB x.1 = ok at v o ⊢;have X := heap_at w (.cells #[m, n, r, nI x.2.2.1, nI x.2.2.2.1, C, s, y, z] 98);have B := box_below w (.cells #[m, n, r, nI x.2.2.1, nI x.2.2.2.1, C, s, y, z] 98);go_enter Tryz.func195, Tryz.ntmps195;obtain ⟨i, c, j, b, k, g, l, d, f⟩ := cells_core X;go_wp2_with fail
 generalize w.alloc (.cells #[m, n, r, nI x.2.2.1, nI x.2.2.2.1, C, s, y, z] 98) = W0 at X B ⊢;refine (v.out _ B).mono ?_;rintro e w1 ⟨rfl, a⟩;replace X := row_keep a X;replace B := below_step B a;clear a v i c j b k g l d f;obtain ⟨i, c, j, b, k, g, l, d, f⟩ := cells_core X;cases ok
 ·clear X;go_wp2;go_ret
  exact ⟨rfl, B⟩
 go_wp2_with fail
 refine (A.out _ B).mono ?_;rintro e w2 ⟨rfl, a⟩;replace X := row_keep a X;replace B := below_step B a;clear a A i c j b k g l d f;obtain ⟨i, c, j, b, k, g, l, d, f⟩ := cells_core X;cases pr
 ·clear X;go_wp2;go_ret
  exact ⟨rfl, B⟩
 go_wp2_with fail
 refine (p.out _ B).mono ?_;rintro e w3 ⟨rfl, a⟩;replace X := row_keep a X;replace B := below_step B a;clear a p i c j b k g l d f;obtain ⟨i, c, j, b, k, g, l, d, f⟩ := cells_core X;cases pl
 ·clear X;go_wp2;go_ret
  exact ⟨rfl, B⟩
 go_wp2_with fail
 refine (o.out _ (by first | rfl | trivial) B).mono ?_;rintro e w4 ⟨rfl, a⟩;replace B := below_step B a;clear a o X i c j b k g l d f;go_wp2;go_ret
 exact ⟨rfl, B⟩
open Go.RowKit Go.Extern.Stop Go.Stop Go.Extern
theorem ex_typeOf (args : Array Value) (w : World) : (callFunc 279 args).run Tryz.prog w = ((Extern.ReflectliteType.typeOf args).run Tryz.prog w).andThen fun v w' => .ok (.value v) w' := @run_callFunc_extern Tryz.prog 279 _ Extern.ReflectliteType.typeOf Tryz.func279 (by kernel_rfl) (by kernel_rfl) (by kernel_rfl) (by kernel_rfl) args w
theorem ex_unp (args : Array Value) (w : World) : (callFunc 266 args).run Tryz.prog w = ((unpF args).run Tryz.prog w).andThen fun v w' => .ok (.value v) w' := @run_callFunc_extern Tryz.prog 266 _ unpF Tryz.func266 (by kernel_rfl) (by kernel_rfl) (by kernel_rfl) (by kernel_rfl) args w
theorem ex_type (args : Array Value) (w : World) : (callFunc 267 args).run Tryz.prog w = ((typeF args).run Tryz.prog w).andThen fun v w' => .ok (.value v) w' := @run_callFunc_extern Tryz.prog 267 _ typeF Tryz.func267 (by kernel_rfl) (by kernel_rfl) (by kernel_rfl) (by kernel_rfl) args w
theorem ex_isNil (args : Array Value) (w : World) : (callFunc 268 args).run Tryz.prog w = ((isNilF args).run Tryz.prog w).andThen fun v w' => .ok (.value v) w' := @run_callFunc_extern Tryz.prog 268 _ isNilF Tryz.func268 (by kernel_rfl) (by kernel_rfl) (by kernel_rfl) (by kernel_rfl) args w
theorem ex_kind (args : Array Value) (w : World) : (callFunc 306 args).run Tryz.prog w = ((kindF args).run Tryz.prog w).andThen fun v w' => .ok (.value v) w' := @run_callFunc_extern Tryz.prog 306 _ kindF Tryz.func306 (by kernel_rfl) (by kernel_rfl) (by kernel_rfl) (by kernel_rfl) args w
theorem ex_elemT (args : Array Value) (w : World) : (callFunc 322 args).run Tryz.prog w = ((elemTF args).run Tryz.prog w).andThen fun v w' => .ok (.value v) w' := @run_callFunc_extern Tryz.prog 322 _ elemTF Tryz.func322 (by kernel_rfl) (by kernel_rfl) (by kernel_rfl) (by kernel_rfl) args w
theorem ex_impl (args : Array Value) (w : World) : (callFunc 323 args).run Tryz.prog w = ((implF args).run Tryz.prog w).andThen fun v w' => .ok (.value v) w' := @run_callFunc_extern Tryz.prog 323 _ implF Tryz.func323 (by kernel_rfl) (by kernel_rfl) (by kernel_rfl) (by kernel_rfl) args w
theorem ex_asgn (args : Array Value) (w : World) : (callFunc 320 args).run Tryz.prog w = ((asgnF args).run Tryz.prog w).andThen fun v w' => .ok (.value v) w' := @run_callFunc_extern Tryz.prog 320 _ asgnF Tryz.func320 (by kernel_rfl) (by kernel_rfl) (by kernel_rfl) (by kernel_rfl) args w
theorem ex_elemV (args : Array Value) (w : World) : (callFunc 280 args).run Tryz.prog w = ((elemVF args).run Tryz.prog w).andThen fun v w' => .ok (.value v) w' := @run_callFunc_extern Tryz.prog 280 _ elemVF Tryz.func280 (by kernel_rfl) (by kernel_rfl) (by kernel_rfl) (by kernel_rfl) args w
theorem ex_set (args : Array Value) (w : World) : (callFunc 281 args).run Tryz.prog w = ((setF args).run Tryz.prog w).andThen fun v w' => .ok (.value v) w' := @run_callFunc_extern Tryz.prog 281 _ setF Tryz.func281 (by kernel_rfl) (by kernel_rfl) (by kernel_rfl) (by kernel_rfl) args w
theorem froz_keep {w w' : World} {D b o : Nat} (hb : Below D w w') (h : w.frozen? ⟨b, o, none⟩ = false) (hl : b < D) : w'.frozen? ⟨b, o, none⟩ = false := by
 have := hb.block b hl;simp only [World.frozen?, this] at h ⊢;exact h
theorem asR_any (c : Int) (ab ao tb tq : Nat) (old : Value) (w : World) (ha : w.cell? ⟨ab, ao, none⟩ = some (.pointer (some ⟨tb, tq, none⟩))) (ht : w.cell? ⟨tb, tq, none⟩ = some old) (hf : w.frozen? ⟨tb, tq, none⟩ = false) :
    Calls Tryz.prog 269 #[.iface 259 (nI c), .iface 261 (.pointer (some ⟨tb, tq, none⟩)), valP ⟨ab, ao, none⟩, hanV 259] w fun e w' => e = .returned (.bool true) ∧ ∃ W, Bl w W ∧ w' = W.setCell ⟨tb, tq, none⟩ (nI c) := by
 have b := box_below w (valO ⟨ab, ao, none⟩);have d := cell_keep b ha (cell_lt ha);have a := below_step b (box_below (w.alloc (valO ⟨ab, ao, none⟩)) (.cells #[nI c] 259));have e1 := ex_typeOf;have e2 := ex_asgn;have e3 := ex_elemV;have e4 := ex_unp;have e5 := ex_set;have t1 := er_typeOf;have m1 := as_mAsgn;have m2 := as_asgnR;have m3 := as_elemV ⟨ab, ao, none⟩ ⟨tb, tq, none⟩ (w.alloc (valO ⟨ab, ao, none⟩)) d;have m4 := as_unpE c (w.alloc (valO ⟨ab, ao, none⟩));have m5 := as_set ⟨tb, tq, none⟩ ⟨w.heap.size + 1, 0, none⟩ c old ((w.alloc (valO ⟨ab, ao, none⟩)).alloc (.cells #[nI c] 259)) (by rw [World.cell?_alloc_at _ _ _ _ (by simp)]; rfl) (cell_keep a ht (cell_lt ht)) (froz_keep a hf (cell_lt ht));go_enter Tryz.func269, Tryz.ntmps269;go_wp2;refine wp_loop_rounds 1 ?_;rw [rounds_succ];go_wp2;go_ret
 exact ⟨rfl, _, a, rfl⟩
theorem asF_any (n c : Int) (ab ao tb tq : Nat) (old : Value) (w : World) (ha : w.cell? ⟨ab, ao, none⟩ = some (.pointer (some ⟨tb, tq, none⟩))) (ht : w.cell? ⟨tb, tq, none⟩ = some old) (hf : w.frozen? ⟨tb, tq, none⟩ = false) :
    Calls Tryz.prog 269 #[.iface 284 (.agg #[nI n, .iface 259 (nI c)]), .iface 261 (.pointer (some ⟨tb, tq, none⟩)), valP ⟨ab, ao, none⟩, hanV 259] w fun e w' => e = .returned (.bool true) ∧ ∃ W, Bl w W ∧ w' = W.setCell ⟨tb, tq, none⟩ (nI c) := by
 have m := box_below w (valO ⟨ab, ao, none⟩);have g := heap_at w (valO ⟨ab, ao, none⟩);have e1 := ex_typeOf;have e2 := ex_asgn;have e3 := ex_elemV;have e4 := ex_unp;have e5 := ex_set;have t1 := er_typeOf;have t2 := er_typeOfF;have m1 := as_mAsgn;have m2 := as_asgnR;have m6 := as_asgnF;have n1 := as_noAsF;have n5 := er_hasUnF;have mU := er_mUn;go_enter Tryz.func269, Tryz.ntmps269;go_wp2;refine wp_loop_rounds 2 ?_;rw [rounds_succ];generalize w.alloc (valO ⟨ab, ao, none⟩) = w0 at g m ⊢;have i : Hid (Bl w w0) := m;have f : w.heap.size < w0.heap.size := (ltH g);clear m;go_wp2_with (go_at_call 318; refine (unwrap_any _ _ _).mono ?_; rintro e b ⟨rfl, j⟩)
 rw [rounds_succ];have k := below_step i.out j;have c0 : b.cell? ⟨w.heap.size, 0, none⟩ = some (.pointer (some ⟨2, 261, none⟩)) := cell_keep j (by simp [World.cell?, g]) f;have c1 : b.cell? ⟨w.heap.size, 1, none⟩ = some (.pointer (some ⟨ab, ao, none⟩)) := cell_keep j (by simp [World.cell?, g]) f;have c2 : b.cell? ⟨w.heap.size, 2, none⟩ = some (.int .u64 150) := cell_keep j (by simp [World.cell?, g]) f;have o := cell_keep k ha (cell_lt ha);have d := cell_keep k ht (cell_lt ht);have p := froz_keep k hf (cell_lt ht);have l := box_below b (.cells #[nI c] 259);have m3 := as_elemV ⟨ab, ao, none⟩ ⟨tb, tq, none⟩ b o;have m4 := as_unpE c b;have m5 := as_set ⟨tb, tq, none⟩ ⟨b.heap.size, 0, none⟩ c old (b.alloc (.cells #[nI c] 259)) (by rw [World.cell?_alloc_at _ _ _ _ (by simp)]; rfl) (cell_keep l d (cell_lt d)) (froz_keep l p (cell_lt d));have q : Hid (Bl w (b.alloc (.cells #[nI c] 259))) := below_step k l;clear k l j ha ht hf o d p g i f;go_wp2;go_ret
 exact ⟨rfl, _, q.out, rfl⟩
def ErrV (v : Value) (c : Int) : Prop := v = refV c ∨ ∃ n : Int, v = fltV n c
theorem as_any (v : Value) (c : Int) (hv : ErrV v c) (ab ao tb tq : Nat) (old : Value) (w : World) (ha : w.cell? ⟨ab, ao, none⟩ = some (.pointer (some ⟨tb, tq, none⟩))) (ht : w.cell? ⟨tb, tq, none⟩ = some old) (hf : w.frozen? ⟨tb, tq, none⟩ = false) :
    Calls Tryz.prog 269 #[v, .iface 261 (.pointer (some ⟨tb, tq, none⟩)), valP ⟨ab, ao, none⟩, hanV 259] w fun e w' => e = .returned (.bool true) ∧ ∃ W, Bl w W ∧ w' = W.setCell ⟨tb, tq, none⟩ (nI c) := by
 rcases hv with rfl | ⟨n, rfl⟩
 ·exact asR_any c ab ao tb tq old w ha ht hf
 ·exact asF_any n c ab ao tb tq old w ha ht hf
theorem asWhole_any (v : Value) (c : Int) (hv : ErrV v c) (tb tq : Nat) (old : Value) (w : World) (hh : Hold w) (ht : w.cell? ⟨tb, tq, none⟩ = some old) (hf : w.frozen? ⟨tb, tq, none⟩ = false) :
    Calls Tryz.prog 241 #[v, .iface 261 (.pointer (some ⟨tb, tq, none⟩))] w fun e a => e = .returned (.bool true) ∧ ∃ W, Bl w W ∧ a = W.setCell ⟨tb, tq, none⟩ (nI c) := by
 have i := box_below w (.cells #[.pointer (some ⟨tb, tq, none⟩)] 261);have b := below_step i (box_below (w.alloc (.cells #[.pointer (some ⟨tb, tq, none⟩)] 261)) (valO ⟨w.heap.size, 0, none⟩));have G2 : ((w.alloc (.cells #[.pointer (some ⟨tb, tq, none⟩)] 261)).alloc (valO ⟨w.heap.size, 0, none⟩)).cell? ⟨1, 0, none⟩ = some (hanV 242) := hh.goes b;have g : ((w.alloc (.cells #[.pointer (some ⟨tb, tq, none⟩)] 261)).alloc (valO ⟨w.heap.size, 0, none⟩)).cell? ⟨w.heap.size, 0, none⟩ = some (.pointer (some ⟨tb, tq, none⟩)) := by
  rw [World.cell?_alloc_lt _ _ ⟨w.heap.size, 0, none⟩ (by simp)]; simp
 have j : Hid (Calls Tryz.prog 269 #[v, .iface 261 (.pointer (some ⟨tb, tq, none⟩)), valP ⟨w.heap.size, 0, none⟩, hanV 259] ((w.alloc (.cells #[.pointer (some ⟨tb, tq, none⟩)] 261)).alloc (valO ⟨w.heap.size, 0, none⟩)) fun e a => e = .returned (.bool true) ∧ ∃ W, Bl w W ∧ a = W.setCell ⟨tb, tq, none⟩ (nI c)) :=
  (as_any v c hv w.heap.size 0 tb tq old _ g (cell_keep b ht (cell_lt ht)) (froz_keep b hf (cell_lt ht))).mono fun e a ⟨h1, W, d, f⟩ => ⟨h1, W, below_step b d, f⟩
 have m8 := as_isNil ⟨w.heap.size, 0, none⟩ ⟨tb, tq, none⟩ _ g;obtain ⟨T, x, rfl⟩ : ∃ T x, v = .iface T x := by
  rcases hv with rfl | ⟨n, rfl⟩
  ·exact ⟨_, _, rfl⟩
  ·exact ⟨_, _, rfl⟩
 clear hv hh ht hf i b;have e1 := ex_unp;have e2 := ex_type;have e3 := ex_kind;have e4 := ex_isNil;have e5 := ex_elemT;have e6 := ex_impl;have m1 := as_unpP;have m2 := as_type;have m3 := as_mKind;have m4 := as_kindP;have m5 := as_kindE;have m6 := as_mElem;have m7 := as_elemT;have m9 := as_mImpl;have k := as_impl;go_enter Tryz.func241, Tryz.ntmps241;go_wp2_with (go_at_call 269; refine j.out.mono ?_; rintro e a ⟨rfl, W, d, f⟩)
 go_ret
 exact ⟨rfl, W, d, rfl⟩
theorem implCodeOf_any (v : Value) (c : Int) (hv : ErrV v c) (w : World) (hh : Hold w) :
    Calls Tryz.prog 205 #[v] w fun e j => e = .returned (nI c) ∧ Bl w j := by
 have a := box_below w (.cells #[nI 0] 259);have i := asWhole_any v c hv w.heap.size 0 (nI 0) (w.alloc (.cells #[nI 0] 259)) (hh.goes a) (by simp) (by simp);clear hh hv;go_enter Tryz.func205, Tryz.ntmps205;go_wp2_with fail
 refine i.mono ?_;rintro e j ⟨rfl, W, d, rfl⟩;have b := heap_at w (.cells #[nI 0] 259);have g : W.heap[w.heap.size]? = some (.cells #[nI 0] 259) := (d.block _ (ltH b)).trans b;have k : (W.setCell ⟨w.heap.size, 0, none⟩ (nI c)).cell? ⟨w.heap.size, 0, none⟩ = some (nI c) := by
  have := heap_setCell_same W w.heap.size 0 _ _ (nI c) g;simp [World.cell?, this]
 have f : Hid (Bl w (W.setCell ⟨w.heap.size, 0, none⟩ (nI c))) := below_setC (below_step a d) (Nat.le_refl _);clear b g i d a;generalize W.setCell ⟨w.heap.size, 0, none⟩ (nI c) = V at k f ⊢;go_wp2;go_ret
 exact ⟨rfl, f.out⟩
theorem implCodeOf_nil (w : World) : Calls Tryz.prog 205 #[.nilIface] w fun e w' => e = .returned (nI 0) ∧ Bl w w' := by
 have a := box_below w (.cells #[nI 0] 259);go_enter Tryz.func205, Tryz.ntmps205;go_wp2_with go_in
 go_ret
 exact ⟨rfl, a⟩
end Go.Proofs.YtdamokokcdcedaaGreatDoor
