import Derived.Test.YtcocbafhcpdheaaGreatDoorS00Box
import Derived.Test.YtcocbafhcpdheaaGreatDoorS30
import Derived.Lib.SliceRun
import Derived.Deep.RegionLaw
import Derived.Deep.CutBlock
namespace Go.Proofs.YtcocbafhcpdheaaGreatDoor
set_option maxHeartbeats 4000000
open Go.ChangeShapes Go.WideShapes Go.ChangeAt Go.RowKit
set_option linter.unusedVariables false
open Go.RowKit
section
variable {P : Program} {C : World → Prop} {l : List Oper} {o : Oper}
end
open Go.ChangeShapes Go.WideShapes Go.ChangeAt Go.RowKit Go.Shelf
attribute [local go_sem] Oper.semAt_some
section
variable {W0 wx : World} {b0 o0 o1 : Nat} {u v : Value}
end
theorem implFindW_u (cs : List Value) (c : CacheD) (k : Int) (w : World) (h : cacheR.rd w cs c) :
    Calls Tryz.prog 132 #[aggV cs, .int .i64 k] w fun e g => ∃ us, e = .returned (.tuple #[aggV us, .int .i64 (findI c k).2]) ∧ MadeR wayR w g us (findI c k).1 := by
 obtain ⟨a, d, b, i, rfl, p, m, l, j, f, n⟩ := cache_rd h;refine (implFindW_any a b c d i k w f n (Nat.le_trans p m) (Nat.le_trans l j) (rows_len f)).mono ?_;rintro e g ⟨av, cv, rfl, o⟩;exact ⟨_, rfl, o⟩
theorem implCacheOk_u (cs : List Value) (c : CacheD) (w : World) (h : cacheR.rd w cs c) :
    Calls Tryz.prog 194 #[aggV cs] w fun e w' => e = .returned (.bool (okB isL treeB c)) ∧ Below w.heap.size w w' := by
 obtain ⟨a, d, b, g, rfl, m, k, j, i, f, l⟩ := cache_rd h;exact implCacheOk_any a b c d g w f l (Nat.le_trans m k) (Nat.le_trans j i) (rows_len f)
theorem implFind_u (cs : List Value) (c : CacheD) (k : Int) (w : World) (hok : OkC isL treeB c) (h : cacheR.rd w cs c) :
    Calls Tryz.prog 196 #[aggV cs, .int .i64 k] w fun e w' => e = .returned (.tuple #[.agg #[.int .i64 (findP c k).1, .int .i64 (findP c k).2.1], .bool (findP c k).2.2]) ∧ Below w.heap.size w w' := by
 obtain ⟨a, d, b, f, rfl, l1, l2, m1, m2, g, r2⟩ := cache_rd h;exact implFind_any a b c d f k w hok g
theorem l6Empty_u (w : World) : Calls Tryz.prog 156 #[] w fun e a => ∃ ds, e = .returned (aggV ds) ∧ MadeR wayR w a ds emptyW := by
 refine (l6Empty_any w).mono ?_;rintro e a ⟨av, cv, rfl, b⟩;exact ⟨_, rfl, b⟩
theorem specAt_u (cs : List Value) (c : CacheD) (k : Int) (w : World) (hok : OkC isL treeB c) (h : cacheR.rd w cs c) :
    Calls Tryz.prog 150 #[aggV cs, .int .i64 k] w fun e w' => e = .returned (.int .i64 (idxI (atC c k))) ∧ Below w.heap.size w w' := by
 obtain ⟨a, d, b, f, rfl, l1, l2, m1, m2, g, r2⟩ := cache_rd h;exact specAt_any a b c d f k w hok g
theorem implEmpty_u (us : List Value) (u : WayD) (w : World) (h : wayR.rd w us u) :
    Calls Tryz.prog 104 #[aggV us] w fun e w' => e = .returned (.bool (clearB u)) ∧ Below w.heap.size w w' := by
 obtain ⟨ad, c, rfl, i1, i2, a, b, k3⟩ := way_rd h;rw [← clr_eq];exact implEmpty_any _ _ _ _ _ w (Nat.le_trans a b)
theorem implFull_u (us : List Value) (u : WayD) (w : World) (h : wayR.rd w us u) :
    Calls Tryz.prog 248 #[aggV us] w fun e w' => e = .returned (.bool (fullB isL u)) ∧ Below w.heap.size w w' := by
 obtain ⟨ad, b, rfl, i1, i2, k1, k2, a⟩ := way_rd h;exact implFull_any _ _ _ _ _ w a
theorem implLetGo_u (us : List Value) (u : WayD) (w : World) (h : wayR.rd w us u) :
    Calls Tryz.prog 249 #[aggV us] w fun e w' => e = .returned (.bool (goneB u)) ∧ Below w.heap.size w w' := by
 obtain ⟨d, a, rfl, i1, i2, k, j, s⟩ := way_rd h;have l : u.2.2.length ≤ 9223372036854775807 := Nat.le_trans k j;clear h k j s;have X := heap_at w (.cells #[.int .i64 u.1, .int .i64 u.2.1, .slice d u.2.2.length a] 88);have B := box_below w (.cells #[.int .i64 u.1, .int .i64 u.2.1, .slice d u.2.2.length a] 88);change Calls Tryz.prog 249 #[.agg #[.int .i64 u.1, .int .i64 u.2.1, .slice d u.2.2.length a]] w _
 unfold goneB;generalize u.2.2.length = n at *;have HB : Hid (∀ b : Bool, b = betw u.1 0 15 → betw u.1 0 15 = b) := fun b e => e.symm;cases q : betw u.1 0 15
 all_goals
  go_enter Tryz.func249, Tryz.ntmps249;go_wp2_with fail
  generalize w.alloc (.cells #[.int .i64 u.1, .int .i64 u.2.1, .slice d n a] 88) = W0 at X B ⊢;refine (lineNumberOk_any _ _).mono ?_;rintro e m ⟨rfl, h⟩;rw [h, q];clear h m;obtain ⟨r, p, o⟩ := cells_three X
 ·clear X r p o;go_wp2;go_ret
  exact ⟨rfl, B⟩
 ·by_cases c : u.2.1 = 0
  ·have i : (u.2.1 == 0) = true := by simp [c]
   by_cases f : n = 0
   ·have g : ((n : Int) == 0) = true := by simp [f]
    clear X;go_wp2;go_ret
    exact ⟨by simp [c, f], B⟩
   ·have g : ((n : Int) == 0) = false := by simp [f]
    clear X;go_wp2;go_ret
    exact ⟨by simp [c, f], B⟩
  ·have i : (u.2.1 == 0) = false := by simp [c]
   clear X;go_wp2;go_ret
   exact ⟨by simp [c], B⟩
def placeB (x : CoreD) : Bool := betw x.2.2.1 0 x.2.1.length && decide ((x.2.2.2.2.2.length : Int) = x.2.2.1)
noncomputable def phaseB (x : CoreD) : Bool := if x.2.2.2.1 = 0 then clearB x.2.2.2.2.1 else if x.2.2.2.1 = 1 then decide (atC x.1 x.2.2.2.2.1.1 = none) && (fullB isL x.2.2.2.2.1 || goneB x.2.2.2.2.1) else if x.2.2.2.1 = 2 then clearB x.2.2.2.2.1 && decide (x.2.2.1 < (x.2.1.length : Int)) else false
theorem core_all (x : CoreD) : coreB x = (okB isL treeB x.1 && (progB x.2.1 && (placeB x && phaseB x))) := by
 unfold coreB progB placeB phaseB restC;cases okB isL treeB x.1
 ·rfl
 by_cases d : x.2.1.length ≤ 30
 ·simp only [d, decide_true, Bool.true_and];cases f : betw x.2.2.1 0 x.2.1.length
  ·cases x.2.1.all opOkD <;> rfl
  ·cases h3 : decide ((x.2.2.2.2.2.length : Int) = x.2.2.1)
   ·cases x.2.1.all opOkD <;> rfl
   ·have g : x.2.2.1 ≤ (x.2.1.length : Int) := by simp [betw] at f; omega
    simp only [Bool.true_and];by_cases b : x.2.2.2.1 = 0
    ·rw [if_pos b, if_neg (by omega)];simp [b, betw]
    ·by_cases a : x.2.2.2.1 = 1
     ·rw [if_neg b, if_pos a, if_pos a];simp only [a, betw];rw [Bool.or_comm, Bool.and_comm (decide (atC x.1 x.2.2.2.2.1.1 = none))];simp
     ·by_cases c : x.2.2.2.1 = 2
      ·rw [if_neg b, if_neg a, if_pos c, if_neg a];have e : decide (x.2.2.1 < (x.2.1.length : Int)) = !decide (x.2.2.1 = (x.2.1.length : Int)) := by
        by_cases e : x.2.2.1 = (x.2.1.length : Int)
        ·simp [e]
        ·simp [e]; omega
       rw [e];simp only [c, betw];cases x.2.1.all opOkD <;> cases clearB x.2.2.2.2.1 <;> cases decide (x.2.2.1 = (x.2.1.length : Int)) <;> simp
      ·rw [if_neg b, if_neg a, if_neg c, if_neg a];have e : betw x.2.2.2.1 0 2 = false := by simp [betw]; omega
       rw [e];cases x.2.1.all opOkD <;> rfl
 ·simp only [d, decide_false, Bool.false_and, Bool.and_false]
theorem implHasOp_u (cs : List Value) (x : CoreD) (w : World) (h : coreR.rd w cs x) :
    Calls Tryz.prog 250 #[aggV cs] w fun e w' => e = .returned (.bool (decide (x.2.2.1 < (x.2.1.length : Int)))) ∧ Below w.heap.size w w' := by
 obtain ⟨c, j, v2, d, i, b, g, rfl, o, p, i2, i3, v, r⟩ := core_rd h;obtain ⟨a, f, n, m, l, -⟩ := p;simp only [List.cons.injEq, and_true] at n;obtain rfl := n;have k : x.2.1.length ≤ 9223372036854775807 := Nat.le_trans m l;clear h o v r m l;change Calls Tryz.prog 250 #[.agg #[c, j, .slice a x.2.1.length f, .int .i64 x.2.2.1, .int .i64 x.2.2.2.1, d, i, b, g]] w _
 have X := heap_at w (.cells #[c, j, .slice a x.2.1.length f, .int .i64 x.2.2.1, .int .i64 x.2.2.2.1, d, i, b, g] 95);have B := box_below w (.cells #[c, j, .slice a x.2.1.length f, .int .i64 x.2.2.1, .int .i64 x.2.2.2.1, d, i, b, g] 95);have q : Hid _ := B;clear B;by_cases s : x.2.2.1 < (x.2.1.length : Int)
 all_goals
  go_enter Tryz.func250, Tryz.ntmps250;obtain ⟨y0, y1, y2, y3, y4, y5, y6, y7, y8⟩ := cells_core X;clear X;go_wp2;go_ret
  exact ⟨by simp [s], q.out⟩
theorem implPlace_u (cs : List Value) (x : CoreD) (w : World) (h : coreR.rd w cs x) :
    Calls Tryz.prog 214 #[aggV cs] w fun e w' => e = .returned (.bool (placeB x)) ∧ Below w.heap.size w w' := by
 obtain ⟨d, n, v2, f, k, c, v8, rfl, A, C, i2, i3, G, E⟩ := core_rd h;obtain ⟨b, g, z, v, q, -⟩ := C;simp only [List.cons.injEq, and_true] at z;obtain rfl := z;obtain ⟨l, j, s, r, y, -⟩ := E;simp only [List.cons.injEq, and_true] at s;obtain rfl := s;have o : x.2.1.length ≤ 9223372036854775807 := Nat.le_trans v q;have p : x.2.2.2.2.2.length ≤ 9223372036854775807 := Nat.le_trans r y;clear h A G v q r y;change Calls Tryz.prog 214 #[.agg #[d, n, .slice b x.2.1.length g, .int .i64 x.2.2.1, .int .i64 x.2.2.2.1, f, k, c, .slice l x.2.2.2.2.2.length j]] w _
 have X := heap_at w (.cells #[d, n, .slice b x.2.1.length g, .int .i64 x.2.2.1, .int .i64 x.2.2.2.1, f, k, c, .slice l x.2.2.2.2.2.length j] 95);have B := box_below w (.cells #[d, n, .slice b x.2.1.length g, .int .i64 x.2.2.1, .int .i64 x.2.2.2.1, f, k, c, .slice l x.2.2.2.2.2.length j] 95);unfold placeB;have i : Hid _ := B;clear B;have hc : ((x.2.2.2.2.2.length : Int) == x.2.2.1) = decide ((x.2.2.2.2.2.length : Int) = x.2.2.1) := rfl;cases F : betw x.2.2.1 0 x.2.1.length
 all_goals
  go_enter Tryz.func214, Tryz.ntmps214;obtain ⟨y0, y1, y2, y3, y4, y5, y6, y7, y8⟩ := cells_core X;clear X;go_wp2_with fail
  refine (between_any _ _ _ _).mono ?_;rintro e D ⟨rfl, h⟩;rw [h, F];clear h D
 ·go_wp2;go_ret
  exact ⟨rfl, i.out⟩
 ·by_cases a : (x.2.2.2.2.2.length : Int) = x.2.2.1
  ·have m : ((x.2.2.2.2.2.length : Int) == x.2.2.1) = true := by simp [a]
   go_wp2;go_ret
   exact ⟨by simp [a], i.out⟩
  ·have m : ((x.2.2.2.2.2.length : Int) == x.2.2.1) = false := by simp [a]
   go_wp2;go_ret
   exact ⟨by simp [a], i.out⟩
theorem find_there {c : CacheD} (h : OkC isL treeB c) (k : Int) : (findP c k).2.2 = !decide (atC c k = none) := by
 rw [findP_eq h];cases a : betw k 0 15
 ·rw [at_out h a]; rfl
 ·cases atC c k <;> rfl
theorem implPhase_u (cs : List Value) (x : CoreD) (w : World) (hok : OkC isL treeB x.1) (h : coreR.rd w cs x) :
    Calls Tryz.prog 215 #[aggV cs] w fun e w' => e = .returned (.bool (phaseB x)) ∧ Below w.heap.size w w' := by
 have J : Hid _ := fun (W : World) (hb : Below w.heap.size w W) => implHasOp_u cs x W (rd_next h hb);obtain ⟨r, y, F, s, v, q, G, rfl, R, V, i2, i3, A, r5⟩ := core_rd h;have K : Hid (∀ W, Below w.heap.size w W → Calls Tryz.prog 104 #[.agg #[s, v, q]] W fun e w' => e = .returned (.bool (clearB x.2.2.2.2.1)) ∧ Below W.heap.size W w') := fun W hb => implEmpty_u [s, v, q] _ W (rd_next A hb);have N : Hid (∀ W, Below w.heap.size w W → Calls Tryz.prog 248 #[.agg #[s, v, q]] W fun e w' => e = .returned (.bool (fullB isL x.2.2.2.2.1)) ∧ Below W.heap.size W w') := fun W hb => implFull_u [s, v, q] _ W (rd_next A hb);have S : Hid (∀ W, Below w.heap.size w W → Calls Tryz.prog 249 #[.agg #[s, v, q]] W fun e w' => e = .returned (.bool (goneB x.2.2.2.2.1)) ∧ Below W.heap.size W w') := fun W hb => implLetGo_u [s, v, q] _ W (rd_next A hb);have C : Hid (∀ W, Below w.heap.size w W → Calls Tryz.prog 196 #[.agg #[r, y], .int .i64 x.2.2.2.2.1.1] W fun e w' => e = .returned (.tuple #[.agg #[.int .i64 (findP x.1 x.2.2.2.2.1.1).1, .int .i64 (findP x.1 x.2.2.2.2.1.1).2.1], .bool (!decide (atC x.1 x.2.2.2.2.1.1 = none))]) ∧ Below W.heap.size W w') := fun W hb => by
  have := implFind_u [r, y] x.1 x.2.2.2.2.1.1 W hok (rd_next R hb);rw [find_there hok] at this;exact this
 obtain ⟨E, a, T, -, -, -, -, -⟩ := way_rd A;simp only [List.cons.injEq, and_true] at T;obtain ⟨rfl, rfl, rfl⟩ := T;clear h R V A r5 hok;unfold phaseB;change Calls Tryz.prog 215 #[.agg #[r, y, F, .int .i64 x.2.2.1, .int .i64 x.2.2.2.1, .int .i64 x.2.2.2.2.1.1, .int .i64 x.2.2.2.2.1.2.1, .slice E x.2.2.2.2.1.2.2.length a, G]] w _
 rw [show aggV _ = .agg _ from rfl] at J;generalize decide (x.2.2.1 < (x.2.1.length : Int)) = hp at J ⊢;generalize clearB x.2.2.2.2.1 = cl at K ⊢;generalize fullB isL x.2.2.2.2.1 = fu at N ⊢;generalize goneB x.2.2.2.2.1 = go at S ⊢;generalize H : decide (atC x.1 x.2.2.2.2.1.1 = none) = an at C ⊢;clear H;generalize findP x.1 x.2.2.2.2.1.1 = fp at C;have X := heap_at w (.cells #[r, y, F, .int .i64 x.2.2.1, .int .i64 x.2.2.2.1, .int .i64 x.2.2.2.2.1.1, .int .i64 x.2.2.2.2.1.2.1, .slice E x.2.2.2.2.1.2.2.length a, G] 95);have B := box_below w (.cells #[r, y, F, .int .i64 x.2.2.1, .int .i64 x.2.2.2.1, .int .i64 x.2.2.2.2.1.1, .int .i64 x.2.2.2.2.1.2.1, .slice E x.2.2.2.2.1.2.2.length a, G] 95);generalize x.2.2.2.1 = ph at *;have HI : ∀ b c d : Bool, (if ph = 0 then b else if ph = 1 then c else if ph = 2 then d else false) = (if ph = 0 then b else if ph = 1 then c else if ph = 2 then d else false) := fun _ _ _ => rfl;clear HI;go_enter Tryz.func215, Tryz.ntmps215;obtain ⟨o, j, g, k, p, l, i, m, n⟩ := cells_core X;by_cases L : ph = 0
 ·subst L;rw [if_pos rfl];go_wp2_with fail
  refine (K.out _ B).mono ?_;rintro e D ⟨rfl, f⟩;go_wp2;go_ret
  exact ⟨rfl, below_step B f⟩
 ·have Z : (ph == 0) = false := by simp [L]
  rw [if_neg L];by_cases M : ph = 1
  ·subst M;rw [if_pos rfl];go_wp2_with fail
   generalize w.alloc (.cells #[r, y, F, .int .i64 x.2.2.1, .int .i64 1, .int .i64 x.2.2.2.2.1.1, .int .i64 x.2.2.2.2.1.2.1, .slice E x.2.2.2.2.1.2.2.length a, G] 95) = W0 at X B ⊢;refine (C.out _ B).mono ?_;rintro e D ⟨rfl, f⟩;replace X := heap_on (.cells #[.int .i64 fp.1, .int .i64 fp.2.1] 217) (row_keep f X);replace B := below_step (below_step B f) (box_below D (.cells #[.int .i64 fp.1, .int .i64 fp.2.1] 217));clear f C o j g k p l i m n;obtain ⟨o, j, g, k, p, l, i, m, n⟩ := cells_core X;cases an
   ·clear X;go_wp2;go_ret
    exact ⟨rfl, B⟩
   ·go_wp2_with fail
    generalize D.alloc (.cells #[.int .i64 fp.1, .int .i64 fp.2.1] 217) = W1 at X B ⊢;refine (N.out _ B).mono ?_;rintro e Y ⟨rfl, z⟩;replace X := row_keep z X;replace B := below_step B z;clear z N o j g k p l i m n;obtain ⟨o, j, g, k, p, l, i, m, n⟩ := cells_core X;cases fu
    ·go_wp2_with fail
     refine (S.out _ B).mono ?_;rintro e w3 ⟨rfl, O⟩;replace B := below_step B O;clear X O o j g k p l i m n;go_wp2;go_ret
     exact ⟨rfl, B⟩
    ·clear X;go_wp2;go_ret
     exact ⟨rfl, B⟩
  ·have aA : (ph == 1) = false := by simp [M]
   rw [if_neg M];by_cases I : ph = 2
   ·subst I;rw [if_pos rfl];go_wp2_with fail
    refine (K.out _ B).mono ?_;rintro e D ⟨rfl, f⟩;replace X := row_keep f X;replace B := below_step B f;clear f o j g k p l i m n;obtain ⟨o, j, g, k, p, l, i, m, n⟩ := cells_core X;cases cl
    ·clear X;go_wp2;go_ret
     exact ⟨rfl, B⟩
    ·go_wp2_with fail
     refine (J.out _ B).mono ?_;rintro e Y ⟨rfl, z⟩;clear X o j g k p l i m n;go_wp2;go_ret
     exact ⟨rfl, below_step B z⟩
   ·have U : (ph == 2) = false := by simp [I]
    rw [if_neg I];clear X;go_wp2;go_ret
    exact ⟨rfl, B⟩
theorem implCoreOk_u (cs : List Value) (x : CoreD) (w : World) (h : coreR.rd w cs x) :
    Calls Tryz.prog 172 #[aggV cs] w fun e w' => e = .returned (.bool (coreB x)) ∧ Below w.heap.size w w' := by
 rw [core_all];have p : Hid _ := fun (W : World) (hb : Below w.heap.size w W) => implPlace_u cs x W (rd_next h hb);have n : Hid (∀ W, okB isL treeB x.1 = true → Below w.heap.size w W → Calls Tryz.prog 215 #[aggV cs] W fun e w' => e = .returned (.bool (phaseB x)) ∧ Below W.heap.size W w') := fun W hk hb => implPhase_u cs x W (okB_iff.1 hk) (rd_next h hb);obtain ⟨m, o, r, y, A, s, z, rfl, D, E, i2, i3, J, H⟩ := core_rd h;have C : Hid (∀ W, Below w.heap.size w W → Calls Tryz.prog 194 #[.agg #[m, o]] W fun e w' => e = .returned (.bool (okB isL treeB x.1)) ∧ Below W.heap.size W w') := fun W hb => implCacheOk_u [m, o] _ W (rd_next D hb);have v : Hid (∀ W, Below w.heap.size w W → Calls Tryz.prog 213 #[r] W fun e w' => e = .returned (.bool (progB x.2.1)) ∧ Below W.heap.size W w') := fun W hb => by
  obtain ⟨a1, c1, F, I, G, q⟩ := rd_next E hb;simp only [List.cons.injEq, and_true] at F;obtain rfl := F;exact implOpsOk_any _ _ _ W q (Nat.le_trans I G)
 clear h D E J H;rw [show aggV _ = .agg _ from rfl] at p n ⊢;generalize placeB x = pl at p ⊢;generalize phaseB x = pb at n ⊢;generalize progB x.2.1 = pr at v ⊢;generalize okB isL treeB x.1 = ok at C n ⊢;have X := heap_at w (.cells #[m, o, r, .int .i64 x.2.2.1, .int .i64 x.2.2.2.1, y, A, s, z] 95);have B := box_below w (.cells #[m, o, r, .int .i64 x.2.2.1, .int .i64 x.2.2.2.1, y, A, s, z] 95);go_enter Tryz.func172, Tryz.ntmps172;obtain ⟨k, d, b, f, l, g, c, i, j⟩ := cells_core X;go_wp2_with fail
 generalize w.alloc (.cells #[m, o, r, .int .i64 x.2.2.1, .int .i64 x.2.2.2.1, y, A, s, z] 95) = W0 at X B ⊢;refine (C.out _ B).mono ?_;rintro e w1 ⟨rfl, a⟩;replace X := row_keep a X;replace B := below_step B a;clear a C k d b f l g c i j;obtain ⟨k, d, b, f, l, g, c, i, j⟩ := cells_core X;cases ok
 ·clear X;go_wp2;go_ret
  exact ⟨rfl, B⟩
 go_wp2_with fail
 refine (v.out _ B).mono ?_;rintro e w2 ⟨rfl, a⟩;replace X := row_keep a X;replace B := below_step B a;clear a v k d b f l g c i j;obtain ⟨k, d, b, f, l, g, c, i, j⟩ := cells_core X;cases pr
 ·clear X;go_wp2;go_ret
  exact ⟨rfl, B⟩
 go_wp2_with fail
 refine (p.out _ B).mono ?_;rintro e w3 ⟨rfl, a⟩;replace X := row_keep a X;replace B := below_step B a;clear a p k d b f l g c i j;obtain ⟨k, d, b, f, l, g, c, i, j⟩ := cells_core X;cases pl
 ·clear X;go_wp2;go_ret
  exact ⟨rfl, B⟩
 go_wp2_with fail
 refine (n.out _ (by first | rfl | trivial) B).mono ?_;rintro e w4 ⟨rfl, a⟩;replace B := below_step B a;clear a n X k d b f l g c i j;go_wp2;go_ret
 exact ⟨rfl, B⟩
open Go.RowKit Go.Extern.Stop Go.Stop Go.Extern
theorem ex_typeOf (args : Array Value) (w : World) : (callFunc 273 args).run Tryz.prog w = ((Extern.ReflectliteType.typeOf args).run Tryz.prog w).andThen fun v w' => .ok (.value v) w' := @run_callFunc_extern Tryz.prog 273 _ Extern.ReflectliteType.typeOf Tryz.func273 (by kernel_rfl) (by kernel_rfl) (by kernel_rfl) (by kernel_rfl) args w
theorem ex_unp (args : Array Value) (w : World) : (callFunc 257 args).run Tryz.prog w = ((unpF args).run Tryz.prog w).andThen fun v w' => .ok (.value v) w' := @run_callFunc_extern Tryz.prog 257 _ unpF Tryz.func257 (by kernel_rfl) (by kernel_rfl) (by kernel_rfl) (by kernel_rfl) args w
theorem ex_type (args : Array Value) (w : World) : (callFunc 258 args).run Tryz.prog w = ((typeF args).run Tryz.prog w).andThen fun v w' => .ok (.value v) w' := @run_callFunc_extern Tryz.prog 258 _ typeF Tryz.func258 (by kernel_rfl) (by kernel_rfl) (by kernel_rfl) (by kernel_rfl) args w
theorem ex_isNil (args : Array Value) (w : World) : (callFunc 259 args).run Tryz.prog w = ((isNilF args).run Tryz.prog w).andThen fun v w' => .ok (.value v) w' := @run_callFunc_extern Tryz.prog 259 _ isNilF Tryz.func259 (by kernel_rfl) (by kernel_rfl) (by kernel_rfl) (by kernel_rfl) args w
theorem ex_kind (args : Array Value) (w : World) : (callFunc 301 args).run Tryz.prog w = ((kindF args).run Tryz.prog w).andThen fun v w' => .ok (.value v) w' := @run_callFunc_extern Tryz.prog 301 _ kindF Tryz.func301 (by kernel_rfl) (by kernel_rfl) (by kernel_rfl) (by kernel_rfl) args w
theorem ex_elemT (args : Array Value) (w : World) : (callFunc 318 args).run Tryz.prog w = ((elemTF args).run Tryz.prog w).andThen fun v w' => .ok (.value v) w' := @run_callFunc_extern Tryz.prog 318 _ elemTF Tryz.func318 (by kernel_rfl) (by kernel_rfl) (by kernel_rfl) (by kernel_rfl) args w
theorem ex_impl (args : Array Value) (w : World) : (callFunc 319 args).run Tryz.prog w = ((implF args).run Tryz.prog w).andThen fun v w' => .ok (.value v) w' := @run_callFunc_extern Tryz.prog 319 _ implF Tryz.func319 (by kernel_rfl) (by kernel_rfl) (by kernel_rfl) (by kernel_rfl) args w
theorem ex_asgn (args : Array Value) (w : World) : (callFunc 316 args).run Tryz.prog w = ((asgnF args).run Tryz.prog w).andThen fun v w' => .ok (.value v) w' := @run_callFunc_extern Tryz.prog 316 _ asgnF Tryz.func316 (by kernel_rfl) (by kernel_rfl) (by kernel_rfl) (by kernel_rfl) args w
theorem ex_elemV (args : Array Value) (w : World) : (callFunc 274 args).run Tryz.prog w = ((elemVF args).run Tryz.prog w).andThen fun v w' => .ok (.value v) w' := @run_callFunc_extern Tryz.prog 274 _ elemVF Tryz.func274 (by kernel_rfl) (by kernel_rfl) (by kernel_rfl) (by kernel_rfl) args w
theorem ex_set (args : Array Value) (w : World) : (callFunc 275 args).run Tryz.prog w = ((setF args).run Tryz.prog w).andThen fun v w' => .ok (.value v) w' := @run_callFunc_extern Tryz.prog 275 _ setF Tryz.func275 (by kernel_rfl) (by kernel_rfl) (by kernel_rfl) (by kernel_rfl) args w
theorem froz_keep {w w' : World} {D b o : Nat} (hb : Below D w w') (h : w.frozen? ⟨b, o, none⟩ = false) (hl : b < D) : w'.frozen? ⟨b, o, none⟩ = false := by
 have := hb.block b hl;simp only [World.frozen?, this] at h ⊢;exact h
theorem asR_any (c : Int) (ab ao tb tq : Nat) (old : Value) (w : World) (ha : w.cell? ⟨ab, ao, none⟩ = some (.pointer (some ⟨tb, tq, none⟩))) (ht : w.cell? ⟨tb, tq, none⟩ = some old) (hf : w.frozen? ⟨tb, tq, none⟩ = false) :
    Calls Tryz.prog 260 #[.iface 243 (.int .i64 c), .iface 245 (.pointer (some ⟨tb, tq, none⟩)), valP ⟨ab, ao, none⟩, hanV 243] w fun e w' => e = .returned (.bool true) ∧ ∃ W, Below w.heap.size w W ∧ w' = W.setCell ⟨tb, tq, none⟩ (.int .i64 c) := by
 have b := box_below w (valO ⟨ab, ao, none⟩);have d := cell_keep b ha (cell_lt ha);have a := below_step b (box_below (w.alloc (valO ⟨ab, ao, none⟩)) (.cells #[.int .i64 c] 243));have e1 := ex_typeOf;have e2 := ex_asgn;have e3 := ex_elemV;have e4 := ex_unp;have e5 := ex_set;have t1 := er_typeOf;have m1 := as_mAsgn;have m2 := as_asgnR;have m3 := as_elemV ⟨ab, ao, none⟩ ⟨tb, tq, none⟩ (w.alloc (valO ⟨ab, ao, none⟩)) d;have m4 := as_unpE c (w.alloc (valO ⟨ab, ao, none⟩));have m5 := as_set ⟨tb, tq, none⟩ ⟨w.heap.size + 1, 0, none⟩ c old ((w.alloc (valO ⟨ab, ao, none⟩)).alloc (.cells #[.int .i64 c] 243)) (by rw [World.cell?_alloc_at _ _ _ _ (by simp)]; rfl) (cell_keep a ht (cell_lt ht)) (froz_keep a hf (cell_lt ht));go_enter Tryz.func260, Tryz.ntmps260;go_wp2;refine wp_loop_rounds 1 ?_;rw [rounds_succ];go_wp2;go_ret
 exact ⟨rfl, _, a, rfl⟩
theorem asF_any (n c : Int) (ab ao tb tq : Nat) (old : Value) (w : World) (ha : w.cell? ⟨ab, ao, none⟩ = some (.pointer (some ⟨tb, tq, none⟩))) (ht : w.cell? ⟨tb, tq, none⟩ = some old) (hf : w.frozen? ⟨tb, tq, none⟩ = false) :
    Calls Tryz.prog 260 #[.iface 275 (.agg #[.int .i64 n, .iface 243 (.int .i64 c)]), .iface 245 (.pointer (some ⟨tb, tq, none⟩)), valP ⟨ab, ao, none⟩, hanV 243] w fun e w' => e = .returned (.bool true) ∧ ∃ W, Below w.heap.size w W ∧ w' = W.setCell ⟨tb, tq, none⟩ (.int .i64 c) := by
 have m := box_below w (valO ⟨ab, ao, none⟩);have g := heap_at w (valO ⟨ab, ao, none⟩);have e1 := ex_typeOf;have e2 := ex_asgn;have e3 := ex_elemV;have e4 := ex_unp;have e5 := ex_set;have t1 := er_typeOf;have t2 := er_typeOfF;have m1 := as_mAsgn;have m2 := as_asgnR;have m6 := as_asgnF;have n1 := as_noAsF;have n5 := er_hasUnF;have mU := er_mUn;go_enter Tryz.func260, Tryz.ntmps260;go_wp2;refine wp_loop_rounds 2 ?_;rw [rounds_succ];generalize w.alloc (valO ⟨ab, ao, none⟩) = w0 at g m ⊢;have j : Hid (Below w.heap.size w w0) := m;have f : w.heap.size < w0.heap.size := (ltH g);clear m;go_wp2_with (go_at_call 314; refine (unwrap_any _ _ _).mono ?_; rintro e b ⟨rfl, k⟩)
 rw [rounds_succ];have i := below_step j.out k;have c0 : b.cell? ⟨w.heap.size, 0, none⟩ = some (.pointer (some ⟨2, 245, none⟩)) := cell_keep k (by simp [World.cell?, g]) f;have c1 : b.cell? ⟨w.heap.size, 1, none⟩ = some (.pointer (some ⟨ab, ao, none⟩)) := cell_keep k (by simp [World.cell?, g]) f;have c2 : b.cell? ⟨w.heap.size, 2, none⟩ = some (.int .u64 150) := cell_keep k (by simp [World.cell?, g]) f;have o := cell_keep i ha (cell_lt ha);have d := cell_keep i ht (cell_lt ht);have p := froz_keep i hf (cell_lt ht);have l := box_below b (.cells #[.int .i64 c] 243);have m3 := as_elemV ⟨ab, ao, none⟩ ⟨tb, tq, none⟩ b o;have m4 := as_unpE c b;have m5 := as_set ⟨tb, tq, none⟩ ⟨b.heap.size, 0, none⟩ c old (b.alloc (.cells #[.int .i64 c] 243)) (by rw [World.cell?_alloc_at _ _ _ _ (by simp)]; rfl) (cell_keep l d (cell_lt d)) (froz_keep l p (cell_lt d));have q : Hid (Below w.heap.size w (b.alloc (.cells #[.int .i64 c] 243))) := below_step i l;clear i l k ha ht hf o d p g j f;go_wp2;go_ret
 exact ⟨rfl, _, q.out, rfl⟩
def ErrV (v : Value) (c : Int) : Prop := v = refV c ∨ ∃ n : Int, v = fltV n c
theorem as_any (v : Value) (c : Int) (hv : ErrV v c) (ab ao tb tq : Nat) (old : Value) (w : World) (ha : w.cell? ⟨ab, ao, none⟩ = some (.pointer (some ⟨tb, tq, none⟩))) (ht : w.cell? ⟨tb, tq, none⟩ = some old) (hf : w.frozen? ⟨tb, tq, none⟩ = false) :
    Calls Tryz.prog 260 #[v, .iface 245 (.pointer (some ⟨tb, tq, none⟩)), valP ⟨ab, ao, none⟩, hanV 243] w fun e w' => e = .returned (.bool true) ∧ ∃ W, Below w.heap.size w W ∧ w' = W.setCell ⟨tb, tq, none⟩ (.int .i64 c) := by
 rcases hv with rfl | ⟨n, rfl⟩
 ·exact asR_any c ab ao tb tq old w ha ht hf
 ·exact asF_any n c ab ao tb tq old w ha ht hf
theorem asWhole_any (v : Value) (c : Int) (hv : ErrV v c) (tb tq : Nat) (old : Value) (w : World) (hh : Hold w) (ht : w.cell? ⟨tb, tq, none⟩ = some old) (hf : w.frozen? ⟨tb, tq, none⟩ = false) :
    Calls Tryz.prog 225 #[v, .iface 245 (.pointer (some ⟨tb, tq, none⟩))] w fun e b => e = .returned (.bool true) ∧ ∃ W, Below w.heap.size w W ∧ b = W.setCell ⟨tb, tq, none⟩ (.int .i64 c) := by
 have g := box_below w (.cells #[.pointer (some ⟨tb, tq, none⟩)] 245);have a := below_step g (box_below (w.alloc (.cells #[.pointer (some ⟨tb, tq, none⟩)] 245)) (valO ⟨w.heap.size, 0, none⟩));have G2 : ((w.alloc (.cells #[.pointer (some ⟨tb, tq, none⟩)] 245)).alloc (valO ⟨w.heap.size, 0, none⟩)).cell? ⟨1, 0, none⟩ = some (hanV 213) := hh.goes a;have f : ((w.alloc (.cells #[.pointer (some ⟨tb, tq, none⟩)] 245)).alloc (valO ⟨w.heap.size, 0, none⟩)).cell? ⟨w.heap.size, 0, none⟩ = some (.pointer (some ⟨tb, tq, none⟩)) := by
  rw [World.cell?_alloc_lt _ _ ⟨w.heap.size, 0, none⟩ (by simp)]; simp
 have j : Hid (Calls Tryz.prog 260 #[v, .iface 245 (.pointer (some ⟨tb, tq, none⟩)), valP ⟨w.heap.size, 0, none⟩, hanV 243] ((w.alloc (.cells #[.pointer (some ⟨tb, tq, none⟩)] 245)).alloc (valO ⟨w.heap.size, 0, none⟩)) fun e b => e = .returned (.bool true) ∧ ∃ W, Below w.heap.size w W ∧ b = W.setCell ⟨tb, tq, none⟩ (.int .i64 c)) :=
  (as_any v c hv w.heap.size 0 tb tq old _ f (cell_keep a ht (cell_lt ht)) (froz_keep a hf (cell_lt ht))).mono fun e b ⟨h1, W, d, i⟩ => ⟨h1, W, below_step a d, i⟩
 have m8 := as_isNil ⟨w.heap.size, 0, none⟩ ⟨tb, tq, none⟩ _ f;obtain ⟨T, x, rfl⟩ : ∃ T x, v = .iface T x := by
  rcases hv with rfl | ⟨n, rfl⟩
  ·exact ⟨_, _, rfl⟩
  ·exact ⟨_, _, rfl⟩
 clear hv hh ht hf g a;have e1 := ex_unp;have e2 := ex_type;have e3 := ex_kind;have e4 := ex_isNil;have e5 := ex_elemT;have e6 := ex_impl;have m1 := as_unpP;have m2 := as_type;have m3 := as_mKind;have m4 := as_kindP;have m5 := as_kindE;have m6 := as_mElem;have m7 := as_elemT;have m9 := as_mImpl;have k := as_impl;go_enter Tryz.func225, Tryz.ntmps225;go_wp2_with (go_at_call 260; refine j.out.mono ?_; rintro e b ⟨rfl, W, d, i⟩)
 go_ret
 exact ⟨rfl, W, d, rfl⟩
theorem implCodeOf_any (v : Value) (c : Int) (hv : ErrV v c) (w : World) (hh : Hold w) :
    Calls Tryz.prog 183 #[v] w fun e i => e = .returned (.int .i64 c) ∧ Below w.heap.size w i := by
 have a := box_below w (.cells #[.int .i64 0] 243);have f := asWhole_any v c hv w.heap.size 0 (.int .i64 0) (w.alloc (.cells #[.int .i64 0] 243)) (hh.goes a) (by simp) (by simp);clear hh hv;go_enter Tryz.func183, Tryz.ntmps183;go_wp2_with fail
 refine f.mono ?_;rintro e i ⟨rfl, W, d, rfl⟩;have b := heap_at w (.cells #[.int .i64 0] 243);have j : W.heap[w.heap.size]? = some (.cells #[.int .i64 0] 243) := (d.block _ (ltH b)).trans b;have k : (W.setCell ⟨w.heap.size, 0, none⟩ (.int .i64 c)).cell? ⟨w.heap.size, 0, none⟩ = some (.int .i64 c) := by
  have := heap_setCell_same W w.heap.size 0 _ _ (.int .i64 c) j;simp [World.cell?, this]
 have g : Hid (Below w.heap.size w (W.setCell ⟨w.heap.size, 0, none⟩ (.int .i64 c))) := below_setC (below_step a d) (Nat.le_refl _);clear b j;clear f d a;generalize W.setCell ⟨w.heap.size, 0, none⟩ (.int .i64 c) = V at k g ⊢;go_wp2;go_ret
 exact ⟨rfl, g.out⟩
theorem implCodeOf_nil (w : World) : Calls Tryz.prog 183 #[.nilIface] w fun e w' => e = .returned (.int .i64 0) ∧ Below w.heap.size w w' := by
 have a := box_below w (.cells #[.int .i64 0] 243);go_enter Tryz.func183, Tryz.ntmps183;go_wp2_with go_in
 go_ret
 exact ⟨rfl, a⟩
end Go.Proofs.YtcocbafhcpdheaaGreatDoor
