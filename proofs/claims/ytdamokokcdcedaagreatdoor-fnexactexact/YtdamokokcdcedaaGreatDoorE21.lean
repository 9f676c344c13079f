import Derived.Test.YtdamokokcdcedaaGreatDoorE00Box
import Derived.Test.YtdamokokcdcedaaGreatDoorE20
import Derived.Deep.RegionHeld3
import Derived.Lib.SliceRun
import Derived.Deep.RegionLaw
namespace Go.Proofs.YtdamokokcdcedaaGreatDoor
set_option maxHeartbeats 4000000
open Go.ChangeShapes Go.WideShapes Go.ChangeAt Go.RowKit
set_option linter.unusedVariables false
theorem own_nothing (w : World) (S : Foot) : intsR.own w S [sL none 0 0] [] := ⟨_, [], fun _ => False, rfl, World.ownsRow_nil _ _ _ _, fun g hg => by simp [Value.ownBlock] at hg, fun _ h => h.elim, rfl⟩
theorem l6Empty_any (w : World) : Calls Tryz.prog 170 #[] w fun e w' => ∃ av cv, e = .returned (.agg #[nI (-1), nI 0, sL av 0 cv]) ∧ MadeR wayR w w' [nI (-1), nI 0, sL av 0 cv] emptyW := by
 go_enter Tryz.func170, Tryz.ntmps170;go_wp2;refine bodyPost_ret (v := .agg #[nI (-1), nI 0, sL none 0 0]) (by simp [results, Tryz.results170, go_sem]) rfl ⟨_, _, rfl, own_way (by constructor <;> decide) (by constructor <;> decide) (own_nothing _ _), box_below w _⟩
section
variable {α : Type}
end
section
variable {α : Type}
end
open Go.ChangeShapes Go.WideShapes Go.ChangeAt Go.RowKit Go.Shelf
theorem cs1 {w : World} {g b o k : Nat} {u v : Value} (hne : ¬ (b = g)) (h : w.cell? ⟨b, k, none⟩ = some u) : (w.setCell ⟨g, o, none⟩ v).cell? ⟨b, k, none⟩ = some u :=
 (World.cell?_of_block (w := w) (a := ⟨b, k, none⟩) (heap_setCell_other w ⟨g, o, none⟩ b v hne)).trans h
theorem cs3 {w : World} {g b k : Nat} {u x y z : Value} (hne : ¬ (b = g)) (h : w.cell? ⟨b, k, none⟩ = some u) : (((w.setCell ⟨g, 0, none⟩ x).setCell ⟨g, 1, none⟩ y).setCell ⟨g, 2, none⟩ z).cell? ⟨b, k, none⟩ = some u := cs1 hne (cs1 hne (cs1 hne h))
theorem l6Way_in (b : Option Addr) (c : CacheD) (cap cp b0 o0 bj oj cj fi cpw : Nat) (ad : Option Addr) (line : Int) (ul us : Int) (ud : List Int) (w : World) (hokc : OkC isL treeB c) (h1 : SlRd waysR w (some ⟨b0, o0, none⟩) c.1) (hat : atC c line = some fi)
    (k2 : w.cell? ⟨b0, o0 + setNo c line, none⟩ = some (sL (some ⟨bj, oj, none⟩) (rowFor c line).length cj)) (k4 : w.cell? ⟨bj, oj + fi * 3, none⟩ = some (nI ul)) (k5 : w.cell? ⟨bj, oj + fi * 3 + 1, none⟩ = some (nI us)) (k6 : w.cell? ⟨bj, oj + fi * 3 + 2, none⟩ = some (sL ad ud.length cpw)) :
    Calls Tryz.prog 108 #[.agg #[sL (some ⟨b0, o0, none⟩) c.1.length cap, sL b c.2.length cp], nI line] w fun e w' => e = .returned (.agg #[nI ul, nI us, sL ad ud.length cpw]) ∧ Below w.heap.size w w' := by
 obtain ⟨C, u, F, o⟩ := at_some hat;have l : Hid (∀ W, Below w.heap.size w W → Calls Tryz.prog 136 #[.agg #[sL (some ⟨b0, o0, none⟩) c.1.length cap, sL b c.2.length cp], nI line] W fun e w' => e = .returned (nI (fi : Int)) ∧ Below W.heap.size W w') := fun W hbw => by
  have := specAt_any (some ⟨b0, o0, none⟩) b c cap cp line W hokc (slrd_keep h1 fun k hk => hbw.block k hk);rwa [hat] at this
 obtain ⟨O, j, E, D, f, p⟩ := ok_row hokc line;have q := (List.getElem?_eq_some_iff.1 F).1;have s : (fi : Int) < ((rowFor c line).length : Int) := by omega
 have i : ((setNo c line : Nat) : Int) < (c.1.length : Int) := by omega
 have d : line % (c.1.length : Int) = ((setNo c line : Nat) : Int) := f.symm;have R : (c.1.length : Int) ≠ 0 := by omega
 have L : ((c.1.length : Int) == 0) = false := beq_false_of_ne R;have m : ¬ (c.1.length = 0) := by omega
 have S : ¬ (c.1 = []) := fun e => by rw [e] at m; exact m rfl
 have y : Int.tmod line (c.1.length : Int) = ((setNo c line : Nat) : Int) := by rw [Int.tmod_eq_emod_of_nonneg C, d]
 have G : ¬ ((fi : Int) < 0) := by omega
 have z : Hid (∀ W, Below w.heap.size w W → W.cell? ⟨b0, o0 + setNo c line, none⟩ = some (sL (some ⟨bj, oj, none⟩) (rowFor c line).length cj) ∧ W.cell? ⟨bj, oj + fi * 3, none⟩ = some (nI ul) ∧ W.cell? ⟨bj, oj + fi * 3 + 1, none⟩ = some (nI us) ∧ W.cell? ⟨bj, oj + fi * 3 + 2, none⟩ = some (sL ad ud.length cpw)) :=
  fun W hbw => ⟨cell_keep hbw k2 (cell_lt k2), cell_keep hbw k4 (cell_lt k4), cell_keep hbw k5 (cell_lt k5), cell_keep hbw k6 (cell_lt k6)⟩
 have V := cell_lt k2;have T := cell_lt k4;clear h1 hokc j E D f F o k2 k4 k5 k6 O hat;generalize setNo c line = sn at z p i d y;generalize (rowFor c line).length = rn at z s q;have X := heap_on (.cells #[nI 0, nI 0, sL none 0 0] 74) (heap_at w (.cells #[sL (some ⟨b0, o0, none⟩) c.1.length cap, sL b c.2.length cp] 95));have Y := heap_at (w.alloc (.cells #[sL (some ⟨b0, o0, none⟩) c.1.length cap, sL b c.2.length cp] 95)) (.cells #[nI 0, nI 0, sL none 0 0] 74);rw [alloc_len] at Y;have B := below_step (box_below w (.cells #[sL (some ⟨b0, o0, none⟩) c.1.length cap, sL b c.2.length cp] 95)) (box_below _ (.cells #[nI 0, nI 0, sL none 0 0] 74));go_enter Tryz.func108, Tryz.ntmps108;go_wp2_with fail
 generalize (w.alloc (.cells #[sL (some ⟨b0, o0, none⟩) c.1.length cap, sL b c.2.length cp] 95)).alloc (.cells #[nI 0, nI 0, sL none 0 0] 74) = W0 at X Y B ⊢;refine (l.out _ B).mono ?_;rintro e I ⟨rfl, n⟩;replace B := below_step B n;replace X := row_keep n X;replace Y := row_keep n Y;clear n l;obtain ⟨x0, x1⟩ := cells_two X;obtain ⟨y0, y1, y2⟩ := cells_3 Y;obtain ⟨f0, f1, f2⟩ := cells_froz Y;obtain ⟨N, p1, M, Z⟩ := z.out _ B;have r : ¬ (w.heap.size = w.heap.size + 1) := by omega
 have A : ¬ (b0 = w.heap.size + 1) := by omega
 have g : ¬ (bj = w.heap.size + 1) := by omega
 have H : Hid _ := Y;clear X Y;go_wp2_with fail
 go_region_held3 (fun wx => wx.cell? ⟨w.heap.size, 0, none⟩ = some (sL (some ⟨b0, o0, none⟩) c.1.length cap) ∧ wx.cell? ⟨b0, o0 + sn, none⟩ = some (sL (some ⟨bj, oj, none⟩) rn cj) ∧ wx.cell? ⟨bj, oj + fi * 3, none⟩ = some (nI ul) ∧ wx.cell? ⟨bj, oj + fi * 3 + 1, none⟩ = some (nI us) ∧ wx.cell? ⟨bj, oj + fi * 3 + 2, none⟩ = some (sL ad ud.length cpw)) (first | (go_keep; done) | (exact ⟨cs3 r x0, cs3 A N, cs3 g p1, cs3 g M, cs3 g Z⟩)) (fail)
 all_goals
  go_wp2;obtain ⟨J, K, U⟩ := cells_3 (put3 (w := I) (a := nI ul) (b := nI us) (c := sL ad ud.length cpw) H.out);refine bodyPost_ret (v := .agg #[nI ul, nI us, sL ad ud.length cpw]) (by simp [results, Tryz.results108, go_sem, J, K, U]) rfl ⟨rfl, (below_setC (below_setC (below_setC B (by omega)) (by omega)) (by omega)).drew⟩
open Go.RowKit
section
variable {P : Program} {C : World → Prop} {l : List Oper} {o : Oper}
end
attribute [local go_sem] Oper.semAt_some
section
variable {W0 wx : World} {b0 o0 o1 : Nat} {u v : Value}
end
theorem implCacheOk_u (cs : List Value) (c : CacheD) (w : World) (h : cacheR.rd w cs c) :
    Calls Tryz.prog 231 #[aggV cs] w fun e w' => e = .returned (.bool (okB isL treeB c)) ∧ Bl w w' := by
 obtain ⟨a, d, b, g, rfl, m, i, j, l, f, k⟩ := cache_rd h;exact implCacheOk_any a b c d g w f k (Nat.le_trans m i) (Nat.le_trans j l) (rows_len f)
theorem implFind_u (cs : List Value) (c : CacheD) (k : Int) (w : World) (hok : OkC isL treeB c) (h : cacheR.rd w cs c) :
    Calls Tryz.prog 260 #[aggV cs, nI k] w fun e w' => e = .returned (.tuple #[.agg #[nI (findP c k).1, nI (findP c k).2.1], .bool (findP c k).2.2]) ∧ Bl w w' := by
 obtain ⟨a, d, b, f, rfl, l1, l2, m1, m2, g, r2⟩ := cache_rd h;exact implFind_any a b c d f k w hok g
theorem l6Empty_u (w : World) : Calls Tryz.prog 170 #[] w fun e a => ∃ ds, e = .returned (aggV ds) ∧ MadeR wayR w a ds emptyW := by
 refine (l6Empty_any w).mono ?_;rintro e a ⟨av, cv, rfl, b⟩;exact ⟨_, rfl, b⟩
theorem specAt_u (cs : List Value) (c : CacheD) (k : Int) (w : World) (hok : OkC isL treeB c) (h : cacheR.rd w cs c) :
    Calls Tryz.prog 136 #[aggV cs, nI k] w fun e w' => e = .returned (nI (idxI (atC c k))) ∧ Bl w w' := by
 obtain ⟨a, d, b, f, rfl, l1, l2, m1, m2, g, r2⟩ := cache_rd h;exact specAt_any a b c d f k w hok g
theorem implEmpty_u (us : List Value) (u : WayD) (w : World) (h : wayR.rd w us u) :
    Calls Tryz.prog 94 #[aggV us] w fun e w' => e = .returned (.bool (clearB u)) ∧ Bl w w' := by
 obtain ⟨ad, c, rfl, i1, i2, b, a, k3⟩ := way_rd h;rw [← clr_eq];exact implEmpty_any _ _ _ _ _ w (Nat.le_trans b a)
theorem implFull_u (us : List Value) (u : WayD) (w : World) (h : wayR.rd w us u) :
    Calls Tryz.prog 261 #[aggV us] w fun e w' => e = .returned (.bool (fullB isL u)) ∧ Bl w w' := by
 obtain ⟨ad, b, rfl, i1, i2, k1, k2, a⟩ := way_rd h;exact implFull_any _ _ _ _ _ w a
theorem implLetGo_u (us : List Value) (u : WayD) (w : World) (h : wayR.rd w us u) :
    Calls Tryz.prog 262 #[aggV us] w fun e w' => e = .returned (.bool (goneB u)) ∧ Bl w w' := by
 obtain ⟨f, a, rfl, i1, i2, k, l, o⟩ := way_rd h;have j : u.2.2.length ≤ 9223372036854775807 := Nat.le_trans k l;clear h k l o;have X := heap_at w (.cells #[nI u.1, nI u.2.1, sL f u.2.2.length a] 74);have B := box_below w (.cells #[nI u.1, nI u.2.1, sL f u.2.2.length a] 74);change Calls Tryz.prog 262 #[.agg #[nI u.1, nI u.2.1, sL f u.2.2.length a]] w _
 unfold goneB;generalize u.2.2.length = n at *;have HB : Hid (∀ b : Bool, b = betw u.1 0 15 → betw u.1 0 15 = b) := fun b e => e.symm;cases m : betw u.1 0 15
 all_goals
  go_enter Tryz.func262, Tryz.ntmps262;go_wp2_with fail
  generalize w.alloc (.cells #[nI u.1, nI u.2.1, sL f n a] 74) = W0 at X B ⊢;refine (lineNumberOk_any _ _).mono ?_;rintro e p ⟨rfl, h⟩;rw [h, m];clear h p;obtain ⟨s, q, r⟩ := cells_three X
 ·clear X s q r;go_wp2;go_ret
  exact ⟨rfl, B⟩
 ·by_cases c : u.2.1 = 0
  ·have g : (u.2.1 == 0) = true := by simp [c]
   by_cases d : n = 0
   ·have i : ((n : Int) == 0) = true := by simp [d]
    clear X;go_wp2;go_ret
    exact ⟨by simp [c, d], B⟩
   ·have i : ((n : Int) == 0) = false := by simp [d]
    clear X;go_wp2;go_ret
    exact ⟨by simp [c, d], B⟩
  ·have g : (u.2.1 == 0) = false := by simp [c]
   clear X;go_wp2;go_ret
   exact ⟨by simp [c], B⟩
def placeB (x : CoreD) : Bool := betw x.2.2.1 0 x.2.1.length && decide ((x.2.2.2.2.2.length : Int) = x.2.2.1)
noncomputable def phaseB (x : CoreD) : Bool := if x.2.2.2.1 = 0 then clearB x.2.2.2.2.1 else if x.2.2.2.1 = 1 then decide (atC x.1 x.2.2.2.2.1.1 = none) && (fullB isL x.2.2.2.2.1 || goneB x.2.2.2.2.1) else if x.2.2.2.1 = 2 then clearB x.2.2.2.2.1 && decide (x.2.2.1 < (x.2.1.length : Int)) else false
theorem core_all (x : CoreD) : coreB x = (okB isL treeB x.1 && (progB x.2.1 && (placeB x && phaseB x))) := by
 unfold coreB progB placeB phaseB restC;cases okB isL treeB x.1
 ·rfl
 by_cases d : x.2.1.length ≤ 30
 ·simp only [d, decide_true, Bool.true_and];cases g : betw x.2.2.1 0 x.2.1.length
  ·cases x.2.1.all opOkD <;> rfl
  ·cases h3 : decide ((x.2.2.2.2.2.length : Int) = x.2.2.1)
   ·cases x.2.1.all opOkD <;> rfl
   ·have f : x.2.2.1 ≤ (x.2.1.length : Int) := by simp [betw] at g; omega
    simp only [Bool.true_and];by_cases b : x.2.2.2.1 = 0
    ·rw [if_pos b, if_neg (by omega)];simp [b, betw]
    ·by_cases a : x.2.2.2.1 = 1
     ·rw [if_neg b, if_pos a, if_pos a];simp only [a, betw];rw [Bool.or_comm, Bool.and_comm (decide (atC x.1 x.2.2.2.2.1.1 = none))];simp
     ·by_cases c : x.2.2.2.1 = 2
      ·rw [if_neg b, if_neg a, if_pos c, if_neg a];have e : decide (x.2.2.1 < (x.2.1.length : Int)) = !decide (x.2.2.1 = (x.2.1.length : Int)) := by
        by_cases e : x.2.2.1 = (x.2.1.length : Int)
        ·simp [e]
        ·simp [e]; omega
       rw [e];simp only [c, betw];cases x.2.1.all opOkD <;> cases clearB x.2.2.2.2.1 <;> cases decide (x.2.2.1 = (x.2.1.length : Int)) <;> simp
      ·rw [if_neg b, if_neg a, if_neg c, if_neg a];have e : betw x.2.2.2.1 0 2 = false := by simp [betw]; omega
       rw [e];cases x.2.1.all opOkD <;> rfl
 ·simp only [d, decide_false, Bool.false_and, Bool.and_false]
theorem implHasOp_u (cs : List Value) (x : CoreD) (w : World) (h : coreR.rd w cs x) :
    Calls Tryz.prog 172 #[aggV cs] w fun e w' => e = .returned (.bool (decide (x.2.2.1 < (x.2.1.length : Int)))) ∧ Bl w w' := by
 obtain ⟨b, d, v2, j, i, g, c, rfl, o, p, i2, i3, s, q⟩ := core_rd h;obtain ⟨a, f, m, k, l, -⟩ := p;simp only [List.cons.injEq, and_true] at m;obtain rfl := m;have n : x.2.1.length ≤ 9223372036854775807 := Nat.le_trans k l;clear h o s q k l;change Calls Tryz.prog 172 #[.agg #[b, d, sL a x.2.1.length f, nI x.2.2.1, nI x.2.2.2.1, j, i, g, c]] w _
 have X := heap_at w (.cells #[b, d, sL a x.2.1.length f, nI x.2.2.1, nI x.2.2.2.1, j, i, g, c] 98);have B := box_below w (.cells #[b, d, sL a x.2.1.length f, nI x.2.2.1, nI x.2.2.2.1, j, i, g, c] 98);have r : Hid _ := B;clear B;by_cases v : x.2.2.1 < (x.2.1.length : Int)
 all_goals
  go_enter Tryz.func172, Tryz.ntmps172;obtain ⟨y0, y1, y2, y3, y4, y5, y6, y7, y8⟩ := cells_core X;clear X;go_wp2;go_ret
  exact ⟨by simp [v], r.out⟩
theorem implPlace_u (cs : List Value) (x : CoreD) (w : World) (h : coreR.rd w cs x) :
    Calls Tryz.prog 233 #[aggV cs] w fun e w' => e = .returned (.bool (placeB x)) ∧ Bl w w' := by
 obtain ⟨d, f, v2, m, l, k, v8, rfl, A, C, i2, i3, G, F⟩ := core_rd h;obtain ⟨c, i, s, p, q, -⟩ := C;simp only [List.cons.injEq, and_true] at s;obtain rfl := s;obtain ⟨b, j, o, r, z, -⟩ := F;simp only [List.cons.injEq, and_true] at o;obtain rfl := o;have v : x.2.1.length ≤ 9223372036854775807 := Nat.le_trans p q;have y : x.2.2.2.2.2.length ≤ 9223372036854775807 := Nat.le_trans r z;clear h A G p q r z;change Calls Tryz.prog 233 #[.agg #[d, f, sL c x.2.1.length i, nI x.2.2.1, nI x.2.2.2.1, m, l, k, sL b x.2.2.2.2.2.length j]] w _
 have X := heap_at w (.cells #[d, f, sL c x.2.1.length i, nI x.2.2.1, nI x.2.2.2.1, m, l, k, sL b x.2.2.2.2.2.length j] 98);have B := box_below w (.cells #[d, f, sL c x.2.1.length i, nI x.2.2.1, nI x.2.2.2.1, m, l, k, sL b x.2.2.2.2.2.length j] 98);unfold placeB;have n : Hid _ := B;clear B;have hc : ((x.2.2.2.2.2.length : Int) == x.2.2.1) = decide ((x.2.2.2.2.2.length : Int) = x.2.2.1) := rfl;cases D : betw x.2.2.1 0 x.2.1.length
 all_goals
  go_enter Tryz.func233, Tryz.ntmps233;obtain ⟨y0, y1, y2, y3, y4, y5, y6, y7, y8⟩ := cells_core X;clear X;go_wp2_with fail
  refine (between_any _ _ _ _).mono ?_;rintro e E ⟨rfl, h⟩;rw [h, D];clear h E
 ·go_wp2;go_ret
  exact ⟨rfl, n.out⟩
 ·by_cases a : (x.2.2.2.2.2.length : Int) = x.2.2.1
  ·have g : ((x.2.2.2.2.2.length : Int) == x.2.2.1) = true := by simp [a]
   go_wp2;go_ret
   exact ⟨by simp [a], n.out⟩
  ·have g : ((x.2.2.2.2.2.length : Int) == x.2.2.1) = false := by simp [a]
   go_wp2;go_ret
   exact ⟨by simp [a], n.out⟩
theorem find_there {c : CacheD} (h : OkC isL treeB c) (k : Int) : (findP c k).2.2 = !decide (atC c k = none) := by
 rw [findP_eq h];cases a : betw k 0 15
 ·rw [at_out h a]; rfl
 ·cases atC c k <;> rfl
theorem implPhase_u (cs : List Value) (x : CoreD) (w : World) (hok : OkC isL treeB x.1) (h : coreR.rd w cs x) :
    Calls Tryz.prog 234 #[aggV cs] w fun e w' => e = .returned (.bool (phaseB x)) ∧ Bl w w' := by
 have I : Hid _ := fun (W : World) (hb : Bl w W) => implHasOp_u cs x W (rd_next h hb);obtain ⟨q, r, D, y, v, s, E, rfl, O, Y, i2, i3, A, r5⟩ := core_rd h;have M : Hid (∀ W, Bl w W → Calls Tryz.prog 94 #[.agg #[y, v, s]] W fun e w' => e = .returned (.bool (clearB x.2.2.2.2.1)) ∧ Bl W w') := fun W hb => implEmpty_u [y, v, s] _ W (rd_next A hb);have L : Hid (∀ W, Bl w W → Calls Tryz.prog 261 #[.agg #[y, v, s]] W fun e w' => e = .returned (.bool (fullB isL x.2.2.2.2.1)) ∧ Bl W w') := fun W hb => implFull_u [y, v, s] _ W (rd_next A hb);have S : Hid (∀ W, Bl w W → Calls Tryz.prog 262 #[.agg #[y, v, s]] W fun e w' => e = .returned (.bool (goneB x.2.2.2.2.1)) ∧ Bl W w') := fun W hb => implLetGo_u [y, v, s] _ W (rd_next A hb);have C : Hid (∀ W, Bl w W → Calls Tryz.prog 260 #[.agg #[q, r], nI x.2.2.2.2.1.1] W fun e w' => e = .returned (.tuple #[.agg #[nI (findP x.1 x.2.2.2.2.1.1).1, nI (findP x.1 x.2.2.2.2.1.1).2.1], .bool (!decide (atC x.1 x.2.2.2.2.1.1 = none))]) ∧ Bl W w') := fun W hb => by
  have := implFind_u [q, r] x.1 x.2.2.2.2.1.1 W hok (rd_next O hb);rw [find_there hok] at this;exact this
 obtain ⟨G, f, R, -, -, -, -, -⟩ := way_rd A;simp only [List.cons.injEq, and_true] at R;obtain ⟨rfl, rfl, rfl⟩ := R;clear h O Y A r5 hok;unfold phaseB;change Calls Tryz.prog 234 #[.agg #[q, r, D, nI x.2.2.1, nI x.2.2.2.1, nI x.2.2.2.2.1.1, nI x.2.2.2.2.1.2.1, sL G x.2.2.2.2.1.2.2.length f, E]] w _
 rw [aE] at I;generalize decide (x.2.2.1 < (x.2.1.length : Int)) = hp at I ⊢;generalize clearB x.2.2.2.2.1 = cl at M ⊢;generalize fullB isL x.2.2.2.2.1 = fu at L ⊢;generalize goneB x.2.2.2.2.1 = go at S ⊢;generalize K : decide (atC x.1 x.2.2.2.2.1.1 = none) = an at C ⊢;clear K;generalize findP x.1 x.2.2.2.2.1.1 = fp at C;have X := heap_at w (.cells #[q, r, D, nI x.2.2.1, nI x.2.2.2.1, nI x.2.2.2.2.1.1, nI x.2.2.2.2.1.2.1, sL G x.2.2.2.2.1.2.2.length f, E] 98);have B := box_below w (.cells #[q, r, D, nI x.2.2.1, nI x.2.2.2.1, nI x.2.2.2.2.1.1, nI x.2.2.2.2.1.2.1, sL G x.2.2.2.2.1.2.2.length f, E] 98);generalize x.2.2.2.1 = ph at *;have HI : ∀ b c d : Bool, (if ph = 0 then b else if ph = 1 then c else if ph = 2 then d else false) = (if ph = 0 then b else if ph = 1 then c else if ph = 2 then d else false) := fun _ _ _ => rfl;clear HI;go_enter Tryz.func234, Tryz.ntmps234;obtain ⟨p, m, o, g, n, l, j, i, k⟩ := cells_core X;by_cases J : ph = 0
 ·subst J;rw [if_pos rfl];go_wp2_with fail
  refine (M.out _ B).mono ?_;rintro e F ⟨rfl, a⟩;go_wp2;go_ret
  exact ⟨rfl, below_step B a⟩
 ·have Z : (ph == 0) = false := by simp [J]
  rw [if_neg J];by_cases N : ph = 1
  ·subst N;rw [if_pos rfl];go_wp2_with fail
   generalize w.alloc (.cells #[q, r, D, nI x.2.2.1, nI 1, nI x.2.2.2.2.1.1, nI x.2.2.2.2.1.2.1, sL G x.2.2.2.2.1.2.2.length f, E] 98) = W0 at X B ⊢;refine (C.out _ B).mono ?_;rintro e F ⟨rfl, a⟩;replace X := heap_on (.cells #[nI fp.1, nI fp.2.1] 151) (row_keep a X);replace B := below_step (below_step B a) (box_below F (.cells #[nI fp.1, nI fp.2.1] 151));clear a C p m o g n l j i k;obtain ⟨p, m, o, g, n, l, j, i, k⟩ := cells_core X;cases an
   ·clear X;go_wp2;go_ret
    exact ⟨rfl, B⟩
   ·go_wp2_with fail
    generalize F.alloc (.cells #[nI fp.1, nI fp.2.1] 151) = W1 at X B ⊢;refine (L.out _ B).mono ?_;rintro e V ⟨rfl, z⟩;replace X := row_keep z X;replace B := below_step B z;clear z L p m o g n l j i k;obtain ⟨p, m, o, g, n, l, j, i, k⟩ := cells_core X;cases fu
    ·go_wp2_with fail
     refine (S.out _ B).mono ?_;rintro e w3 ⟨rfl, T⟩;replace B := below_step B T;clear X T p m o g n l j i k;go_wp2;go_ret
     exact ⟨rfl, B⟩
    ·clear X;go_wp2;go_ret
     exact ⟨rfl, B⟩
  ·have aA : (ph == 1) = false := by simp [N]
   rw [if_neg N];by_cases H : ph = 2
   ·subst H;rw [if_pos rfl];go_wp2_with fail
    refine (M.out _ B).mono ?_;rintro e F ⟨rfl, a⟩;replace X := row_keep a X;replace B := below_step B a;clear a p m o g n l j i k;obtain ⟨p, m, o, g, n, l, j, i, k⟩ := cells_core X;cases cl
    ·clear X;go_wp2;go_ret
     exact ⟨rfl, B⟩
    ·go_wp2_with fail
     refine (I.out _ B).mono ?_;rintro e V ⟨rfl, z⟩;clear X p m o g n l j i k;go_wp2;go_ret
     exact ⟨rfl, below_step B z⟩
   ·have U : (ph == 2) = false := by simp [H]
    rw [if_neg H];clear X;go_wp2;go_ret
    exact ⟨rfl, B⟩
theorem implCoreOk_u (cs : List Value) (x : CoreD) (w : World) (h : coreR.rd w cs x) :
    Calls Tryz.prog 195 #[aggV cs] w fun e w' => e = .returned (.bool (coreB x)) ∧ Bl w w' := by
 rw [core_all];have r : Hid _ := fun (W : World) (hb : Bl w W) => implPlace_u cs x W (rd_next h hb);have o : Hid (∀ W, okB isL treeB x.1 = true → Bl w W → Calls Tryz.prog 234 #[aggV cs] W fun e w' => e = .returned (.bool (phaseB x)) ∧ Bl W w') := fun W hk hb => implPhase_u cs x W (okB_iff.1 hk) (rd_next h hb);obtain ⟨m, n, p, z, y, v, s, rfl, D, E, i2, i3, J, I⟩ := core_rd h;have A : Hid (∀ W, Bl w W → Calls Tryz.prog 231 #[.agg #[m, n]] W fun e w' => e = .returned (.bool (okB isL treeB x.1)) ∧ Bl W w') := fun W hb => implCacheOk_u [m, n] _ W (rd_next D hb);have C : Hid (∀ W, Bl w W → Calls Tryz.prog 232 #[p] W fun e w' => e = .returned (.bool (progB x.2.1)) ∧ Bl W w') := fun W hb => by
  obtain ⟨a1, c1, F, G, H, q⟩ := rd_next E hb;simp only [List.cons.injEq, and_true] at F;obtain rfl := F;exact implOpsOk_any _ _ _ W q (Nat.le_trans G H)
 clear h D E J I;rw [aE] at r o ⊢;generalize placeB x = pl at r ⊢;generalize phaseB x = pb at o ⊢;generalize progB x.2.1 = pr at C ⊢;generalize okB isL treeB x.1 = ok at A o ⊢;have X := heap_at w (.cells #[m, n, p, nI x.2.2.1, nI x.2.2.2.1, z, y, v, s] 98);have B := box_below w (.cells #[m, n, p, nI x.2.2.1, nI x.2.2.2.1, z, y, v, s] 98);go_enter Tryz.func195, Tryz.ntmps195;obtain ⟨l, i, k, b, j, g, d, c, f⟩ := cells_core X;go_wp2_with fail
 generalize w.alloc (.cells #[m, n, p, nI x.2.2.1, nI x.2.2.2.1, z, y, v, s] 98) = W0 at X B ⊢;refine (A.out _ B).mono ?_;rintro e w1 ⟨rfl, a⟩;replace X := row_keep a X;replace B := below_step B a;clear a A l i k b j g d c f;obtain ⟨l, i, k, b, j, g, d, c, f⟩ := cells_core X;cases ok
 ·clear X;go_wp2;go_ret
  exact ⟨rfl, B⟩
 go_wp2_with fail
 refine (C.out _ B).mono ?_;rintro e w2 ⟨rfl, a⟩;replace X := row_keep a X;replace B := below_step B a;clear a C l i k b j g d c f;obtain ⟨l, i, k, b, j, g, d, c, f⟩ := cells_core X;cases pr
 ·clear X;go_wp2;go_ret
  exact ⟨rfl, B⟩
 go_wp2_with fail
 refine (r.out _ B).mono ?_;rintro e w3 ⟨rfl, a⟩;replace X := row_keep a X;replace B := below_step B a;clear a r l i k b j g d c f;obtain ⟨l, i, k, b, j, g, d, c, f⟩ := cells_core X;cases pl
 ·clear X;go_wp2;go_ret
  exact ⟨rfl, B⟩
 go_wp2_with fail
 refine (o.out _ (by first | rfl | trivial) B).mono ?_;rintro e w4 ⟨rfl, a⟩;replace B := below_step B a;clear a o X l i k b j g d c f;go_wp2;go_ret
 exact ⟨rfl, B⟩
open Go.RowKit Go.Extern.Stop Go.Stop Go.Extern
theorem ex_typeOf (args : Array Value) (w : World) : (callFunc 279 args).run Tryz.prog w = ((Extern.ReflectliteType.typeOf args).run Tryz.prog w).andThen fun v w' => .ok (.value v) w' := @run_callFunc_extern Tryz.prog 279 _ Extern.ReflectliteType.typeOf Tryz.func279 (by kernel_rfl) (by kernel_rfl) (by kernel_rfl) (by kernel_rfl) args w
theorem ex_unp (args : Array Value) (w : World) : (callFunc 266 args).run Tryz.prog w = ((unpF args).run Tryz.prog w).andThen fun v w' => .ok (.value v) w' := @run_callFunc_extern Tryz.prog 266 _ unpF Tryz.func266 (by kernel_rfl) (by kernel_rfl) (by kernel_rfl) (by kernel_rfl) args w
theorem ex_type (args : Array Value) (w : World) : (callFunc 267 args).run Tryz.prog w = ((typeF args).run Tryz.prog w).andThen fun v w' => .ok (.value v) w' := @run_callFunc_extern Tryz.prog 267 _ typeF Tryz.func267 (by kernel_rfl) (by kernel_rfl) (by kernel_rfl) (by kernel_rfl) args w
theorem ex_isNil (args : Array Value) (w : World) : (callFunc 268 args).run Tryz.prog w = ((isNilF args).run Tryz.prog w).andThen fun v w' => .ok (.value v) w' := @run_callFunc_extern Tryz.prog 268 _ isNilF Tryz.func268 (by kernel_rfl) (by kernel_rfl) (by kernel_rfl) (by kernel_rfl) args w
theorem ex_kind (args : Array Value) (w : World) : (callFunc 306 args).run Tryz.prog w = ((kindF args).run Tryz.prog w).andThen fun v w' => .ok (.value v) w' := @run_callFunc_extern Tryz.prog 306 _ kindF Tryz.func306 (by kernel_rfl) (by kernel_rfl) (by kernel_rfl) (by kernel_rfl) args w
theorem ex_elemT (args : Array Value) (w : World) : (callFunc 322 args).run Tryz.prog w = ((elemTF args).run Tryz.prog w).andThen fun v w' => .ok (.value v) w' := @run_callFunc_extern Tryz.prog 322 _ elemTF Tryz.func322 (by kernel_rfl) (by kernel_rfl) (by kernel_rfl) (by kernel_rfl) args w
theorem ex_impl (args : Array Value) (w : World) : (callFunc 323 args).run Tryz.prog w = ((implF args).run Tryz.prog w).andThen fun v w' => .ok (.value v) w' := @run_callFunc_extern Tryz.prog 323 _ implF Tryz.func323 (by kernel_rfl) (by kernel_rfl) (by kernel_rfl) (by kernel_rfl) args w
theorem ex_asgn (args : Array Value) (w : World) : (callFunc 320 args).run Tryz.prog w = ((asgnF args).run Tryz.prog w).andThen fun v w' => .ok (.value v) w' := @run_callFunc_extern Tryz.prog 320 _ asgnF Tryz.func320 (by kernel_rfl) (by kernel_rfl) (by kernel_rfl) (by kernel_rfl) args w
theorem ex_elemV (args : Array Value) (w : World) : (callFunc 280 args).run Tryz.prog w = ((elemVF args).run Tryz.prog w).andThen fun v w' => .ok (.value v) w' := @run_callFunc_extern Tryz.prog 280 _ elemVF Tryz.func280 (by kernel_rfl) (by kernel_rfl) (by kernel_rfl) (by kernel_rfl) args w
theorem ex_set (args : Array Value) (w : World) : (callFunc 281 args).run Tryz.prog w = ((setF args).run Tryz.prog w).andThen fun v w' => .ok (.value v) w' := @run_callFunc_extern Tryz.prog 281 _ setF Tryz.func281 (by kernel_rfl) (by kernel_rfl) (by kernel_rfl) (by kernel_rfl) args w
theorem froz_keep {w w' : World} {D b o : Nat} (hb : Below D w w') (h : w.frozen? ⟨b, o, none⟩ = false) (hl : b < D) : w'.frozen? ⟨b, o, none⟩ = false := by
 have := hb.block b hl;simp only [World.frozen?, this] at h ⊢;exact h
theorem asR_any (c : Int) (ab ao tb tq : Nat) (old : Value) (w : World) (ha : w.cell? ⟨ab, ao, none⟩ = some (.pointer (some ⟨tb, tq, none⟩))) (ht : w.cell? ⟨tb, tq, none⟩ = some old) (hf : w.frozen? ⟨tb, tq, none⟩ = false) :
    Calls Tryz.prog 269 #[.iface 259 (nI c), .iface 261 (.pointer (some ⟨tb, tq, none⟩)), valP ⟨ab, ao, none⟩, hanV 259] w fun e w' => e = .returned (.bool true) ∧ ∃ W, Bl w W ∧ w' = W.setCell ⟨tb, tq, none⟩ (nI c) := by
 have b := box_below w (valO ⟨ab, ao, none⟩);have d := cell_keep b ha (cell_lt ha);have a := below_step b (box_below (w.alloc (valO ⟨ab, ao, none⟩)) (.cells #[nI c] 259));have e1 := ex_typeOf;have e2 := ex_asgn;have e3 := ex_elemV;have e4 := ex_unp;have e5 := ex_set;have t1 := er_typeOf;have m1 := as_mAsgn;have m2 := as_asgnR;have m3 := as_elemV ⟨ab, ao, none⟩ ⟨tb, tq, none⟩ (w.alloc (valO ⟨ab, ao, none⟩)) d;have m4 := as_unpE c (w.alloc (valO ⟨ab, ao, none⟩));have m5 := as_set ⟨tb, tq, none⟩ ⟨w.heap.size + 1, 0, none⟩ c old ((w.alloc (valO ⟨ab, ao, none⟩)).alloc (.cells #[nI c] 259)) (by rw [World.cell?_alloc_at _ _ _ _ (by simp)]; rfl) (cell_keep a ht (cell_lt ht)) (froz_keep a hf (cell_lt ht));go_enter Tryz.func269, Tryz.ntmps269;go_wp2;refine wp_loop_rounds 1 ?_;rw [rounds_succ];go_wp2;go_ret
 exact ⟨rfl, _, a, rfl⟩
theorem asF_any (n c : Int) (ab ao tb tq : Nat) (old : Value) (w : World) (ha : w.cell? ⟨ab, ao, none⟩ = some (.pointer (some ⟨tb, tq, none⟩))) (ht : w.cell? ⟨tb, tq, none⟩ = some old) (hf : w.frozen? ⟨tb, tq, none⟩ = false) :
    Calls Tryz.prog 269 #[.iface 284 (.agg #[nI n, .iface 259 (nI c)]), .iface 261 (.pointer (some ⟨tb, tq, none⟩)), valP ⟨ab, ao, none⟩, hanV 259] w fun e w' => e = .returned (.bool true) ∧ ∃ W, Bl w W ∧ w' = W.setCell ⟨tb, tq, none⟩ (nI c) := by
 have m := box_below w (valO ⟨ab, ao, none⟩);have g := heap_at w (valO ⟨ab, ao, none⟩);have e1 := ex_typeOf;have e2 := ex_asgn;have e3 := ex_elemV;have e4 := ex_unp;have e5 := ex_set;have t1 := er_typeOf;have t2 := er_typeOfF;have m1 := as_mAsgn;have m2 := as_asgnR;have m6 := as_asgnF;have n1 := as_noAsF;have n5 := er_hasUnF;have mU := er_mUn;go_enter Tryz.func269, Tryz.ntmps269;go_wp2;refine wp_loop_rounds 2 ?_;rw [rounds_succ];generalize w.alloc (valO ⟨ab, ao, none⟩) = w0 at g m ⊢;have j : Hid (Bl w w0) := m;have f : w.heap.size < w0.heap.size := (ltH g);clear m;go_wp2_with (go_at_call 318; refine (unwrap_any _ _ _).mono ?_; rintro e b ⟨rfl, k⟩)
 rw [rounds_succ];have i := below_step j.out k;have c0 : b.cell? ⟨w.heap.size, 0, none⟩ = some (.pointer (some ⟨2, 261, none⟩)) := cell_keep k (by simp [World.cell?, g]) f;have c1 : b.cell? ⟨w.heap.size, 1, none⟩ = some (.pointer (some ⟨ab, ao, none⟩)) := cell_keep k (by simp [World.cell?, g]) f;have c2 : b.cell? ⟨w.heap.size, 2, none⟩ = some (.int .u64 150) := cell_keep k (by simp [World.cell?, g]) f;have o := cell_keep i ha (cell_lt ha);have d := cell_keep i ht (cell_lt ht);have p := froz_keep i hf (cell_lt ht);have l := box_below b (.cells #[nI c] 259);have m3 := as_elemV ⟨ab, ao, none⟩ ⟨tb, tq, none⟩ b o;have m4 := as_unpE c b;have m5 := as_set ⟨tb, tq, none⟩ ⟨b.heap.size, 0, none⟩ c old (b.alloc (.cells #[nI c] 259)) (by rw [World.cell?_alloc_at _ _ _ _ (by simp)]; rfl) (cell_keep l d (cell_lt d)) (froz_keep l p (cell_lt d));have q : Hid (Bl w (b.alloc (.cells #[nI c] 259))) := below_step i l;clear i l k ha ht hf o d p g j f;go_wp2;go_ret
 exact ⟨rfl, _, q.out, rfl⟩
def ErrV (v : Value) (c : Int) : Prop := v = refV c ∨ ∃ n : Int, v = fltV n c
theorem as_any (v : Value) (c : Int) (hv : ErrV v c) (ab ao tb tq : Nat) (old : Value) (w : World) (ha : w.cell? ⟨ab, ao, none⟩ = some (.pointer (some ⟨tb, tq, none⟩))) (ht : w.cell? ⟨tb, tq, none⟩ = some old) (hf : w.frozen? ⟨tb, tq, none⟩ = false) :
    Calls Tryz.prog 269 #[v, .iface 261 (.pointer (some ⟨tb, tq, none⟩)), valP ⟨ab, ao, none⟩, hanV 259] w fun e w' => e = .returned (.bool true) ∧ ∃ W, Bl w W ∧ w' = W.setCell ⟨tb, tq, none⟩ (nI c) := by
 rcases hv with rfl | ⟨n, rfl⟩
 ·exact asR_any c ab ao tb tq old w ha ht hf
 ·exact asF_any n c ab ao tb tq old w ha ht hf
theorem asWhole_any (v : Value) (c : Int) (hv : ErrV v c) (tb tq : Nat) (old : Value) (w : World) (hh : Hold w) (ht : w.cell? ⟨tb, tq, none⟩ = some old) (hf : w.frozen? ⟨tb, tq, none⟩ = false) :
    Calls Tryz.prog 241 #[v, .iface 261 (.pointer (some ⟨tb, tq, none⟩))] w fun e b => e = .returned (.bool true) ∧ ∃ W, Bl w W ∧ b = W.setCell ⟨tb, tq, none⟩ (nI c) := by
 have g := box_below w (.cells #[.pointer (some ⟨tb, tq, none⟩)] 261);have a := below_step g (box_below (w.alloc (.cells #[.pointer (some ⟨tb, tq, none⟩)] 261)) (valO ⟨w.heap.size, 0, none⟩));have G2 : ((w.alloc (.cells #[.pointer (some ⟨tb, tq, none⟩)] 261)).alloc (valO ⟨w.heap.size, 0, none⟩)).cell? ⟨1, 0, none⟩ = some (hanV 242) := hh.goes a;have f : ((w.alloc (.cells #[.pointer (some ⟨tb, tq, none⟩)] 261)).alloc (valO ⟨w.heap.size, 0, none⟩)).cell? ⟨w.heap.size, 0, none⟩ = some (.pointer (some ⟨tb, tq, none⟩)) := by
  rw [World.cell?_alloc_lt _ _ ⟨w.heap.size, 0, none⟩ (by simp)]; simp
 have j : Hid (Calls Tryz.prog 269 #[v, .iface 261 (.pointer (some ⟨tb, tq, none⟩)), valP ⟨w.heap.size, 0, none⟩, hanV 259] ((w.alloc (.cells #[.pointer (some ⟨tb, tq, none⟩)] 261)).alloc (valO ⟨w.heap.size, 0, none⟩)) fun e b => e = .returned (.bool true) ∧ ∃ W, Bl w W ∧ b = W.setCell ⟨tb, tq, none⟩ (nI c)) :=
  (as_any v c hv w.heap.size 0 tb tq old _ f (cell_keep a ht (cell_lt ht)) (froz_keep a hf (cell_lt ht))).mono fun e b ⟨h1, W, d, i⟩ => ⟨h1, W, below_step a d, i⟩
 have m8 := as_isNil ⟨w.heap.size, 0, none⟩ ⟨tb, tq, none⟩ _ f;obtain ⟨T, x, rfl⟩ : ∃ T x, v = .iface T x := by
  rcases hv with rfl | ⟨n, rfl⟩
  ·exact ⟨_, _, rfl⟩
  ·exact ⟨_, _, rfl⟩
 clear hv hh ht hf g a;have e1 := ex_unp;have e2 := ex_type;have e3 := ex_kind;have e4 := ex_isNil;have e5 := ex_elemT;have e6 := ex_impl;have m1 := as_unpP;have m2 := as_type;have m3 := as_mKind;have m4 := as_kindP;have m5 := as_kindE;have m6 := as_mElem;have m7 := as_elemT;have m9 := as_mImpl;have k := as_impl;go_enter Tryz.func241, Tryz.ntmps241;go_wp2_with (go_at_call 269; refine j.out.mono ?_; rintro e b ⟨rfl, W, d, i⟩)
 go_ret
 exact ⟨rfl, W, d, rfl⟩
theorem implCodeOf_any (v : Value) (c : Int) (hv : ErrV v c) (w : World) (hh : Hold w) :
    Calls Tryz.prog 205 #[v] w fun e g => e = .returned (nI c) ∧ Bl w g := by
 have d := box_below w (.cells #[nI 0] 259);have f := asWhole_any v c hv w.heap.size 0 (nI 0) (w.alloc (.cells #[nI 0] 259)) (hh.goes d) (by simp) (by simp);clear hh hv;go_enter Tryz.func205, Tryz.ntmps205;go_wp2_with fail
 refine f.mono ?_;rintro e g ⟨rfl, W, a, rfl⟩;have b := heap_at w (.cells #[nI 0] 259);have i : W.heap[w.heap.size]? = some (.cells #[nI 0] 259) := (a.block _ (ltH b)).trans b;have k : (W.setCell ⟨w.heap.size, 0, none⟩ (nI c)).cell? ⟨w.heap.size, 0, none⟩ = some (nI c) := by
  have := heap_setCell_same W w.heap.size 0 _ _ (nI c) i;simp [World.cell?, this]
 have j : Hid (Bl w (W.setCell ⟨w.heap.size, 0, none⟩ (nI c))) := below_setC (below_step d a) (Nat.le_refl _);clear b i f a d;generalize W.setCell ⟨w.heap.size, 0, none⟩ (nI c) = V at k j ⊢;go_wp2;go_ret
 exact ⟨rfl, j.out⟩
theorem implCodeOf_nil (w : World) : Calls Tryz.prog 205 #[.nilIface] w fun e w' => e = .returned (nI 0) ∧ Bl w w' := by
 have a := box_below w (.cells #[nI 0] 259);go_enter Tryz.func205, Tryz.ntmps205;go_wp2_with go_in
 go_ret
 exact ⟨rfl, a⟩
end Go.Proofs.YtdamokokcdcedaaGreatDoor
