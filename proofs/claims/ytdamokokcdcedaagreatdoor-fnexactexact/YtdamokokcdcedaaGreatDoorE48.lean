import Derived.Test.YtdamokokcdcedaaGreatDoorE00Box
import Derived.Test.YtdamokokcdcedaaGreatDoorE47
import Derived.Test.YtdamokokcdcedaaGreatDoorE40
namespace Go.Proofs.YtdamokokcdcedaaGreatDoor
set_option maxHeartbeats 4000000
set_option maxRecDepth 20000
open Go.ChangeShapes Go.WideShapes Go.ChangeAt Go.RowKit
set_option linter.unusedVariables false
theorem specFab_u (cs : List Value) (x : FabricD) (w : World) (h : fabricR.rd w cs x) (hbk : fabricM.bk x ≤ 1048576) :
    Calls Tryz.prog 24 #[aggV cs] w fun e w' => e = .returned (.bool (fabI x)) ∧ Bl w w' := by
 rw [← fab_eq];exact specFabricOk_u cs x w h hbk
variable {α : Type}
set_option linter.unusedSimpArgs false
theorem idxHas (a : Option Addr) (xs : List CoreD) (cap : Nat) (w : World) (h : SlRd coreR w a xs) (hm : xs.length ≤ maxLen) :
    Calls Tryz.prog 221 #[sL a xs.length cap, .func (.func 172) #[] #[]] w fun e w' => e = .returned (nI (badP idleC xs)) ∧ Bl w w' := by
 have K : xs.length ≤ 9223372036854775807 := hm;have N : Hid (∀ W, Bl w W → SlRd coreR W a xs) := fun W m => slrd_keep h fun k A => m.block k A;clear h hm;go_enter Tryz.func221, Tryz.ntmps221;go_wp2;go_loopw [8] (fun i wr => ∃ k : Nat, k ≤ xs.length ∧ i = nI k ∧ (∀ j v, j < k → xs[j]? = some v → idleC v = true) ∧ Bl w wr) (fun i _ => xs.length - (intOf i).toNat)
 case atStart => exact ⟨0, Nat.zero_le _, rfl, fun j v hj => by omega, Below.refl _ _⟩
 case round =>
  obtain ⟨k, A, rfl, g, f⟩ := hrel;by_cases q : k < xs.length
  ·have E : (k : Int) < (xs.length : Int) := by omega
   obtain ⟨u, r⟩ : ∃ u, xs[k]? = some u := ⟨_, List.getElem?_eq_getElem q⟩;obtain ⟨b, M, L, rfl, c, d⟩ := slrd_at (N.out _ f) r;have l := implHasOp_u L u wr c;obtain ⟨ga, gc, gb, gd, ha, hc, ia, ic, ja, jc, rfl⟩ := core_shape c;rw [aE] at l;obtain ⟨B, G, I, H, C, z, s, F, D⟩ := cellsAt9 d rfl;have y : Hid (xs[k]? = some u) := r;clear r d c;have n : decide (u.2.2.1 < (u.2.1.length : Int)) = !idleC u := by unfold idleC; rw [Bool.not_not]
   rw [n] at l;clear n;cases m : idleC u
   ·have p : Hid (badP idleC xs = k) := badP_at y.out m g;rw [m] at l;go_wp2_with fail
    refine l.mono ?_;rintro e J ⟨rfl, o⟩;replace f := below_step f o;clear o B G I H C z s F D;go_wp2;go_ret
    exact ⟨ret_int p.out.symm, f⟩
   ·rw [m] at l;go_wp2_with fail
    refine l.mono ?_;rintro e J ⟨rfl, o⟩;replace f := below_step f o;clear o B G I H C z s F D;go_wp2;go_roundw
    case rel =>
     refine ⟨k + 1, by omega, by go_num, fun j v hj hv => ?_, f⟩;by_cases O : j < k
     ·exact g j v O hv
     ·have : j = k := by omega
      subst this;rw [y.out] at hv;cases hv;exact m
    case measure => simp [intOf]; omega
  ·have p : Hid (badP idleC xs = -1) := badP_no fun j v hv => g j v (by have := (List.getElem?_eq_some_iff.1 hv).1; omega) hv;go_wp2;go_ret
   exact ⟨ret_int p.out.symm, f⟩
theorem conHas (a : Option Addr) (xs : List CoreD) (cap : Nat) (w : World) (h : SlRd coreR w a xs) (hm : xs.length ≤ maxLen) :
    Calls Tryz.prog 171 #[sL a xs.length cap, .func (.func 172) #[] #[]] w fun e w' => e = .returned (.bool (!xs.all idleC)) ∧ Bl w w' := by
 have f := idxHas a xs cap w h hm;have b := badP_all idleC xs;clear h hm;generalize badP idleC xs = q at f b;generalize xs.all idleC = y at b ⊢;subst b;by_cases g : q < 0
 ·have c : ¬ (0 ≤ q) := by omega
  go_enter Tryz.func171, Tryz.ntmps171;go_wp2_with fail
  refine f.mono ?_;rintro e i ⟨rfl, d⟩;go_wp2;go_ret
  exact ⟨by simp [g], d⟩
 ·have c : 0 ≤ q := by omega
  go_enter Tryz.func171, Tryz.ntmps171;go_wp2_with fail
  refine f.mono ?_;rintro e i ⟨rfl, d⟩;go_wp2;go_ret
  exact ⟨by simp [g], d⟩
theorem progDone_any (x : FabricD) (a1 : Option Addr) (c1 : Nat) (b1 : Option Addr) (d1 : Nat) (a2 : Option Addr) (c2 : Nat) (a3 : Option Addr) (c3 : Nat) (b3 : Option Addr) (d3 : Nat) (a4 : Option Addr) (c4 : Nat) (a5 : Option Addr) (c5 : Nat) (w : World) (R : FabRd w x a1 c1 b1 d1 a2 c2 a3 c3 b3 d3 a4 c4 a5 c5) :
    Calls Tryz.prog 111 #[.agg #[nI x.1.1, nI x.1.2.1, nI x.1.2.2.1, nI x.1.2.2.2, sL a1 x.2.1.1.length c1, sL b1 x.2.1.2.length d1, sL a2 x.2.2.1.length c2, sL a3 x.2.2.2.1.1.length c3, nI x.2.2.2.1.2.1, .bool x.2.2.2.1.2.2.1, sL b3 x.2.2.2.1.2.2.2.length d3, sL a4 x.2.2.2.2.1.length c4, sL a5 x.2.2.2.2.2.length c5]] w fun e w' => e = .returned (.bool (doneB x)) ∧ Bl w w' := by
 have g : Hid _ := fun (W : World) (hb : Bl w W) => conHas a2 x.2.2.1 c2 W (fab_next R hb).cores R.coresl;have j : Hid (∀ W, Calls Tryz.prog 173 #[.agg #[sL a3 x.2.2.2.1.1.length c3, nI x.2.2.2.1.2.1, .bool x.2.2.2.1.2.2.1, sL b3 x.2.2.2.1.2.2.2.length d3]] W fun e w' => e = .returned (.agg #[sL a3 x.2.2.2.1.1.length c3, nI x.2.2.2.1.2.1]) ∧ Bl W w') := fun W => queue_any x.2.2.2.1 a3 b3 c3 d3 W;have f : Hid (∀ W, Calls Tryz.prog 174 #[.agg #[sL a3 x.2.2.2.1.1.length c3, nI x.2.2.2.1.2.1]] W fun e w' => e = .returned (.bool (decide (x.2.2.2.1.2.1 < (x.2.2.2.1.1.length : Int)))) ∧ Bl W w') := fun W => hasNext_any x.2.2.2.1 a3 c3 W R.descsl;unfold doneB;clear R;generalize x.2.2.1.all idleC = q1 at g ⊢;generalize decide (x.2.2.2.1.2.1 < (x.2.2.2.1.1.length : Int)) = q2 at f ⊢;have B := Below.refl w.heap.size w;go_enter Tryz.func111, Tryz.ntmps111;go_upto_region 1 with fail
 generalize a : w.alloc _ = u1w;have F := boxH a;have d := boxB a;have l := boxL a;clear a;replace B := below_step B d;clear d l;obtain ⟨Fc0, Fc1, Fc2, Fc3, Fc4, Fc5, Fc6, Fc7, Fc8, Fc9, Fc10, Fc11, Fc12⟩ := cells_fabric F;have Flt := (ltH F);go_wp2_with fail
 clear Fc0 Fc1 Fc2 Fc3 Fc4 Fc5 Fc6 Fc7 Fc8 Fc9 Fc10 Fc11 Fc12 Flt;refine (g.out _ B).mono ?_;rintro e i ⟨rfl, b⟩;replace B := below_step B b;replace F := row_keep b F;clear b;cases q1
 ·skip
  obtain ⟨Fc0, Fc1, Fc2, Fc3, Fc4, Fc5, Fc6, Fc7, Fc8, Fc9, Fc10, Fc11, Fc12⟩ := cells_fabric F;have Flt := (ltH F);have c : Hid _ := B;clear B F;go_wp2;go_ret
  exact ⟨by simp, c.out⟩
 ·skip
  obtain ⟨Fc0, Fc1, Fc2, Fc3, Fc4, Fc5, Fc6, Fc7, Fc8, Fc9, Fc10, Fc11, Fc12⟩ := cells_fabric F;have Flt := (ltH F);go_wp2_with fail
  clear Fc0 Fc1 Fc2 Fc3 Fc4 Fc5 Fc6 Fc7 Fc8 Fc9 Fc10 Fc11 Fc12 Flt;refine (j.out _).mono ?_;rintro e k ⟨rfl, b⟩;replace B := below_step B b;replace F := row_keep b F;clear b;obtain ⟨Fc0, Fc1, Fc2, Fc3, Fc4, Fc5, Fc6, Fc7, Fc8, Fc9, Fc10, Fc11, Fc12⟩ := cells_fabric F;have Flt := (ltH F);go_wp2_with fail
  clear Fc0 Fc1 Fc2 Fc3 Fc4 Fc5 Fc6 Fc7 Fc8 Fc9 Fc10 Fc11 Fc12 Flt;refine (f.out _).mono ?_;rintro e m ⟨rfl, b⟩;replace B := below_step B b;replace F := row_keep b F;clear b;cases q2
  ·skip
   obtain ⟨Fc0, Fc1, Fc2, Fc3, Fc4, Fc5, Fc6, Fc7, Fc8, Fc9, Fc10, Fc11, Fc12⟩ := cells_fabric F;have Flt := (ltH F);have c : Hid _ := B;clear B F;go_wp2;go_ret
   exact ⟨by simp, c.out⟩
  ·skip
   obtain ⟨Fc0, Fc1, Fc2, Fc3, Fc4, Fc5, Fc6, Fc7, Fc8, Fc9, Fc10, Fc11, Fc12⟩ := cells_fabric F;have Flt := (ltH F);have c : Hid _ := B;clear B F;go_wp2;go_ret
   exact ⟨by simp, c.out⟩
theorem implFinished_any (x : FabricD) (a1 : Option Addr) (c1 : Nat) (b1 : Option Addr) (d1 : Nat) (a2 : Option Addr) (c2 : Nat) (a3 : Option Addr) (c3 : Nat) (b3 : Option Addr) (d3 : Nat) (a4 : Option Addr) (c4 : Nat) (a5 : Option Addr) (c5 : Nat) (w : World) (R : FabRd w x a1 c1 b1 d1 a2 c2 a3 c3 b3 d3 a4 c4 a5 c5) (hh : Hold w) :
    Calls Tryz.prog 56 #[.agg #[nI x.1.1, nI x.1.2.1, nI x.1.2.2.1, nI x.1.2.2.2, sL a1 x.2.1.1.length c1, sL b1 x.2.1.2.length d1, sL a2 x.2.2.1.length c2, sL a3 x.2.2.2.1.1.length c3, nI x.2.2.2.1.2.1, .bool x.2.2.2.1.2.2.1, sL b3 x.2.2.2.1.2.2.2.length d3, sL a4 x.2.2.2.2.1.length c4, sL a5 x.2.2.2.2.2.length c5]] w fun e w' => e = .returned (.bool (finI x)) ∧ Bl w w' := by
 have j : Hid _ := fun (W : World) (hb : Bl w W) => implFabricOk_any x a1 c1 b1 d1 a2 c2 a3 c3 b3 d3 a4 c4 a5 c5 W (fab_next R hb) (hh.goes hb);have g : Hid _ := fun (W : World) (hb : Bl w W) => progDone_any x a1 c1 b1 d1 a2 c2 a3 c3 b3 d3 a4 c4 a5 c5 W (fab_next R hb);have hn : x.2.2.2.2.1.length ≤ 9223372036854775807 := R.netl;unfold finI;clear R hh;generalize fabI x = q1 at j ⊢;generalize doneB x = q2 at g ⊢;have B := Below.refl w.heap.size w;go_enter Tryz.func56, Tryz.ntmps56;go_upto_region 1 with fail
 generalize a : w.alloc _ = u1w;have F := boxH a;have f := boxB a;have m := boxL a;clear a;replace B := below_step B f;clear f m;obtain ⟨Fc0, Fc1, Fc2, Fc3, Fc4, Fc5, Fc6, Fc7, Fc8, Fc9, Fc10, Fc11, Fc12⟩ := cells_fabric F;have Flt := (ltH F);go_wp2_with fail
 clear Fc0 Fc1 Fc2 Fc3 Fc4 Fc5 Fc6 Fc7 Fc8 Fc9 Fc10 Fc11 Fc12 Flt;refine (j.out _ B).mono ?_;rintro e k ⟨rfl, b⟩;replace B := below_step B b;replace F := row_keep b F;clear b;cases q1
 ·skip
  obtain ⟨Fc0, Fc1, Fc2, Fc3, Fc4, Fc5, Fc6, Fc7, Fc8, Fc9, Fc10, Fc11, Fc12⟩ := cells_fabric F;have Flt := (ltH F);have c : Hid _ := B;clear B F;go_wp2;go_ret
  exact ⟨by simp, c.out⟩
 ·skip
  obtain ⟨Fc0, Fc1, Fc2, Fc3, Fc4, Fc5, Fc6, Fc7, Fc8, Fc9, Fc10, Fc11, Fc12⟩ := cells_fabric F;have Flt := (ltH F);go_wp2_with fail
  clear Fc0 Fc1 Fc2 Fc3 Fc4 Fc5 Fc6 Fc7 Fc8 Fc9 Fc10 Fc11 Fc12 Flt;refine (g.out _ B).mono ?_;rintro e l ⟨rfl, b⟩;replace B := below_step B b;replace F := row_keep b F;clear b;cases q2
  ·skip
   obtain ⟨Fc0, Fc1, Fc2, Fc3, Fc4, Fc5, Fc6, Fc7, Fc8, Fc9, Fc10, Fc11, Fc12⟩ := cells_fabric F;have Flt := (ltH F);have c : Hid _ := B;clear B F;go_wp2;go_ret
   exact ⟨by simp, c.out⟩
  ·by_cases i : x.2.2.2.2.1.length = 0
   ·have d : (x.2.2.2.2.1.length : Int) = 0 := by omega
    obtain ⟨Fc0, Fc1, Fc2, Fc3, Fc4, Fc5, Fc6, Fc7, Fc8, Fc9, Fc10, Fc11, Fc12⟩ := cells_fabric F;have Flt := (ltH F);have c : Hid _ := B;clear B F;go_wp2;go_ret
    exact ⟨by simp [i], c.out⟩
   ·have d : ¬ (x.2.2.2.2.1.length : Int) = 0 := by omega
    obtain ⟨Fc0, Fc1, Fc2, Fc3, Fc4, Fc5, Fc6, Fc7, Fc8, Fc9, Fc10, Fc11, Fc12⟩ := cells_fabric F;have Flt := (ltH F);have c : Hid _ := B;clear B F;go_wp2;go_ret
    exact ⟨by simp [i], c.out⟩
theorem states_step {x : FabricD} {k : Int} {j : Nat} {u : CoreD} (h : x.2.2.1[j]? = some u) : (statesI x k).take j ++ [stateOf u k] = (statesI x k).take (j + 1) := by
 unfold statesI;rw [List.take_add_one, List.getElem?_map, h];rfl
theorem states_len (x : FabricD) (k : Int) : (statesI x k).length = x.2.2.1.length := by simp [statesI]
theorem field_state (a b c : Value) (W : World) : (Instr.field 74 (.agg #[a, b, c]) 1).run Tryz.prog W = .ok b W := by kernel_rfl
theorem aloneL (l s : Int) (n : Nat) (ad : Option Addr) (cpw : Nat) (w : World) (hh : HoldT w) (hs : betw s 0 3 = true) : Calls Tryz.prog 36 #[.agg #[nI l, nI s, sL ad n cpw]] w fun e w' => e = .returned (.bool (decide (2 ≤ s))) ∧ Below w.heap.size w w' := by
 have B := box_below w (.cells #[nI l, nI s, sL ad n cpw] 74);have hl := hh.lt;obtain ⟨c0, c1, c2, c3, c4, c5, c6, c7, c8, c9, b, c⟩ := (hh.goes B).cells;rcases state4 hs with rfl | rfl | rfl | rfl
 all_goals
  clear hs;have a : Hid _ := B;clear B;go_enter Tryz.func36, Tryz.ntmps36;go_wp2;go_ret
  exact ⟨rfl, a.out⟩
theorem fab_way {x : FabricD} {u : CoreD} {M k L : Nat} (h : fabI x = true) (hu : u ∈ x.2.2.1) (hrow : ∀ a ∈ u.1.1, a.length = M) (hM : 0 < M) (hk : k < u.1.1.length * M) (hL : L = x.1.2.2.2.toNat) (hc : clearB (wayK u.1 M k) = false) : betw (wayK u.1 M k).2.1 0 3 = true ∧ isL (wayK u.1 M k).2.2 = true ∧ 0 ≤ (wayK u.1 M k).1 ∧ (wayK u.1 M k).1 < (L : Int) := by
 obtain ⟨a, i, l⟩ := wayK_get hM hrow hk;obtain ⟨h1, h2, m, hm, r⟩ := fab_core h hu;obtain ⟨-, -, n⟩ := r _ _ i;rcases n.1 _ _ l with d | ⟨d, -⟩
 ·rw [d] at hc; cases hc
 ·unfold fullB at d;simp only [decide_eq_true_eq] at d;obtain ⟨⟨p, q1⟩, ⟨q2, q3⟩, o⟩ := d;refine ⟨by simp [betw]; omega, o, p, ?_⟩;have g := h;unfold fabI at g;simp only [Bool.and_eq_true, decide_eq_true_eq] at g;obtain ⟨-, -, c, -⟩ := g;unfold coresFit at c;simp only [Bool.and_eq_true, decide_eq_true_eq] at c;have q := List.all_eq_true.1 c.2 u hu;unfold coreFit at q;simp only [Bool.and_eq_true, decide_eq_true_eq] at q;have b := q.2.2.1;unfold cacheIn at b;simp only [Bool.and_eq_true, decide_eq_true_eq] at b;have f := b.2.2;unfold waysIn at f;have j := List.all_eq_true.1 (List.all_eq_true.1 f a (List.mem_of_getElem? i)) _ (List.mem_of_getElem? l);unfold wayIn lineIn betw at j;simp only [Bool.or_eq_true, decide_eq_true_eq] at j;omega
open Go.Maps (Keyed)
theorem grown_none {w u : World} (h : w.grownBy u none) (row : Option Nat) : w.grownBy u row := ⟨h.os, h.tape, h.output, h.size, fun k hk _ => h.block k hk (by simp)⟩
def KeepQ (w : World) (b n tb : Nat) (L : List Trip) (e : Ending) (w' : World) : Prop := (∃ v, e = .returned v) ∧ SetK w' b (n + 1) L ∧ w'.heap[tb]? = some (.cells #[.func (.func 175) #[.map (some b)] #[]] 224 (0, 0)) ∧ w.grownBy w' (some b)
theorem keepOne_any (i : Nat) (l s : Int) (d : List Int) (ua : Option Addr) (uc tb b n : Nat) (L : List Trip) (w : World) (hb : w.heap[tb]? = some (.cells #[.func (.func 175) #[.map (some b)] #[]] 224 (0, 0))) (htb : tb ≠ b) (hS : SetK w b n L) (hn : n < maxLen) (hh : HoldT w) (hs : betw s 0 3 = true) (hk : KeyT (l, (i : Int), decide (2 ≤ s))) :
    Calls Tryz.prog 180 #[nI i, .agg #[nI l, nI s, sL ua d.length uc], .pointer (some ⟨tb, 0, none⟩)] w fun e w' => KeepQ w b n tb (L ++ [(l, (i : Int), decide (2 ≤ s))]) e w' := by
 have B : Hid (∀ V, Bl w V → Calls Tryz.prog 36 #[.agg #[nI l, nI s, sL ua d.length uc]] V fun e w' => e = .returned (.bool (decide (2 ≤ s))) ∧ Bl V w') := fun V hv => aloneL _ _ _ _ _ V (hh.goes hv) hs;have X := heap_at w (.cells #[nI l, nI s, sL ua d.length uc] 74);have c := box_below w (.cells #[nI l, nI s, sL ua d.length uc] 74);have T := row_keep c hb;have S := hS.below c hS.lt;have a : w.grownBy (w.alloc (.cells #[nI l, nI s, sL ua d.length uc] 74)) none := grown_of_below c none;clear hb hS hh hs;generalize decide (2 ≤ s) = al at B hk ⊢;go_enter Tryz.func180, Tryz.ntmps180;go_upto_region 1 with fail
 generalize w.alloc (.cells #[nI l, nI s, sL ua d.length uc] 74) = u1w at X c T S a ⊢;obtain ⟨z, k, y⟩ := cells_three X;have m : u1w.cell? ⟨tb, 0, none⟩ = some (.func (.func 175) #[.map (some b)] #[]) := by rw [cell_of_row u1w tb 0 _ _ (0, 0) T]; rfl
 replace c : Bl w u1w.drew := c.drew;replace X : u1w.drew.heap[w.heap.size]? = some (.cells #[nI l, nI s, sL ua d.length uc] 74 (0, 0)) := X;replace T : u1w.drew.heap[tb]? = some (.cells #[.func (.func 175) #[.map (some b)] #[]] 224 (0, 0)) := T;replace S : SetK u1w.drew b n L := S;replace a : w.grownBy u1w.drew none := ⟨a.os, a.tape, a.output, a.size, a.block⟩;have q := S.lt
 (go_region_with (first | (go_at_call 36; refine (B.out _ c).mono ?_; rintro e C ⟨rfl, f⟩; clear z k y m; replace X := row_keep f X; replace T := row_keep f T; replace S := S.below f q; replace a := a.andThen (grown_of_below f none) (fun j e => by cases e); clear f; obtain ⟨z, k, y⟩ := cells_three X; have m : C.cell? ⟨tb, 0, none⟩ = some (.func (.func 175) #[.map (some b)] #[]) := by rw [cell_of_row C tb 0 _ _ (0, 0) T]; rfl) | (go_at_call 175; refine (add_any b n L (l, (i : Int), al) _ S hn hk).mono ?_; rintro e p ⟨⟨v, rfl⟩, D, A⟩; have g : Hid (p.heap[tb]? = some (.cells #[.func (.func 175) #[.map (some b)] #[]] 224 (0, 0))) := (A.block _ (ltH T) (fun e => htb (by cases e; rfl))).trans T; have r : Hid (w.grownBy p (some b)) := (grown_none a _).andThen A (fun j e => by cases e; exact .inr rfl); have o : Hid (SetK p b (n + 1) (L ++ [(l, (i : Int), al)])) := D; clear z k y m X T S a D A) | fail))
 all_goals
  go_wp2;exact bodyPost_end (v := .tuple #[]) (by simp [results, Tryz.results180, go_sem]) rfl ⟨⟨_, rfl⟩, o.out, g.out, r.out⟩
def KeepT (x : FabricD) (T M b tb : Nat) (W0 wb : World) (n : Nat) (W : World) : Prop :=
 SetK W b n (cacheA x T M n) ∧ W.heap[tb]? = some (.cells #[.func (.func 175) #[.map (some b)] #[]] 224 (0, 0)) ∧ Below W0.heap.size W0 W ∧ wb.grownBy W (some b)
theorem keepT_own {x : FabricD} {T M b tb B' : Nat} {W0 wb : World} (hb : b < B') (ht : tb < B') (h0 : W0.heap.size ≤ B') (h1 : wb.heap.size ≤ B') : OwnFrom B' (KeepT x T M b tb W0 wb) := by
 rintro n X Y m ⟨d, i, g, l⟩ a f;have c : ∀ k, k < B' → k < X.heap.size → Y.heap[k]? = X.heap[k]? := fun k hk hl => a.block k hl (fun e => by have := (f k e.symm).1; omega);exact ⟨d.block (c b hb d.lt), (c tb ht (ltH i)).trans i, g.grown a g.size (fun k e => by have := (f k e).1; omega), l.andThen a (fun j e => .inl (by have := (f j e).1; omega))⟩
theorem keepCache_any (x : FabricD) (a1 : Option Addr) (c1 : Nat) (b1 : Option Addr) (d1 : Nat) (a2 : Option Addr) (c2 : Nat) (a3 : Option Addr) (c3 : Nat) (b3 : Option Addr) (d3 : Nat) (a4 : Option Addr) (c4 : Nat) (a5 : Option Addr) (c5 : Nat) (W0 : World) (R : FabRd W0 x a1 c1 b1 d1 a2 c2 a3 c3 b3 d3 a4 c4 a5 c5) (hf : fabI x = true) (ht : HoldT W0) (b : Nat) (w : World) (hb0 : W0.heap.size ≤ b) (hS : SetK w b 0 []) (hB : Bl W0 w) :
    Calls Tryz.prog 115 #[.agg #[nI x.1.1, nI x.1.2.1, nI x.1.2.2.1, nI x.1.2.2.2, sL a1 x.2.1.1.length c1, sL b1 x.2.1.2.length d1, sL a2 x.2.2.1.length c2, sL a3 x.2.2.2.1.1.length c3, nI x.2.2.2.1.2.1, .bool x.2.2.2.1.2.2.1, sL b3 x.2.2.2.1.2.2.2.length d3, sL a4 x.2.2.2.2.1.length c4, sL a5 x.2.2.2.2.2.length c5], .func (.func 175) #[.map (some b)] #[]] w fun e l => (∃ v, e = .returned v) ∧ SetK l b (x.2.2.1.length * (x.1.2.1.toNat * x.1.2.2.1.toNat)) (cacheA x (x.1.2.1.toNat * x.1.2.2.1.toNat) x.1.2.2.1.toNat (x.2.2.1.length * (x.1.2.1.toNat * x.1.2.2.1.toNat))) ∧ w.grownBy l (some b) := by
 obtain ⟨q, m, d⟩ := fab_shape hf;obtain ⟨⟨D, L⟩, G, -⟩ := fab_facts hf;have C : x.2.2.1.length ≤ 4 := by omega
 have E := hS.lt;have I : Hid (∀ (a : Nat) (W : World), a ≠ b → a < W.heap.size → w.heap.size ≤ W.heap.size → KeepT x (x.1.2.1.toNat * x.1.2.2.1.toNat) x.1.2.2.1.toNat b a W0 w 0 W → Calls Tryz.prog 34 #[.agg #[nI x.1.1, nI x.1.2.1, nI x.1.2.2.1, nI x.1.2.2.2, sL a1 x.2.1.1.length c1, sL b1 x.2.1.2.length d1, sL a2 x.2.2.1.length c2, sL a3 x.2.2.2.1.1.length c3, nI x.2.2.2.1.2.1, .bool x.2.2.2.1.2.2.1, sL b3 x.2.2.2.1.2.2.2.length d3, sL a4 x.2.2.2.2.1.length c4, sL a5 x.2.2.2.2.2.length c5], .func (.func 180) #[] #[.pointer (some ⟨a, 0, none⟩)]] W fun e l => (∃ v, e = .returned v) ∧ KeepT x (x.1.2.1.toNat * x.1.2.2.1.toNat) x.1.2.2.1.toNat b a W0 w (x.2.2.1.length * (x.1.2.1.toNat * x.1.2.2.1.toNat)) l) := by
  intro a W B H M s;refine handKeepers x a1 c1 b1 d1 a2 c2 a3 c3 b3 d3 a4 c4 a5 c5 W0 R x.1.2.1.toNat x.1.2.2.1.toNat q m d a W _ (keepT_own s.1.lt H s.2.2.1.size M) (fun n V hV => hV.2.2.1) ?_ ?_ s
  ·rintro i k u V o r z ⟨A, J, p, K⟩;exact ⟨by rw [cacheA_no o r z]; exact A.mono (Nat.le_succ _), J, p, K⟩
  ·rintro i k u ua uc V o r z lA ⟨A, J, p, K⟩;have c := List.mem_of_getElem? o;obtain ⟨r1, r2⟩ := d u c;obtain ⟨r3, r4, r5, r6⟩ := fab_way hf c r2 (by omega) (by rw [r1]; exact r) rfl z;have bA : i < 4 := by have := (List.getElem?_eq_some_iff.1 o).1; omega
   have N : i * (x.1.2.1.toNat * x.1.2.2.1.toNat) + k < maxLen := by
    have e1 : x.1.2.1.toNat * x.1.2.2.1.toNat ≤ 4 * 4 := Nat.mul_le_mul (by omega) (by omega);have O : i * (x.1.2.1.toNat * x.1.2.2.1.toNat) ≤ 4 * 16 := Nat.mul_le_mul (by omega) e1;unfold maxLen;omega
   obtain ⟨⟨nA, X⟩, -⟩ := fab_lines hf;refine (keepOne_any i _ _ _ ua uc a b _ _ V J B A N (ht.goes p) r3 ⟨wf64 (show In64 (wayK u.1 x.1.2.2.1.toNat k).1 from ⟨by omega, by omega⟩), wf64 (show In64 (i : Int) from ⟨by omega, by omega⟩)⟩).mono ?_;rintro e l ⟨he, y, U, g⟩;refine ⟨he, Kept.chg (S := fun j => j = b) (chg_grown g rfl) (fun j e => by have := s.1.lt; omega), by rw [cacheA_yes o r z]; exact y, U, p.grown g p.size (fun k e => by cases e; exact hb0), K.andThen g (fun j e => by cases e; exact .inr rfl)⟩
 clear R q m d D L G hf ht C;go_enter Tryz.func115, Tryz.ntmps115;go_upto_region 1 with fail
 have F := heap_on (.cells #[.func (.func 175) #[.map (some b)] #[]] 224) (heap_at w (.cells #[nI x.1.1, nI x.1.2.1, nI x.1.2.2.1, nI x.1.2.2.2, sL a1 x.2.1.1.length c1, sL b1 x.2.1.2.length d1, sL a2 x.2.2.1.length c2, sL a3 x.2.2.2.1.1.length c3, nI x.2.2.2.1.2.1, .bool x.2.2.2.1.2.2.1, sL b3 x.2.2.2.1.2.2.2.length d3, sL a4 x.2.2.2.2.1.length c4, sL a5 x.2.2.2.2.2.length c5] 49));have T := heap_at (w.alloc (.cells #[nI x.1.1, nI x.1.2.1, nI x.1.2.2.1, nI x.1.2.2.2, sL a1 x.2.1.1.length c1, sL b1 x.2.1.2.length d1, sL a2 x.2.2.1.length c2, sL a3 x.2.2.2.1.1.length c3, nI x.2.2.2.1.2.1, .bool x.2.2.2.1.2.2.1, sL b3 x.2.2.2.1.2.2.2.length d3, sL a4 x.2.2.2.2.1.length c4, sL a5 x.2.2.2.2.2.length c5] 49)) (.cells #[.func (.func 175) #[.map (some b)] #[]] 224);rw [alloc_len] at T;have f := below_step (box_below w (.cells #[nI x.1.1, nI x.1.2.1, nI x.1.2.2.1, nI x.1.2.2.2, sL a1 x.2.1.1.length c1, sL b1 x.2.1.2.length d1, sL a2 x.2.2.1.length c2, sL a3 x.2.2.2.1.1.length c3, nI x.2.2.2.1.2.1, .bool x.2.2.2.1.2.2.1, sL b3 x.2.2.2.1.2.2.2.length d3, sL a4 x.2.2.2.2.1.length c4, sL a5 x.2.2.2.2.2.length c5] 49)) (box_below (w.alloc (.cells #[nI x.1.1, nI x.1.2.1, nI x.1.2.2.1, nI x.1.2.2.2, sL a1 x.2.1.1.length c1, sL b1 x.2.1.2.length d1, sL a2 x.2.2.1.length c2, sL a3 x.2.2.2.1.1.length c3, nI x.2.2.2.1.2.1, .bool x.2.2.2.1.2.2.1, sL b3 x.2.2.2.1.2.2.2.length d3, sL a4 x.2.2.2.2.1.length c4, sL a5 x.2.2.2.2.2.length c5] 49)) (.cells #[.func (.func 175) #[.map (some b)] #[]] 224));have O : ((w.alloc (.cells #[nI x.1.1, nI x.1.2.1, nI x.1.2.2.1, nI x.1.2.2.2, sL a1 x.2.1.1.length c1, sL b1 x.2.1.2.length d1, sL a2 x.2.2.1.length c2, sL a3 x.2.2.2.1.1.length c3, nI x.2.2.2.1.2.1, .bool x.2.2.2.1.2.2.1, sL b3 x.2.2.2.1.2.2.2.length d3, sL a4 x.2.2.2.2.1.length c4, sL a5 x.2.2.2.2.2.length c5] 49)).alloc (.cells #[.func (.func 175) #[.map (some b)] #[]] 224)).heap.size = w.heap.size + 1 + 1 := by simp
 generalize (w.alloc (.cells #[nI x.1.1, nI x.1.2.1, nI x.1.2.2.1, nI x.1.2.2.2, sL a1 x.2.1.1.length c1, sL b1 x.2.1.2.length d1, sL a2 x.2.2.1.length c2, sL a3 x.2.2.2.1.1.length c3, nI x.2.2.2.1.2.1, .bool x.2.2.2.1.2.2.1, sL b3 x.2.2.2.1.2.2.2.length d3, sL a4 x.2.2.2.2.1.length c4, sL a5 x.2.2.2.2.2.length c5] 49)).alloc (.cells #[.func (.func 175) #[.map (some b)] #[]] 224) = u1w at F T f O ⊢;have HJ : Hid (KeepT x (x.1.2.1.toNat * x.1.2.2.1.toNat) x.1.2.2.1.toNat b (w.heap.size + 1) W0 w 0 u1w) := ⟨hS.below f E, T, below_step hB f, grown_of_below f _⟩;have HC := I.out (w.heap.size + 1) u1w (by omega) (by omega) (by omega) HJ.out;obtain ⟨Fc0, Fc1, Fc2, Fc3, Fc4, Fc5, Fc6, Fc7, Fc8, Fc9, Fc10, Fc11, Fc12⟩ := cells_fabric F;have Flt := (ltH F);clear F T f O hS hB;go_wp2_with fail
 clear Fc0 Fc1 Fc2 Fc3 Fc4 Fc5 Fc6 Fc7 Fc8 Fc9 Fc10 Fc11 Fc12 Flt;refine HC.mono ?_;rintro e aA ⟨⟨v, rfl⟩, y, U, g, Y⟩;have Z : Hid _ := aI y Y;clear y U g Y;go_wp2;exact bodyPost_end (v := .tuple #[]) (by simp [results, Tryz.results115, go_sem]) rfl ⟨⟨_, rfl⟩, Z.out⟩
def EqQ (P : Prop) (B : Nat) (w : World) (e : Ending) (w' : World) : Prop := ∃ b : Bool, e = .returned (.bool b) ∧ (b = true ↔ P) ∧ Below B w w'
def KeyS (key : Value) : Prop := ∃ (a b : Int) (c : Bool), key = .agg #[.int .i64 a, .int .i64 b, .bool c]
section
variable {P : Program} (w : World) {ops : Array Oper} {rest : List Oper} {o : Oper} {a : Act} {Q : Exit → Act → World → Prop}
theorem wpList_next_keep (hg : o.guard = none) (it : Operand) (hop : o.op = Op.next it false) (k : TypeId) (K : Keyed P k) (b r n : Nat) (D : DataW Unit) (left : Lit → Bool) (cnt : Nat)
    (hit : a.eval it = .pointer (some ⟨r, 0, none⟩)) (h : w.ranges P k unitElem b r n D left cnt) (HK : ∀ d i, keyOf P k d = some i → left i = true → ∃ x : Trip, d = kk x)
    (hDone : (∀ i, left i = false) → wpList P ops Q rest (a.put o.dst (.tuple #[.bool false])) w)
    (hMore : ∀ (d : Value) (i : Lit) (j : World) (f : Nat), KeyS d → Hid (keyOf P k d = some i) → Hid (left i = true) → Hid ( j.ranges P k unitElem b r n D (fun z => left z && !z.sameKey i) f ∧ f < cnt ∧
     w.grownBy j (some r) ∧ j.heap.size = w.heap.size) → (Instr.entry (.pointer (some ⟨r, 0, none⟩))).run P j = .ok (.tuple #[d, .agg #[]]) j → wpList P ops Q rest (a.put o.dst (.tuple #[.bool true, d, .agg #[]])) j) :
    wpList P ops Q (o :: rest) a w := by
 refine wpList_plain hg fun K' hK' => ?_;unfold Oper.wp;rcases h.next K o.type with ⟨h0, E, g⟩ | ⟨d, v, i, y, j, f, l, m, G, F, g, A, p, s, B, C⟩
 ·simp [execOp, hop, hit, g, Result.andThen]
  exact hK' _ _ (hDone E)
 ·have q : ∃ (a b : Int) (c : Bool), d = .agg #[nI a, nI b, .bool c] := by
    obtain ⟨x, q⟩ := HK d i l m;exact ⟨x.1, x.2.1, x.2.2, q⟩
  obtain ⟨rfl, -⟩ := unitElem_inv G;simp [execOp, hop, hit, g, Result.andThen]
  exact hK' _ _ (hMore d i j f q l m ⟨A, p, s, B⟩ C)
end
theorem eq_grow {w wr w1 : World} (h : w.grownBy wr none) (h1 : wr.grownBy w1 (some w.heap.size)) (hl : w.heap.size < wr.heap.size) (o1 o2 : Obj) : w.grownBy ((w1.alloc o1).alloc o2) none :=
 ((h.andThen h1 (fun j e => by cases e; exact .inl (Nat.le_refl _))).andThen (World.grownBy_alloc w1 o1 none) (fun j e => by cases e)).andThen (World.grownBy_alloc _ o2 none) (fun j e => by cases e)
theorem equal_any (b1 n1 b2 n2 : Nat) (D1 D2 : DataW Unit) (w : World) (h1 : w.ownsMap Tryz.prog 171 unitElem b1 n1 D1) (h2 : w.ownsMap Tryz.prog 171 unitElem b2 n2 D2)
    (HK : ∀ b a, keyOf Tryz.prog 171 b = some a → Maps.has D1 a = true → ∃ x : Trip, b = kk x) :
    Calls Tryz.prog 179 #[.map (some b1), .map (some b2)] w fun e w' => EqQ (∀ l, Maps.has D1 l = true ↔ Maps.has D2 l = true) w.heap.size w e w' := by
 have U : Hid _ := sets_same h1 h2;have L : Hid (w.ownsMap Tryz.prog 171 unitElem b1 n1 D1) := h1;have G : Hid (∀ W, w.grownBy W none → W.ownsMap Tryz.prog 171 unitElem b2 n2 D2) := fun W I => h2.kept I (by simp);have K : Hid _ := HK;have FH : Tryz.prog.stoodInHeld 231 = false := by kernel_rfl
 clear h1 h2 HK;go_enter Tryz.func179, Tryz.ntmps179;by_cases E : (Maps.size D1 : Int) = (Maps.size D2 : Int)
 ·have M : Hid (Maps.size D1 = Maps.size D2) := by unfold Hid; omega
  have N : ((Maps.size D1 : Int) != (Maps.size D2 : Int)) = false := by simp [E]
  clear E
  go_wp2_with (first
   | (at_len; refine wpList_len_own _ rfl _ 168 rfl 171 231 Tryz.underlying168 unitElem b1 n1 D1 rfl L.out ?_)
   | (at_len; refine wpList_len_own _ rfl _ 168 rfl 171 231 Tryz.underlying168 unitElem b2 n2 D2 rfl (G.out _ (World.grownBy.refl _ _)) ?_)
   | (at_range; refine wpList_range_own _ rfl _ 168 rfl 171 231 keepKeyed Tryz.underlying168 unitElem b1 n1 D1 rfl L.out ?_; intro Z g D J) | go_in)
  go_frame
  go_loopw [17] (fun _ wr => ∃ left c, wr.ranges Tryz.prog 171 unitElem b1 w.heap.size n1 D1 left c ∧ (∀ l, Maps.has D1 l = true → left l = false → Maps.has D2 l = true) ∧ (∀ l, left l = true → Maps.has D1 l = true) ∧ w.grownBy wr none) (fun _ wr => wr.rangeLeft b1 w.heap.size)
  case atStart => exact ⟨_, _, g, fun l h1 h2 => absurd (h1.symm.trans h2) (by decide), fun l h => h, D⟩
  case round =>
   clear g D J Z;obtain ⟨left, c, C, v, r, I⟩ := hrel;have m : Hid _ := aI v (aI r I);have q : Hid (wr.ranges Tryz.prog 171 unitElem b1 w.heap.size n1 D1 left c) := C;clear v r I C;go_wp2_with (first | (at_next; refine wpList_next_keep _ rfl _ rfl 171 keepKeyed b1 w.heap.size n1 D1 left c rfl q.out (fun b a h1 h2 => K.out b a h1 (m.out.2.1 a h2)) ?_ ?_) | go_in)
   ·intro T;have V : Hid (∀ l, Maps.has D1 l = true → Maps.has D2 l = true) := fun l F => m.out.1 l F (T l);clear T;go_wp2;go_ret
    exact ⟨true, rfl, ⟨fun _ => U.out.2 ⟨M.out, V.out⟩, fun _ => rfl⟩, (Below.refl _ _).grown m.out.2.2 (Nat.le_refl _) (fun k e => (by cases e))⟩
   ·intro b a H f hx i O n S;obtain ⟨y, A, s, rfl⟩ := hx;go_upto_region 6 with fail
    have o := ((n.out.1.alloc (.cells #[nI y, nI A, .bool s] 171)).alloc (.cells #[] 231));have p : w.grownBy ((H.alloc (.cells #[nI y, nI A, .bool s] 171)).alloc (.cells #[] 231)) none := eq_grow m.out.2.2 n.out.2.2.1 (World.ranges.lt q.out) _ _;have X := heap_on (.cells #[] 231) (heap_at H (.cells #[nI y, nI A, .bool s] 171));have Y := heap_at (H.alloc (.cells #[nI y, nI A, .bool s] 171)) (.cells #[] 231);rw [alloc_len] at Y;clear S;generalize ((H.alloc (.cells #[nI y, nI A, .bool s] 171)).alloc (.cells #[] 231)) = w2 at o p X Y ⊢;have d : Hid _ := p;have B : Hid (w2.ranges Tryz.prog 171 unitElem b1 w.heap.size n1 D1 (fun z => left z && !z.sameKey a) f) := o;obtain ⟨x0, x1, x2⟩ := cells_three X;clear X o p;cases R : Maps.has D2 a
    ·have HN : Hid (¬ ∀ l, Maps.has D1 l = true ↔ Maps.has D2 l = true) := fun h => by
       have := (h a).1 (m.out.2.1 a O.out);rw [R] at this;cases this
     go_wp2_with (at_lookup; refine wpList_lookup_own_unit _ rfl _ _ 168 rfl 171 231 keepKeyed Tryz.underlying168 (zeroU _) b2 n2 D2 rfl (G.out _ d.out) _ a rfl i.out ?_)
     go_ret
     exact ⟨false, rfl, ⟨fun h => (by cases h), fun h => absurd h HN.out⟩, (Below.refl _ w).grown (d.out.andThen (World.grownBy_alloc w2 (.cells #[] 231) none) (fun j e => by cases e)) (Nat.le_refl _) (fun k e => by cases e)⟩
    ·go_wp2_with (at_lookup; refine wpList_lookup_own_unit _ rfl _ _ 168 rfl 171 231 keepKeyed Tryz.underlying168 (zeroU _) b2 n2 D2 rfl (G.out _ d.out) _ a rfl i.out ?_; rw [R])
     go_roundw
     case rel =>
      refine ⟨_, f, B.out.alloc _, fun l h1 h2 => ?_, fun l h => m.out.2.1 l (by simp only [Bool.and_eq_true] at h; exact h.1), d.out.andThen (World.grownBy_alloc w2 (.cells #[] 231) none) (fun j e => by cases e)⟩;cases F : left l
      ·exact m.out.1 l h1 F
      ·rw [F] at h2;simp only [Bool.true_and, Bool.not_eq_false'] at h2;rw [WideAt.sameKey_eq h2];exact R
     case measure =>
      rw [World.ranges.left_eq (B.out.alloc (.cells #[] 231)), World.ranges.left_eq q.out];have := n.out.2.1;omega
 ·have M : Hid (¬ Maps.size D1 = Maps.size D2) := by unfold Hid; omega
  have N : ((Maps.size D1 : Int) != (Maps.size D2 : Int)) = true := by simp [E]
  clear E
  go_wp2_with (first
   | (at_len; refine wpList_len_own _ rfl _ 168 rfl 171 231 Tryz.underlying168 unitElem b1 n1 D1 rfl L.out ?_)
   | (at_len; refine wpList_len_own _ rfl _ 168 rfl 171 231 Tryz.underlying168 unitElem b2 n2 D2 rfl (G.out _ (World.grownBy.refl _ _)) ?_))
  go_ret
  exact ⟨false, rfl, ⟨fun h => (by cases h), fun h => absurd (U.out.1 h).1 M.out⟩, Below.refl _ _⟩
end Go.Proofs.YtdamokokcdcedaaGreatDoor
