import Derived.Test.YtdamokokcdcedaaGreatDoorF00Box
import Derived.Test.YtdamokokcdcedaaGreatDoorF43
namespace Go.Proofs.YtdamokokcdcedaaGreatDoor
set_option maxHeartbeats 4000000
set_option maxRecDepth 20000
open Go.ChangeShapes Go.WideShapes Go.ChangeAt Go.RowKit
set_option linter.unusedVariables false
set_option linter.unusedSimpArgs false
theorem implFabricOk_any (x : FabricD) (a1 : Option Addr) (c1 : Nat) (b1 : Option Addr) (d1 : Nat) (a2 : Option Addr) (c2 : Nat) (a3 : Option Addr) (c3 : Nat) (b3 : Option Addr) (d3 : Nat) (a4 : Option Addr) (c4 : Nat) (a5 : Option Addr) (c5 : Nat) (w : World) (R : FabRd w x a1 c1 b1 d1 a2 c2 a3 c3 b3 d3 a4 c4 a5 c5) (hh : Hold w) :
    Calls Tryz.prog 32 #[.agg #[nI x.1.1, nI x.1.2.1, nI x.1.2.2.1, nI x.1.2.2.2, sL a1 x.2.1.1.length c1, sL b1 x.2.1.2.length d1, sL a2 x.2.2.1.length c2, sL a3 x.2.2.2.1.1.length c3, nI x.2.2.2.1.2.1, .bool x.2.2.2.1.2.2.1, sL b3 x.2.2.2.1.2.2.2.length d3, sL a4 x.2.2.2.2.1.length c4, sL a5 x.2.2.2.2.2.length c5]] w fun e w' => e = .returned (.bool (fabI x)) ∧ Bl w w' := by
 have v : Hid _ := fun (W : World) (hb : Bl w W) => implCode_any x.1.1 x.1.2.1 x.1.2.2.1 x.1.2.2.2 W;have o : Hid (codeI x.1.1 x.1.2.1 x.1.2.2.1 x.1.2.2.2 = 0 → ∀ W, Bl w W → Calls Tryz.prog 84 #[.agg #[nI x.1.1, nI x.1.2.1, nI x.1.2.2.1, nI x.1.2.2.2, sL a1 x.2.1.1.length c1, sL b1 x.2.1.2.length d1, sL a2 x.2.2.1.length c2, sL a3 x.2.2.2.1.1.length c3, nI x.2.2.2.1.2.1, .bool x.2.2.2.1.2.2.1, sL b3 x.2.2.2.1.2.2.2.length d3, sL a4 x.2.2.2.2.1.length c4, sL a5 x.2.2.2.2.2.length c5]] W fun e w' => e = .returned (.bool (houseFit x)) ∧ Bl W w') := fun hc W hb => fabHouse_any x a1 c1 b1 d1 a2 c2 a3 c3 b3 d3 a4 c4 a5 c5 W hc (fab_next R hb);have m : Hid (codeI x.1.1 x.1.2.1 x.1.2.2.1 x.1.2.2.2 = 0 → ∀ W, Bl w W → Calls Tryz.prog 85 #[.agg #[nI x.1.1, nI x.1.2.1, nI x.1.2.2.1, nI x.1.2.2.2, sL a1 x.2.1.1.length c1, sL b1 x.2.1.2.length d1, sL a2 x.2.2.1.length c2, sL a3 x.2.2.2.1.1.length c3, nI x.2.2.2.1.2.1, .bool x.2.2.2.1.2.2.1, sL b3 x.2.2.2.1.2.2.2.length d3, sL a4 x.2.2.2.2.1.length c4, sL a5 x.2.2.2.2.2.length c5]] W fun e w' => e = .returned (.bool (coresFit x)) ∧ Bl W w') := fun hc W hb => fabCores_any x a1 c1 b1 d1 a2 c2 a3 c3 b3 d3 a4 c4 a5 c5 W hc (fab_next R hb) (hh.goes hb);have q : Hid (codeI x.1.1 x.1.2.1 x.1.2.2.1 x.1.2.2.2 = 0 → ∀ W, Bl w W → Calls Tryz.prog 86 #[.agg #[nI x.1.1, nI x.1.2.1, nI x.1.2.2.1, nI x.1.2.2.2, sL a1 x.2.1.1.length c1, sL b1 x.2.1.2.length d1, sL a2 x.2.2.1.length c2, sL a3 x.2.2.2.1.1.length c3, nI x.2.2.2.1.2.1, .bool x.2.2.2.1.2.2.1, sL b3 x.2.2.2.1.2.2.2.length d3, sL a4 x.2.2.2.2.1.length c4, sL a5 x.2.2.2.2.2.length c5]] W fun e w' => e = .returned (.bool (dmaFit x)) ∧ Bl W w') := fun hc W hb => fabDma_any x a1 c1 b1 d1 a2 c2 a3 c3 b3 d3 a4 c4 a5 c5 W hc (fab_next R hb) (hh.goes hb);have p : Hid (codeI x.1.1 x.1.2.1 x.1.2.2.1 x.1.2.2.2 = 0 → ∀ W, Bl w W → Calls Tryz.prog 87 #[.agg #[nI x.1.1, nI x.1.2.1, nI x.1.2.2.1, nI x.1.2.2.2, sL a1 x.2.1.1.length c1, sL b1 x.2.1.2.length d1, sL a2 x.2.2.1.length c2, sL a3 x.2.2.2.1.1.length c3, nI x.2.2.2.1.2.1, .bool x.2.2.2.1.2.2.1, sL b3 x.2.2.2.1.2.2.2.length d3, sL a4 x.2.2.2.2.1.length c4, sL a5 x.2.2.2.2.2.length c5]] W fun e w' => e = .returned (.bool (netFit x)) ∧ Bl W w') := fun hc W hb => fabNet_any x a1 c1 b1 d1 a2 c2 a3 c3 b3 d3 a4 c4 a5 c5 W hc (fab_next R hb);have D : Hid _ := fun (W : World) (hb : Bl w W) => fabEvents_any x a1 c1 b1 d1 a2 c2 a3 c3 b3 d3 a4 c4 a5 c5 W (fab_next R hb);unfold fabI;clear R hh;generalize codeI x.1.1 x.1.2.1 x.1.2.2.1 x.1.2.2.2 = kc at v o m q p ⊢;generalize houseFit x = q1 at o ⊢;generalize coresFit x = q2 at m ⊢;generalize dmaFit x = q3 at q ⊢;generalize netFit x = q4 at p ⊢;generalize (decide (x.2.2.2.2.2.length ≤ 200) && x.2.2.2.2.2.all evB) = q5 at D ⊢;have B := Below.refl w.heap.size w;go_enter Tryz.func32, Tryz.ntmps32;go_upto_region 1 with fail
 generalize b : w.alloc _ = u1w;have F := boxH b;have s := boxB b;have l := boxL b;clear b;replace B := below_step B s;clear s;have H := lE l;have G := lE l.symm;clear l;obtain ⟨Fc0, Fc1, Fc2, Fc3, Fc4, Fc5, Fc6, Fc7, Fc8, Fc9, Fc10, Fc11, Fc12⟩ := cells_fabric F;have Flt := (ltH F);go_wp2_with fail
 clear Fc0 Fc1 Fc2 Fc3 Fc4 Fc5 Fc6 Fc7 Fc8 Fc9 Fc10 Fc11 Fc12 Flt;refine (v.out _ B).mono ?_;rintro e k ⟨rfl, a⟩;have A : u1w.heap.size ≤ k.heap.size := a.size;replace B := below_step B a;replace F := row_keep a F;clear a;by_cases d : kc = 0
 ·have I : (kc == 0) = true := by simp [d]
  subst d;have d : (0 : Int) = 0 := rfl;clear d;obtain ⟨Fc0, Fc1, Fc2, Fc3, Fc4, Fc5, Fc6, Fc7, Fc8, Fc9, Fc10, Fc11, Fc12⟩ := cells_fabric F;have Flt := (ltH F);go_wp2_with fail
  clear Fc0 Fc1 Fc2 Fc3 Fc4 Fc5 Fc6 Fc7 Fc8 Fc9 Fc10 Fc11 Fc12 Flt;refine (o.out (by first | rfl | trivial) _ B).mono ?_;rintro e j ⟨rfl, a⟩;have z : k.heap.size ≤ j.heap.size := a.size;replace B := below_step B a;replace F := row_keep a F;clear a;cases q1
  ·skip
   obtain ⟨Fc0, Fc1, Fc2, Fc3, Fc4, Fc5, Fc6, Fc7, Fc8, Fc9, Fc10, Fc11, Fc12⟩ := cells_fabric F;have Flt := (ltH F);have c : Hid _ := B;clear B F;go_wp2;go_ret
   exact ⟨by simp, c.out⟩
  ·skip
   obtain ⟨Fc0, Fc1, Fc2, Fc3, Fc4, Fc5, Fc6, Fc7, Fc8, Fc9, Fc10, Fc11, Fc12⟩ := cells_fabric F;have Flt := (ltH F);go_wp2_with fail
   clear Fc0 Fc1 Fc2 Fc3 Fc4 Fc5 Fc6 Fc7 Fc8 Fc9 Fc10 Fc11 Fc12 Flt;refine (m.out (by first | rfl | trivial) _ B).mono ?_;rintro e i ⟨rfl, a⟩;have y : j.heap.size ≤ i.heap.size := a.size;replace B := below_step B a;replace F := row_keep a F;clear a;cases q2
   ·skip
    obtain ⟨Fc0, Fc1, Fc2, Fc3, Fc4, Fc5, Fc6, Fc7, Fc8, Fc9, Fc10, Fc11, Fc12⟩ := cells_fabric F;have Flt := (ltH F);have c : Hid _ := B;clear B F;go_wp2;go_ret
    exact ⟨by simp, c.out⟩
   ·skip
    obtain ⟨Fc0, Fc1, Fc2, Fc3, Fc4, Fc5, Fc6, Fc7, Fc8, Fc9, Fc10, Fc11, Fc12⟩ := cells_fabric F;have Flt := (ltH F);go_wp2_with fail
    clear Fc0 Fc1 Fc2 Fc3 Fc4 Fc5 Fc6 Fc7 Fc8 Fc9 Fc10 Fc11 Fc12 Flt;refine (q.out (by first | rfl | trivial) _ B).mono ?_;rintro e g ⟨rfl, a⟩;have E : i.heap.size ≤ g.heap.size := a.size;replace B := below_step B a;replace F := row_keep a F;clear a;cases q3
    ·skip
     obtain ⟨Fc0, Fc1, Fc2, Fc3, Fc4, Fc5, Fc6, Fc7, Fc8, Fc9, Fc10, Fc11, Fc12⟩ := cells_fabric F;have Flt := (ltH F);have c : Hid _ := B;clear B F;go_wp2;go_ret
     exact ⟨by simp, c.out⟩
    ·skip
     obtain ⟨Fc0, Fc1, Fc2, Fc3, Fc4, Fc5, Fc6, Fc7, Fc8, Fc9, Fc10, Fc11, Fc12⟩ := cells_fabric F;have Flt := (ltH F);go_wp2_with fail
     clear Fc0 Fc1 Fc2 Fc3 Fc4 Fc5 Fc6 Fc7 Fc8 Fc9 Fc10 Fc11 Fc12 Flt;refine (p.out (by first | rfl | trivial) _ B).mono ?_;rintro e f ⟨rfl, a⟩;have r : g.heap.size ≤ f.heap.size := a.size;replace B := below_step B a;replace F := row_keep a F;clear a;cases q4
     ·skip
      obtain ⟨Fc0, Fc1, Fc2, Fc3, Fc4, Fc5, Fc6, Fc7, Fc8, Fc9, Fc10, Fc11, Fc12⟩ := cells_fabric F;have Flt := (ltH F);have c : Hid _ := B;clear B F;go_wp2;go_ret
      exact ⟨by simp, c.out⟩
     ·skip
      obtain ⟨Fc0, Fc1, Fc2, Fc3, Fc4, Fc5, Fc6, Fc7, Fc8, Fc9, Fc10, Fc11, Fc12⟩ := cells_fabric F;have Flt := (ltH F);go_wp2_with fail
      clear Fc0 Fc1 Fc2 Fc3 Fc4 Fc5 Fc6 Fc7 Fc8 Fc9 Fc10 Fc11 Fc12 Flt;refine (D.out _ B).mono ?_;rintro e n ⟨rfl, a⟩;have C : f.heap.size ≤ n.heap.size := a.size;replace B := below_step B a;replace F := row_keep a F;clear a;obtain ⟨Fc0, Fc1, Fc2, Fc3, Fc4, Fc5, Fc6, Fc7, Fc8, Fc9, Fc10, Fc11, Fc12⟩ := cells_fabric F;have Flt := (ltH F);have c : Hid _ := B;clear B F;go_wp2;go_ret
      exact ⟨by simp, c.out⟩
 ·have I : (kc == 0) = false := by simp [d]
  have J : Hid (¬ kc = 0) := d;clear d;obtain ⟨Fc0, Fc1, Fc2, Fc3, Fc4, Fc5, Fc6, Fc7, Fc8, Fc9, Fc10, Fc11, Fc12⟩ := cells_fabric F;have Flt := (ltH F);have c : Hid _ := B;clear B F;go_wp2;go_ret
  exact ⟨by simp [J.out], c.out⟩
variable {α : Type}
theorem idxHas (a : Option Addr) (xs : List CoreD) (cap : Nat) (w : World) (h : SlRd coreR w a xs) (hm : xs.length ≤ maxLen) :
    Calls Tryz.prog 221 #[sL a xs.length cap, .func (.func 172) #[] #[]] w fun e w' => e = .returned (nI (badP idleC xs)) ∧ Bl w w' := by
 have J : xs.length ≤ 9223372036854775807 := hm;have M : Hid (∀ W, Bl w W → SlRd coreR W a xs) := fun W l => slrd_keep h fun k G => l.block k G;clear h hm;go_enter Tryz.func221, Tryz.ntmps221;go_wp2;go_loopw [8] (fun i wr => ∃ k : Nat, k ≤ xs.length ∧ i = nI k ∧ (∀ j v, j < k → xs[j]? = some v → idleC v = true) ∧ Bl w wr) (fun i _ => xs.length - (intOf i).toNat)
 case atStart => exact ⟨0, Nat.zero_le _, rfl, fun j v hj => by omega, Below.refl _ _⟩
 case round =>
  obtain ⟨k, G, rfl, g, f⟩ := hrel;by_cases r : k < xs.length
  ·have I : (k : Int) < (xs.length : Int) := by omega
   obtain ⟨u, p⟩ : ∃ u, xs[k]? = some u := ⟨_, List.getElem?_eq_getElem r⟩;obtain ⟨b, N, O, rfl, c, d⟩ := slrd_at (M.out _ f) p;have m := implHasOp_u O u wr c;obtain ⟨ga, gc, gb, gd, ha, hc, ia, ic, ja, jc, rfl⟩ := core_shape c;rw [aE] at m;obtain ⟨B, E, A, C, s, F, H, z, y⟩ := cellsAt9 d rfl;have D : Hid (xs[k]? = some u) := p;clear p d c;have n : decide (u.2.2.1 < (u.2.1.length : Int)) = !idleC u := by unfold idleC; rw [Bool.not_not]
   rw [n] at m;clear n;cases l : idleC u
   ·have q : Hid (badP idleC xs = k) := badP_at D.out l g;rw [l] at m;go_wp2_with fail
    refine m.mono ?_;rintro e K ⟨rfl, o⟩;replace f := below_step f o;clear o B E A C s F H z y;go_wp2;go_ret
    exact ⟨ret_int q.out.symm, f⟩
   ·rw [l] at m;go_wp2_with fail
    refine m.mono ?_;rintro e K ⟨rfl, o⟩;replace f := below_step f o;clear o B E A C s F H z y;go_wp2;go_roundw
    case rel =>
     refine ⟨k + 1, by omega, by go_num, fun j v hj hv => ?_, f⟩;by_cases L : j < k
     ·exact g j v L hv
     ·have : j = k := by omega
      subst this;rw [D.out] at hv;cases hv;exact l
    case measure => simp [intOf]; omega
  ·have q : Hid (badP idleC xs = -1) := badP_no fun j v hv => g j v (by have := (List.getElem?_eq_some_iff.1 hv).1; omega) hv;go_wp2;go_ret
   exact ⟨ret_int q.out.symm, f⟩
theorem conHas (a : Option Addr) (xs : List CoreD) (cap : Nat) (w : World) (h : SlRd coreR w a xs) (hm : xs.length ≤ maxLen) :
    Calls Tryz.prog 171 #[sL a xs.length cap, .func (.func 172) #[] #[]] w fun e w' => e = .returned (.bool (!xs.all idleC)) ∧ Bl w w' := by
 have f := idxHas a xs cap w h hm;have b := badP_all idleC xs;clear h hm;generalize badP idleC xs = q at f b;generalize xs.all idleC = y at b ⊢;subst b;by_cases g : q < 0
 ·have c : ¬ (0 ≤ q) := by omega
  go_enter Tryz.func171, Tryz.ntmps171;go_wp2_with fail
  refine f.mono ?_;rintro e i ⟨rfl, d⟩;go_wp2;go_ret
  exact ⟨by simp [g], d⟩
 ·have c : 0 ≤ q := by omega
  go_enter Tryz.func171, Tryz.ntmps171;go_wp2_with fail
  refine f.mono ?_;rintro e i ⟨rfl, d⟩;go_wp2;go_ret
  exact ⟨by simp [g], d⟩
theorem progDone_any (x : FabricD) (a1 : Option Addr) (c1 : Nat) (b1 : Option Addr) (d1 : Nat) (a2 : Option Addr) (c2 : Nat) (a3 : Option Addr) (c3 : Nat) (b3 : Option Addr) (d3 : Nat) (a4 : Option Addr) (c4 : Nat) (a5 : Option Addr) (c5 : Nat) (w : World) (R : FabRd w x a1 c1 b1 d1 a2 c2 a3 c3 b3 d3 a4 c4 a5 c5) :
    Calls Tryz.prog 111 #[.agg #[nI x.1.1, nI x.1.2.1, nI x.1.2.2.1, nI x.1.2.2.2, sL a1 x.2.1.1.length c1, sL b1 x.2.1.2.length d1, sL a2 x.2.2.1.length c2, sL a3 x.2.2.2.1.1.length c3, nI x.2.2.2.1.2.1, .bool x.2.2.2.1.2.2.1, sL b3 x.2.2.2.1.2.2.2.length d3, sL a4 x.2.2.2.2.1.length c4, sL a5 x.2.2.2.2.2.length c5]] w fun e w' => e = .returned (.bool (doneB x)) ∧ Bl w w' := by
 have g : Hid _ := fun (W : World) (hb : Bl w W) => conHas a2 x.2.2.1 c2 W (fab_next R hb).cores R.coresl;have k : Hid (∀ W, Calls Tryz.prog 173 #[.agg #[sL a3 x.2.2.2.1.1.length c3, nI x.2.2.2.1.2.1, .bool x.2.2.2.1.2.2.1, sL b3 x.2.2.2.1.2.2.2.length d3]] W fun e w' => e = .returned (.agg #[sL a3 x.2.2.2.1.1.length c3, nI x.2.2.2.1.2.1]) ∧ Bl W w') := fun W => queue_any x.2.2.2.1 a3 b3 c3 d3 W;have f : Hid (∀ W, Calls Tryz.prog 174 #[.agg #[sL a3 x.2.2.2.1.1.length c3, nI x.2.2.2.1.2.1]] W fun e w' => e = .returned (.bool (decide (x.2.2.2.1.2.1 < (x.2.2.2.1.1.length : Int)))) ∧ Bl W w') := fun W => hasNext_any x.2.2.2.1 a3 c3 W R.descsl;unfold doneB;clear R;generalize x.2.2.1.all idleC = q1 at g ⊢;generalize decide (x.2.2.2.1.2.1 < (x.2.2.2.1.1.length : Int)) = q2 at f ⊢;have B := Below.refl w.heap.size w;go_enter Tryz.func111, Tryz.ntmps111;go_upto_region 1 with fail
 generalize a : w.alloc _ = u1w;have F := boxH a;have d := boxB a;have i := boxL a;clear a;replace B := below_step B d;clear d i;obtain ⟨Fc0, Fc1, Fc2, Fc3, Fc4, Fc5, Fc6, Fc7, Fc8, Fc9, Fc10, Fc11, Fc12⟩ := cells_fabric F;have Flt := (ltH F);go_wp2_with fail
 clear Fc0 Fc1 Fc2 Fc3 Fc4 Fc5 Fc6 Fc7 Fc8 Fc9 Fc10 Fc11 Fc12 Flt;refine (g.out _ B).mono ?_;rintro e m ⟨rfl, b⟩;replace B := below_step B b;replace F := row_keep b F;clear b;cases q1
 ·skip
  obtain ⟨Fc0, Fc1, Fc2, Fc3, Fc4, Fc5, Fc6, Fc7, Fc8, Fc9, Fc10, Fc11, Fc12⟩ := cells_fabric F;have Flt := (ltH F);have c : Hid _ := B;clear B F;go_wp2;go_ret
  exact ⟨by simp, c.out⟩
 ·skip
  obtain ⟨Fc0, Fc1, Fc2, Fc3, Fc4, Fc5, Fc6, Fc7, Fc8, Fc9, Fc10, Fc11, Fc12⟩ := cells_fabric F;have Flt := (ltH F);go_wp2_with fail
  clear Fc0 Fc1 Fc2 Fc3 Fc4 Fc5 Fc6 Fc7 Fc8 Fc9 Fc10 Fc11 Fc12 Flt;refine (k.out _).mono ?_;rintro e l ⟨rfl, b⟩;replace B := below_step B b;replace F := row_keep b F;clear b;obtain ⟨Fc0, Fc1, Fc2, Fc3, Fc4, Fc5, Fc6, Fc7, Fc8, Fc9, Fc10, Fc11, Fc12⟩ := cells_fabric F;have Flt := (ltH F);go_wp2_with fail
  clear Fc0 Fc1 Fc2 Fc3 Fc4 Fc5 Fc6 Fc7 Fc8 Fc9 Fc10 Fc11 Fc12 Flt;refine (f.out _).mono ?_;rintro e j ⟨rfl, b⟩;replace B := below_step B b;replace F := row_keep b F;clear b;cases q2
  ·skip
   obtain ⟨Fc0, Fc1, Fc2, Fc3, Fc4, Fc5, Fc6, Fc7, Fc8, Fc9, Fc10, Fc11, Fc12⟩ := cells_fabric F;have Flt := (ltH F);have c : Hid _ := B;clear B F;go_wp2;go_ret
   exact ⟨by simp, c.out⟩
  ·skip
   obtain ⟨Fc0, Fc1, Fc2, Fc3, Fc4, Fc5, Fc6, Fc7, Fc8, Fc9, Fc10, Fc11, Fc12⟩ := cells_fabric F;have Flt := (ltH F);have c : Hid _ := B;clear B F;go_wp2;go_ret
   exact ⟨by simp, c.out⟩
theorem implFinished_any (x : FabricD) (a1 : Option Addr) (c1 : Nat) (b1 : Option Addr) (d1 : Nat) (a2 : Option Addr) (c2 : Nat) (a3 : Option Addr) (c3 : Nat) (b3 : Option Addr) (d3 : Nat) (a4 : Option Addr) (c4 : Nat) (a5 : Option Addr) (c5 : Nat) (w : World) (R : FabRd w x a1 c1 b1 d1 a2 c2 a3 c3 b3 d3 a4 c4 a5 c5) (hh : Hold w) :
    Calls Tryz.prog 56 #[.agg #[nI x.1.1, nI x.1.2.1, nI x.1.2.2.1, nI x.1.2.2.2, sL a1 x.2.1.1.length c1, sL b1 x.2.1.2.length d1, sL a2 x.2.2.1.length c2, sL a3 x.2.2.2.1.1.length c3, nI x.2.2.2.1.2.1, .bool x.2.2.2.1.2.2.1, sL b3 x.2.2.2.1.2.2.2.length d3, sL a4 x.2.2.2.2.1.length c4, sL a5 x.2.2.2.2.2.length c5]] w fun e w' => e = .returned (.bool (finI x)) ∧ Bl w w' := by
 have g : Hid _ := fun (W : World) (hb : Bl w W) => implFabricOk_any x a1 c1 b1 d1 a2 c2 a3 c3 b3 d3 a4 c4 a5 c5 W (fab_next R hb) (hh.goes hb);have j : Hid _ := fun (W : World) (hb : Bl w W) => progDone_any x a1 c1 b1 d1 a2 c2 a3 c3 b3 d3 a4 c4 a5 c5 W (fab_next R hb);have hn : x.2.2.2.2.1.length ≤ 9223372036854775807 := R.netl;unfold finI;clear R hh;generalize fabI x = q1 at g ⊢;generalize doneB x = q2 at j ⊢;have B := Below.refl w.heap.size w;go_enter Tryz.func56, Tryz.ntmps56;go_upto_region 1 with fail
 generalize a : w.alloc _ = u1w;have F := boxH a;have f := boxB a;have k := boxL a;clear a;replace B := below_step B f;clear f k;obtain ⟨Fc0, Fc1, Fc2, Fc3, Fc4, Fc5, Fc6, Fc7, Fc8, Fc9, Fc10, Fc11, Fc12⟩ := cells_fabric F;have Flt := (ltH F);go_wp2_with fail
 clear Fc0 Fc1 Fc2 Fc3 Fc4 Fc5 Fc6 Fc7 Fc8 Fc9 Fc10 Fc11 Fc12 Flt;refine (g.out _ B).mono ?_;rintro e m ⟨rfl, c⟩;replace B := below_step B c;replace F := row_keep c F;clear c;cases q1
 ·skip
  obtain ⟨Fc0, Fc1, Fc2, Fc3, Fc4, Fc5, Fc6, Fc7, Fc8, Fc9, Fc10, Fc11, Fc12⟩ := cells_fabric F;have Flt := (ltH F);have b : Hid _ := B;clear B F;go_wp2;go_ret
  exact ⟨by simp, b.out⟩
 ·skip
  obtain ⟨Fc0, Fc1, Fc2, Fc3, Fc4, Fc5, Fc6, Fc7, Fc8, Fc9, Fc10, Fc11, Fc12⟩ := cells_fabric F;have Flt := (ltH F);go_wp2_with fail
  clear Fc0 Fc1 Fc2 Fc3 Fc4 Fc5 Fc6 Fc7 Fc8 Fc9 Fc10 Fc11 Fc12 Flt;refine (j.out _ B).mono ?_;rintro e l ⟨rfl, c⟩;replace B := below_step B c;replace F := row_keep c F;clear c;cases q2
  ·skip
   obtain ⟨Fc0, Fc1, Fc2, Fc3, Fc4, Fc5, Fc6, Fc7, Fc8, Fc9, Fc10, Fc11, Fc12⟩ := cells_fabric F;have Flt := (ltH F);have b : Hid _ := B;clear B F;go_wp2;go_ret
   exact ⟨by simp, b.out⟩
  ·by_cases i : x.2.2.2.2.1.length = 0
   ·have d : (x.2.2.2.2.1.length : Int) = 0 := by omega
    obtain ⟨Fc0, Fc1, Fc2, Fc3, Fc4, Fc5, Fc6, Fc7, Fc8, Fc9, Fc10, Fc11, Fc12⟩ := cells_fabric F;have Flt := (ltH F);have b : Hid _ := B;clear B F;go_wp2;go_ret
    exact ⟨by simp [i], b.out⟩
   ·have d : ¬ (x.2.2.2.2.1.length : Int) = 0 := by omega
    obtain ⟨Fc0, Fc1, Fc2, Fc3, Fc4, Fc5, Fc6, Fc7, Fc8, Fc9, Fc10, Fc11, Fc12⟩ := cells_fabric F;have Flt := (ltH F);have b : Hid _ := B;clear B F;go_wp2;go_ret
    exact ⟨by simp [i], b.out⟩
end Go.Proofs.YtdamokokcdcedaaGreatDoor
