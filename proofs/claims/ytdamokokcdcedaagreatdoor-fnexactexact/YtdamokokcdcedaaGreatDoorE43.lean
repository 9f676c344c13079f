import Derived.Test.YtdamokokcdcedaaGreatDoorE00Box
import Derived.Test.YtdamokokcdcedaaGreatDoorE42
namespace Go.Proofs.YtdamokokcdcedaaGreatDoor
open Go.ChangeShapes Go.WideShapes Go.ChangeAt Go.RowKit
set_option linter.unusedVariables false
set_option linter.unusedSimpArgs false
set_option maxHeartbeats 4000000 in
set_option maxRecDepth 20000 in
theorem implFabricOk_any (x : FabricD) (a1 : Option Addr) (c1 : Nat) (b1 : Option Addr) (d1 : Nat) (a2 : Option Addr) (c2 : Nat) (a3 : Option Addr) (c3 : Nat) (b3 : Option Addr) (d3 : Nat) (a4 : Option Addr) (c4 : Nat) (a5 : Option Addr) (c5 : Nat) (w : World) (R : FabRd w x a1 c1 b1 d1 a2 c2 a3 c3 b3 d3 a4 c4 a5 c5) (hh : Hold w) :
    Calls Tryz.prog 32 #[.agg #[nI x.1.1, nI x.1.2.1, nI x.1.2.2.1, nI x.1.2.2.2, sL a1 x.2.1.1.length c1, sL b1 x.2.1.2.length d1, sL a2 x.2.2.1.length c2, sL a3 x.2.2.2.1.1.length c3, nI x.2.2.2.1.2.1, .bool x.2.2.2.1.2.2.1, sL b3 x.2.2.2.1.2.2.2.length d3, sL a4 x.2.2.2.2.1.length c4, sL a5 x.2.2.2.2.2.length c5]] w fun e w' => e = .returned (.bool (fabI x)) ∧ Bl w w' := by
 have E : Hid _ := fun (W : World) (hb : Bl w W) => implCode_any x.1.1 x.1.2.1 x.1.2.2.1 x.1.2.2.2 W;have o : Hid (codeI x.1.1 x.1.2.1 x.1.2.2.1 x.1.2.2.2 = 0 → ∀ W, Bl w W → Calls Tryz.prog 84 #[.agg #[nI x.1.1, nI x.1.2.1, nI x.1.2.2.1, nI x.1.2.2.2, sL a1 x.2.1.1.length c1, sL b1 x.2.1.2.length d1, sL a2 x.2.2.1.length c2, sL a3 x.2.2.2.1.1.length c3, nI x.2.2.2.1.2.1, .bool x.2.2.2.1.2.2.1, sL b3 x.2.2.2.1.2.2.2.length d3, sL a4 x.2.2.2.2.1.length c4, sL a5 x.2.2.2.2.2.length c5]] W fun e w' => e = .returned (.bool (houseFit x)) ∧ Bl W w') := fun hc W hb => fabHouse_any x a1 c1 b1 d1 a2 c2 a3 c3 b3 d3 a4 c4 a5 c5 W hc (fab_next R hb);have m : Hid (codeI x.1.1 x.1.2.1 x.1.2.2.1 x.1.2.2.2 = 0 → ∀ W, Bl w W → Calls Tryz.prog 85 #[.agg #[nI x.1.1, nI x.1.2.1, nI x.1.2.2.1, nI x.1.2.2.2, sL a1 x.2.1.1.length c1, sL b1 x.2.1.2.length d1, sL a2 x.2.2.1.length c2, sL a3 x.2.2.2.1.1.length c3, nI x.2.2.2.1.2.1, .bool x.2.2.2.1.2.2.1, sL b3 x.2.2.2.1.2.2.2.length d3, sL a4 x.2.2.2.2.1.length c4, sL a5 x.2.2.2.2.2.length c5]] W fun e w' => e = .returned (.bool (coresFit x)) ∧ Bl W w') := fun hc W hb => fabCores_any x a1 c1 b1 d1 a2 c2 a3 c3 b3 d3 a4 c4 a5 c5 W hc (fab_next R hb) (hh.goes hb);have q : Hid (codeI x.1.1 x.1.2.1 x.1.2.2.1 x.1.2.2.2 = 0 → ∀ W, Bl w W → Calls Tryz.prog 86 #[.agg #[nI x.1.1, nI x.1.2.1, nI x.1.2.2.1, nI x.1.2.2.2, sL a1 x.2.1.1.length c1, sL b1 x.2.1.2.length d1, sL a2 x.2.2.1.length c2, sL a3 x.2.2.2.1.1.length c3, nI x.2.2.2.1.2.1, .bool x.2.2.2.1.2.2.1, sL b3 x.2.2.2.1.2.2.2.length d3, sL a4 x.2.2.2.2.1.length c4, sL a5 x.2.2.2.2.2.length c5]] W fun e w' => e = .returned (.bool (dmaFit x)) ∧ Bl W w') := fun hc W hb => fabDma_any x a1 c1 b1 d1 a2 c2 a3 c3 b3 d3 a4 c4 a5 c5 W hc (fab_next R hb) (hh.goes hb);have l : Hid (codeI x.1.1 x.1.2.1 x.1.2.2.1 x.1.2.2.2 = 0 → ∀ W, Bl w W → Calls Tryz.prog 87 #[.agg #[nI x.1.1, nI x.1.2.1, nI x.1.2.2.1, nI x.1.2.2.2, sL a1 x.2.1.1.length c1, sL b1 x.2.1.2.length d1, sL a2 x.2.2.1.length c2, sL a3 x.2.2.2.1.1.length c3, nI x.2.2.2.1.2.1, .bool x.2.2.2.1.2.2.1, sL b3 x.2.2.2.1.2.2.2.length d3, sL a4 x.2.2.2.2.1.length c4, sL a5 x.2.2.2.2.2.length c5]] W fun e w' => e = .returned (.bool (netFit x)) ∧ Bl W w') := fun hc W hb => fabNet_any x a1 c1 b1 d1 a2 c2 a3 c3 b3 d3 a4 c4 a5 c5 W hc (fab_next R hb);have y : Hid _ := fun (W : World) (hb : Bl w W) => fabEvents_any x a1 c1 b1 d1 a2 c2 a3 c3 b3 d3 a4 c4 a5 c5 W (fab_next R hb);unfold fabI;clear R hh;generalize codeI x.1.1 x.1.2.1 x.1.2.2.1 x.1.2.2.2 = kc at E o m q l ⊢;generalize houseFit x = q1 at o ⊢;generalize coresFit x = q2 at m ⊢;generalize dmaFit x = q3 at q ⊢;generalize netFit x = q4 at l ⊢;generalize (decide (x.2.2.2.2.2.length ≤ 200) && x.2.2.2.2.2.all evB) = q5 at y ⊢;have B := Below.refl w.heap.size w;go_enter Tryz.func32, Tryz.ntmps32;go_upto_region 1 with fail
 generalize b : w.alloc _ = u1w;have F := boxH b;have s := boxB b;have p := boxL b;clear b;replace B := below_step B s;clear s;have I := lE p;have J := lE p.symm;clear p;obtain ⟨Fc0, Fc1, Fc2, Fc3, Fc4, Fc5, Fc6, Fc7, Fc8, Fc9, Fc10, Fc11, Fc12⟩ := cells_fabric F;have Flt := (ltH F);go_wp2_with fail
 clear Fc0 Fc1 Fc2 Fc3 Fc4 Fc5 Fc6 Fc7 Fc8 Fc9 Fc10 Fc11 Fc12 Flt;refine (E.out _ B).mono ?_;rintro e f ⟨rfl, a⟩;have z : u1w.heap.size ≤ f.heap.size := a.size;replace B := below_step B a;replace F := row_keep a F;clear a;by_cases d : kc = 0
 ·have H : (kc == 0) = true := by simp [d]
  subst d;have d : (0 : Int) = 0 := rfl;clear d;obtain ⟨Fc0, Fc1, Fc2, Fc3, Fc4, Fc5, Fc6, Fc7, Fc8, Fc9, Fc10, Fc11, Fc12⟩ := cells_fabric F;have Flt := (ltH F);go_wp2_with fail
  clear Fc0 Fc1 Fc2 Fc3 Fc4 Fc5 Fc6 Fc7 Fc8 Fc9 Fc10 Fc11 Fc12 Flt;refine (o.out (by first | rfl | trivial) _ B).mono ?_;rintro e i ⟨rfl, a⟩;have D : f.heap.size ≤ i.heap.size := a.size;replace B := below_step B a;replace F := row_keep a F;clear a;cases q1
  ·skip
   obtain ⟨Fc0, Fc1, Fc2, Fc3, Fc4, Fc5, Fc6, Fc7, Fc8, Fc9, Fc10, Fc11, Fc12⟩ := cells_fabric F;have Flt := (ltH F);have c : Hid _ := B;clear B F;go_wp2;go_ret
   exact ⟨by simp, c.out⟩
  ·skip
   obtain ⟨Fc0, Fc1, Fc2, Fc3, Fc4, Fc5, Fc6, Fc7, Fc8, Fc9, Fc10, Fc11, Fc12⟩ := cells_fabric F;have Flt := (ltH F);go_wp2_with fail
   clear Fc0 Fc1 Fc2 Fc3 Fc4 Fc5 Fc6 Fc7 Fc8 Fc9 Fc10 Fc11 Fc12 Flt;refine (m.out (by first | rfl | trivial) _ B).mono ?_;rintro e j ⟨rfl, a⟩;have C : i.heap.size ≤ j.heap.size := a.size;replace B := below_step B a;replace F := row_keep a F;clear a;cases q2
   ·skip
    obtain ⟨Fc0, Fc1, Fc2, Fc3, Fc4, Fc5, Fc6, Fc7, Fc8, Fc9, Fc10, Fc11, Fc12⟩ := cells_fabric F;have Flt := (ltH F);have c : Hid _ := B;clear B F;go_wp2;go_ret
    exact ⟨by simp, c.out⟩
   ·skip
    obtain ⟨Fc0, Fc1, Fc2, Fc3, Fc4, Fc5, Fc6, Fc7, Fc8, Fc9, Fc10, Fc11, Fc12⟩ := cells_fabric F;have Flt := (ltH F);go_wp2_with fail
    clear Fc0 Fc1 Fc2 Fc3 Fc4 Fc5 Fc6 Fc7 Fc8 Fc9 Fc10 Fc11 Fc12 Flt;refine (q.out (by first | rfl | trivial) _ B).mono ?_;rintro e g ⟨rfl, a⟩;have A : j.heap.size ≤ g.heap.size := a.size;replace B := below_step B a;replace F := row_keep a F;clear a;cases q3
    ·skip
     obtain ⟨Fc0, Fc1, Fc2, Fc3, Fc4, Fc5, Fc6, Fc7, Fc8, Fc9, Fc10, Fc11, Fc12⟩ := cells_fabric F;have Flt := (ltH F);have c : Hid _ := B;clear B F;go_wp2;go_ret
     exact ⟨by simp, c.out⟩
    ·skip
     obtain ⟨Fc0, Fc1, Fc2, Fc3, Fc4, Fc5, Fc6, Fc7, Fc8, Fc9, Fc10, Fc11, Fc12⟩ := cells_fabric F;have Flt := (ltH F);go_wp2_with fail
     clear Fc0 Fc1 Fc2 Fc3 Fc4 Fc5 Fc6 Fc7 Fc8 Fc9 Fc10 Fc11 Fc12 Flt;refine (l.out (by first | rfl | trivial) _ B).mono ?_;rintro e k ⟨rfl, a⟩;have v : g.heap.size ≤ k.heap.size := a.size;replace B := below_step B a;replace F := row_keep a F;clear a;cases q4
     ·skip
      obtain ⟨Fc0, Fc1, Fc2, Fc3, Fc4, Fc5, Fc6, Fc7, Fc8, Fc9, Fc10, Fc11, Fc12⟩ := cells_fabric F;have Flt := (ltH F);have c : Hid _ := B;clear B F;go_wp2;go_ret
      exact ⟨by simp, c.out⟩
     ·skip
      obtain ⟨Fc0, Fc1, Fc2, Fc3, Fc4, Fc5, Fc6, Fc7, Fc8, Fc9, Fc10, Fc11, Fc12⟩ := cells_fabric F;have Flt := (ltH F);go_wp2_with fail
      clear Fc0 Fc1 Fc2 Fc3 Fc4 Fc5 Fc6 Fc7 Fc8 Fc9 Fc10 Fc11 Fc12 Flt;refine (y.out _ B).mono ?_;rintro e n ⟨rfl, a⟩;have r : k.heap.size ≤ n.heap.size := a.size;replace B := below_step B a;replace F := row_keep a F;clear a;obtain ⟨Fc0, Fc1, Fc2, Fc3, Fc4, Fc5, Fc6, Fc7, Fc8, Fc9, Fc10, Fc11, Fc12⟩ := cells_fabric F;have Flt := (ltH F);have c : Hid _ := B;clear B F;go_wp2;go_ret
      exact ⟨by simp, c.out⟩
 ·have H : (kc == 0) = false := by simp [d]
  have G : Hid (¬ kc = 0) := d;clear d;obtain ⟨Fc0, Fc1, Fc2, Fc3, Fc4, Fc5, Fc6, Fc7, Fc8, Fc9, Fc10, Fc11, Fc12⟩ := cells_fabric F;have Flt := (ltH F);have c : Hid _ := B;clear B F;go_wp2;go_ret
  exact ⟨by simp [G.out], c.out⟩
def loopsOf : Code → List Code
 | .loop c => [c]
 | .seq a b => loopsOf a ++ loopsOf b
 | .block _ c => loopsOf c
 | .scope c => loopsOf c
 | .cond _ a b => loopsOf a ++ loopsOf b
 | _ => []
noncomputable def fabCode (n : Nat) : Code := ((Tryz.f24.body.map loopsOf).getD []).getD n .skip
theorem all_upto {α : Type} {p : α → Bool} {xs : List α} (h : ∀ (j : Nat) v, xs[j]? = some v → p v = true) : xs.all p = true := List.all_eq_true.2 fun v hv => by
 obtain ⟨j, a⟩ := List.getElem?_of_mem hv;exact h j v a
structure UptoF (w : World) (x : FabricD) (a1 b1 a2 a3 b3 a4 a5 : Option Addr) (c1 d1 c2 c3 d3 c4 c5 : Nat) (n : Nat) (p : Nat → Prop) (i : Value) (wr : World) : Prop where
 ex : ∃ k : Nat, k ≤ n ∧ i = .int .i64 k ∧ (∀ j, j < k → p j) ∧ Below w.heap.size w wr ∧ wr.heap[w.heap.size]? = some (.cells #[.int .i64 x.1.1, .int .i64 x.1.2.1, .int .i64 x.1.2.2.1, .int .i64 x.1.2.2.2, .slice a1 x.2.1.1.length c1, .slice b1 x.2.1.2.length d1, .slice a2 x.2.2.1.length c2, .slice a3 x.2.2.2.1.1.length c3, .int .i64 x.2.2.2.1.2.1, .bool x.2.2.2.1.2.2.1, .slice b3 x.2.2.2.1.2.2.2.length d3, .slice a4 x.2.2.2.2.1.length c4, .slice a5 x.2.2.2.2.2.length c5] 49 (0, 0))
theorem wrap_u64c {c : Int} (h0 : 0 ≤ c) (h4 : c ≤ 4) : IntKind.u64.wrap c = c := by
 rcases (by omega : c = 0 ∨ c = 1 ∨ c = 2 ∨ c = 3 ∨ c = 4) with rfl | rfl | rfl | rfl | rfl <;> rfl
end Go.Proofs.YtdamokokcdcedaaGreatDoor
