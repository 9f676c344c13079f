import Derived.Test.YtcocbafhcpdheaaGreatDoorP00Box
import Derived.Test.YtcocbafhcpdheaaGreatDoorP50StatesI
namespace Go.Proofs.YtcocbafhcpdheaaGreatDoor
set_option maxHeartbeats 4000000
set_option maxRecDepth 20000
open Go.ChangeShapes Go.WideShapes Go.ChangeAt Go.RowKit
set_option linter.unusedVariables false
set_option linter.unusedSimpArgs false
def AllT (p : Nat → Bool) (j : Nat) : Prop := ∀ i, i < j → p i = true
noncomputable def cohI (x : FabricD) : Bool := fabI x && (List.range x.1.2.2.2.toNat).all fun k => togB (statesI x (k : Int))
theorem allT_step {p : Nat → Bool} {j : Nat} (h : AllT p j) (hj : p j = true) : AllT p (j + 1) := fun i hi => by
 by_cases a : i < j
 ·exact h i a
 ·have : i = j := by omega
  rw [this];exact hj
theorem allT_end {p : Nat → Bool} {n : Nat} (h : AllT p n) : (List.range n).all p = true := List.all_eq_true.2 fun i hi => h i (List.mem_range.1 hi)
theorem allT_not {p : Nat → Bool} {n j : Nat} (hj : j < n) (h : p j = false) : (List.range n).all p = false := by
 cases q : (List.range n).all p
 ·rfl
 ·have := List.all_eq_true.1 q j (List.mem_range.2 hj);rw [h] at this;cases this
theorem specCoherent_any (x : FabricD) (a1 : Option Addr) (c1 : Nat) (b1 : Option Addr) (d1 : Nat) (a2 : Option Addr) (c2 : Nat) (a3 : Option Addr) (c3 : Nat) (b3 : Option Addr) (d3 : Nat) (a4 : Option Addr) (c4 : Nat) (a5 : Option Addr) (c5 : Nat) (w : World) (R : FabRd w x a1 c1 b1 d1 a2 c2 a3 c3 b3 d3 a4 c4 a5 c5) (h : fabricR.rd w [.int .i64 x.1.1, .int .i64 x.1.2.1, .int .i64 x.1.2.2.1, .int .i64 x.1.2.2.2, .slice a1 x.2.1.1.length c1, .slice b1 x.2.1.2.length d1, .slice a2 x.2.2.1.length c2, .slice a3 x.2.2.2.1.1.length c3, .int .i64 x.2.2.2.1.2.1, .bool x.2.2.2.1.2.2.1, .slice b3 x.2.2.2.1.2.2.2.length d3, .slice a4 x.2.2.2.2.1.length c4, .slice a5 x.2.2.2.2.2.length c5] x) (hbk : fabricM.bk x ≤ 1048576) :
    Calls Tryz.prog 16 #[.agg #[.int .i64 x.1.1, .int .i64 x.1.2.1, .int .i64 x.1.2.2.1, .int .i64 x.1.2.2.2, .slice a1 x.2.1.1.length c1, .slice b1 x.2.1.2.length d1, .slice a2 x.2.2.1.length c2, .slice a3 x.2.2.2.1.1.length c3, .int .i64 x.2.2.2.1.2.1, .bool x.2.2.2.1.2.2.1, .slice b3 x.2.2.2.1.2.2.2.length d3, .slice a4 x.2.2.2.2.1.length c4, .slice a5 x.2.2.2.2.2.length c5]] w fun e w' => e = .returned (.bool (cohI x)) ∧ Below w.heap.size w w' := by
 have m : Hid _ := fun (W : World) (hb : Below w.heap.size w W) => specFab_u [.int .i64 x.1.1, .int .i64 x.1.2.1, .int .i64 x.1.2.2.1, .int .i64 x.1.2.2.2, .slice a1 x.2.1.1.length c1, .slice b1 x.2.1.2.length d1, .slice a2 x.2.2.1.length c2, .slice a3 x.2.2.2.1.1.length c3, .int .i64 x.2.2.2.1.2.1, .bool x.2.2.2.1.2.2.1, .slice b3 x.2.2.2.1.2.2.2.length d3, .slice a4 x.2.2.2.2.1.length c4, .slice a5 x.2.2.2.2.2.length c5] x W (rd_next h hb) hbk;have B := Below.refl w.heap.size w;cases d : fabI x
 ·have y : Hid (cohI x = false) := by unfold Hid cohI; rw [d]; rfl
  rw [d] at m;clear R h;go_enter Tryz.func16, Tryz.ntmps16;go_upto_region 1 with fail
  generalize a : w.alloc _ = u1w;have F := boxH a;have o := boxB a;have I := boxL a;clear a;replace B := below_step B o;clear o;clear I;obtain ⟨Fc0, Fc1, Fc2, Fc3, Fc4, Fc5, Fc6, Fc7, Fc8, Fc9, Fc10, Fc11, Fc12⟩ := cells_fabric F;have Flt := (ltH F);go_wp2_with fail
  clear Fc0 Fc1 Fc2 Fc3 Fc4 Fc5 Fc6 Fc7 Fc8 Fc9 Fc10 Fc11 Fc12 Flt;refine (m.out _ B).mono ?_;rintro e J ⟨rfl, g⟩;replace B := below_step B g;replace F := row_keep g F;clear g;obtain ⟨Fc0, Fc1, Fc2, Fc3, Fc4, Fc5, Fc6, Fc7, Fc8, Fc9, Fc10, Fc11, Fc12⟩ := cells_fabric F;have Flt := (ltH F);have HB : Hid _ := B;clear B F;go_wp2;go_ret
  exact ⟨ret_bool y.out.symm, HB.out⟩
 ·obtain ⟨⟨oA, O⟩, A⟩ := fab_lines d;have f : ∀ k : Int, (statesI x k).length ≤ 4 := fun k => by
   obtain ⟨⟨gA, jA⟩, S, -⟩ := fab_facts d;rw [states_len];omega
  have s : Hid _ := f;have HC : Hid (∀ (k : Int) W, Below w.heap.size w W → Calls Tryz.prog 28 #[.agg #[.int .i64 x.1.1, .int .i64 x.1.2.1, .int .i64 x.1.2.2.1, .int .i64 x.1.2.2.2, .slice a1 x.2.1.1.length c1, .slice b1 x.2.1.2.length d1, .slice a2 x.2.2.1.length c2, .slice a3 x.2.2.2.1.1.length c3, .int .i64 x.2.2.2.1.2.1, .bool x.2.2.2.1.2.2.1, .slice b3 x.2.2.2.1.2.2.2.length d3, .slice a4 x.2.2.2.2.1.length c4, .slice a5 x.2.2.2.2.2.length c5], .int .i64 k] W fun e w' => ∃ v, e = .returned v ∧ MadeR intsR W w' [v] (statesI x k)) := fun k W hb => l17States_u x a1 c1 b1 d1 a2 c2 a3 c3 b3 d3 a4 c4 a5 c5 W (fab_next R hb) d k;have y : Hid (cohI x = (List.range x.1.2.2.2.toNat).all fun k => togB (statesI x (k : Int))) := by unfold Hid cohI; rw [d, Bool.true_and]
  rw [d] at m;clear R h A f;go_enter Tryz.func16, Tryz.ntmps16;go_upto_region 1 with fail
  generalize a : w.alloc _ = u1w;have F := boxH a;have o := boxB a;have I := boxL a;clear a;replace B := below_step B o;clear o;clear I;obtain ⟨Fc0, Fc1, Fc2, Fc3, Fc4, Fc5, Fc6, Fc7, Fc8, Fc9, Fc10, Fc11, Fc12⟩ := cells_fabric F;have Flt := (ltH F);go_wp2_with fail
  clear Fc0 Fc1 Fc2 Fc3 Fc4 Fc5 Fc6 Fc7 Fc8 Fc9 Fc10 Fc11 Fc12 Flt;refine (m.out _ B).mono ?_;rintro e J ⟨rfl, g⟩;replace B := below_step B g;replace F := row_keep g F;clear g;clear m d;go_wp2;go_loopw [3] (fun i wr => ∃ j : Nat, (j : Int) ≤ x.1.2.2.2 ∧ i = .int .i64 j ∧ AllT (fun k => togB (statesI x (k : Int))) j ∧ Below w.heap.size w wr ∧ wr.heap[w.heap.size]? = some (.cells #[.int .i64 x.1.1, .int .i64 x.1.2.1, .int .i64 x.1.2.2.1, .int .i64 x.1.2.2.2, .slice a1 x.2.1.1.length c1, .slice b1 x.2.1.2.length d1, .slice a2 x.2.2.1.length c2, .slice a3 x.2.2.2.1.1.length c3, .int .i64 x.2.2.2.1.2.1, .bool x.2.2.2.1.2.2.1, .slice b3 x.2.2.2.1.2.2.2.length d3, .slice a4 x.2.2.2.2.1.length c4, .slice a5 x.2.2.2.2.2.length c5] 50 (0, 0))) (fun i _ => x.1.2.2.2.toNat - (intOf i).toNat)
  case atStart => exact ⟨0, by omega, rfl, fun i hi => by omega, B, F⟩
  case round =>
   clear B F;obtain ⟨j, hj, rfl, c, l, F⟩ := hrel;obtain ⟨p0, p1, U, p3, V, Z, p6, p7, p8, p9, E, H, G⟩ := cells_fabric F;by_cases aA : (j : Int) < x.1.2.2.2
   ·have K : Hid _ := F;have r : Hid _ := c;clear F c;go_wp2_with fail
    clear p0 p1 U p3 V Z p6 p7 p8 p9 E H G;refine (HC.out j _ l).mono ?_;rintro e Y ⟨v, rfl, M⟩;obtain ⟨X, T, N, -, -, q⟩ := intsR.own_rd M.1;simp only [List.cons.injEq, and_true] at N;subst N;replace l := below_step l M.2;have F := row_keep M.2 K.out;clear K;have L := specTogether_any X (statesI x j) T Y (reads_of q) (Nat.le_trans (s.out j) (by decide));clear M q;generalize D : togB (statesI x (j : Int)) = b at L;have n : Hid _ := And.intro l F;clear l F;go_wp2_with fail
    refine L.mono ?_;rintro e w6 ⟨rfl, rfl⟩;cases b
    ·have z : Hid (cohI x = false) := by unfold Hid; rw [y.out]; exact allT_not (p := fun k => togB (statesI x (k : Int))) (by omega) D
     go_wp2;go_ret
     exact ⟨ret_bool z.out.symm, n.out.1⟩
    ·have HE : Hid _ := allT_step (p := fun k => togB (statesI x (k : Int))) r.out D;clear r D;go_wp2;go_roundw
     case rel => exact ⟨j + 1, by omega, by go_num, HE.out, n.out⟩
     case measure => simp [intOf]; omega
   ·have C : j = x.1.2.2.2.toNat := by omega
    have z : Hid (cohI x = true) := by unfold Hid; rw [y.out, ← C]; exact allT_end c
    clear c F;go_wp2;go_ret
    exact ⟨ret_bool z.out.symm, l⟩
theorem reads_lt {w : World} {lo hi : Nat} {v : Value} {xs : List Int} {a : Option Addr} {n c : Nat} (h : intsR.own w (rng lo hi) [v] xs) (hv : v = .slice a n c) (hh : hi ≤ w.heap.size) : ∀ p, a = some p → p.block < w.heap.size := by
 intro p f;obtain ⟨v', b, S', e, -, d, -, -⟩ := h;simp only [List.cons.injEq, and_true] at e;subst e hv f;have := (d p.block rfl).1;exact Nat.lt_of_lt_of_le this.2 hh
theorem coherent_u (x : FabricD) (a1 : Option Addr) (c1 : Nat) (b1 : Option Addr) (d1 : Nat) (a2 : Option Addr) (c2 : Nat) (a3 : Option Addr) (c3 : Nat) (b3 : Option Addr) (d3 : Nat) (a4 : Option Addr) (c4 : Nat) (a5 : Option Addr) (c5 : Nat) (w : World) (R : FabRd w x a1 c1 b1 d1 a2 c2 a3 c3 b3 d3 a4 c4 a5 c5) (hh : HoldT w) (hf : fabI x = true) :
    Calls Tryz.prog 51 #[.agg #[.int .i64 x.1.1, .int .i64 x.1.2.1, .int .i64 x.1.2.2.1, .int .i64 x.1.2.2.2, .slice a1 x.2.1.1.length c1, .slice b1 x.2.1.2.length d1, .slice a2 x.2.2.1.length c2, .slice a3 x.2.2.2.1.1.length c3, .int .i64 x.2.2.2.1.2.1, .bool x.2.2.2.1.2.2.1, .slice b3 x.2.2.2.1.2.2.2.length d3, .slice a4 x.2.2.2.2.1.length c4, .slice a5 x.2.2.2.2.2.length c5]] w fun e w' => e = .returned (.bool (cohI x)) ∧ Below w.heap.size w w' := by
 obtain ⟨⟨pA, N⟩, C⟩ := fab_lines hf;have f : ∀ k : Int, (statesI x k).length ≤ 4 := fun k => by
  obtain ⟨⟨iA, kA⟩, S, -⟩ := fab_facts hf;rw [states_len];omega
 have y : Hid _ := f;have HH : Hid (∀ W, Below w.heap.size w W → HoldT W) := fun W hb => hh.goes hb;have HC : Hid (∀ (k : Int) W, Below w.heap.size w W → Calls Tryz.prog 37 #[.agg #[.int .i64 x.1.1, .int .i64 x.1.2.1, .int .i64 x.1.2.2.1, .int .i64 x.1.2.2.2, .slice a1 x.2.1.1.length c1, .slice b1 x.2.1.2.length d1, .slice a2 x.2.2.1.length c2, .slice a3 x.2.2.2.1.1.length c3, .int .i64 x.2.2.2.1.2.1, .bool x.2.2.2.1.2.2.1, .slice b3 x.2.2.2.1.2.2.2.length d3, .slice a4 x.2.2.2.2.1.length c4, .slice a5 x.2.2.2.2.2.length c5], .int .i64 k] W fun e w' => ∃ v, e = .returned v ∧ MadeR intsR W w' [v] (statesI x k)) := fun k W hb => statesOf_u x a1 c1 b1 d1 a2 c2 a3 c3 b3 d3 a4 c4 a5 c5 W (fab_next R hb) hf k;have O : Hid (cohI x = (List.range x.1.2.2.2.toNat).all fun k => togB (statesI x (k : Int))) := by unfold Hid cohI; rw [hf, Bool.true_and]
 have B := Below.refl w.heap.size w;clear R C f hf hh;go_enter Tryz.func51, Tryz.ntmps51;go_wp2;go_step3
 go_upto_region 1 with fail
 generalize c : w.alloc _ = u1w;have F := boxH c;have L := boxB c;have zF := boxL c;clear c;replace B := a B L;clear L;clear zF;have o : Hid _ := F;obtain ⟨Fc0, Fc1, Fc2, Fc3, Fc4, Fc5, Fc6, Fc7, Fc8, Fc9, Fc10, Fc11, Fc12⟩ := cells_fabric F;have Flt := (ltH F);clear F;go_wp2;go_step3
 go_wp2;clear Fc0 Fc1 Fc2 Fc3 Fc4 Fc5 Fc6 Fc7 Fc8 Fc9 Fc10 Fc11 Fc12 Flt;go_loopw [3, 8] (fun r i wr => ∃ j : Nat, (j : Int) ≤ x.1.2.2.2 ∧ r = .bool true ∧ i = .int .i64 j ∧ AllT (fun k => togB (statesI x (k : Int))) j ∧ Below w.heap.size w wr ∧ wr.heap[w.heap.size]? = some (.cells #[.int .i64 x.1.1, .int .i64 x.1.2.1, .int .i64 x.1.2.2.1, .int .i64 x.1.2.2.2, .slice a1 x.2.1.1.length c1, .slice b1 x.2.1.2.length d1, .slice a2 x.2.2.1.length c2, .slice a3 x.2.2.2.1.1.length c3, .int .i64 x.2.2.2.1.2.1, .bool x.2.2.2.1.2.2.1, .slice b3 x.2.2.2.1.2.2.2.length d3, .slice a4 x.2.2.2.2.1.length c4, .slice a5 x.2.2.2.2.2.length c5] 50 (0, 0))) (fun _ i _ => x.1.2.2.2.toNat - (intOf i).toNat)
 case atStart => exact ⟨0, by omega, rfl, rfl, fun i hi => by omega, B, o.out⟩
 case round =>
  clear B o;obtain ⟨j, hj, rfl, rfl, d, m, F⟩ := hrel;by_cases aA : (j : Int) < x.1.2.2.2
  ·obtain ⟨p0, p1, U, p3, V, Z, p6, p7, p8, p9, E, K, I⟩ := cells_fabric F;have o : Hid _ := F;have l : Hid _ := d;clear F d;go_wp2_with fail
   clear p0 p1 U p3 V Z p6 p7 p8 p9 E K I;refine (HC.out j _ m).mono ?_;rintro e Y ⟨v, rfl, M⟩;obtain ⟨X, T, H, -, -, q⟩ := intsR.own_rd M.1;simp only [List.cons.injEq, and_true] at H;have s := reads_lt M.1 H (Nat.le_refl _);subst H;replace m := a m M.2;have F := row_keep M.2 o.out;clear o;have G := implTogether_any X (statesI x j) T Y (reads_of q) (HH.out _ m) s (Nat.le_trans (y.out j) (by decide));clear M q s;generalize z : togB (statesI x (j : Int)) = b at G;have g : Hid _ := And.intro m F;clear m F;go_wp2_with fail
   refine G.mono ?_;rintro e w6 ⟨rfl, J⟩;have n : Hid _ := And.intro (a g.out.1 J) (row_keep J g.out.2);clear g J G;cases b
   ·have A : Hid (cohI x = false) := by unfold Hid; rw [O.out]; exact allT_not (p := fun k => togB (statesI x (k : Int))) (by omega) z
    clear l z;go_wp2;try rw [Exit.noGoto_ret]
    go_ret
    exact ⟨ret_bool A.out.symm, n.out.1⟩
   ·have HE : Hid _ := allT_step (p := fun k => togB (statesI x (k : Int))) l.out z;clear l z;go_wp2;go_roundw
    case rel => exact ⟨j + 1, by omega, rfl, by go_num, HE.out, n.out⟩
    case measure => simp [intOf]; omega
  ·have D : j = x.1.2.2.2.toNat := by omega
   have A : Hid (cohI x = true) := by unfold Hid; rw [O.out, ← D]; exact allT_end d
   clear d F;go_wp2;try rw [Exit.noGoto_ret]
   go_ret
   exact ⟨ret_bool A.out.symm, m⟩
theorem implCoherent_any (x : FabricD) (a1 : Option Addr) (c1 : Nat) (b1 : Option Addr) (d1 : Nat) (a2 : Option Addr) (c2 : Nat) (a3 : Option Addr) (c3 : Nat) (b3 : Option Addr) (d3 : Nat) (a4 : Option Addr) (c4 : Nat) (a5 : Option Addr) (c5 : Nat) (w : World) (R : FabRd w x a1 c1 b1 d1 a2 c2 a3 c3 b3 d3 a4 c4 a5 c5) (hh : Hold w) (ht : HoldT w) :
    Calls Tryz.prog 17 #[.agg #[.int .i64 x.1.1, .int .i64 x.1.2.1, .int .i64 x.1.2.2.1, .int .i64 x.1.2.2.2, .slice a1 x.2.1.1.length c1, .slice b1 x.2.1.2.length d1, .slice a2 x.2.2.1.length c2, .slice a3 x.2.2.2.1.1.length c3, .int .i64 x.2.2.2.1.2.1, .bool x.2.2.2.1.2.2.1, .slice b3 x.2.2.2.1.2.2.2.length d3, .slice a4 x.2.2.2.2.1.length c4, .slice a5 x.2.2.2.2.2.length c5]] w fun e w' => e = .returned (.bool (cohI x)) ∧ Below w.heap.size w w' := by
 have g : Hid _ := fun (W : World) (hb : Below w.heap.size w W) => implFabricOk_any x a1 c1 b1 d1 a2 c2 a3 c3 b3 d3 a4 c4 a5 c5 W (fab_next R hb) (hh.goes hb);have B := Below.refl w.heap.size w;cases f : fabI x
 ·have m : Hid (cohI x = false) := by unfold Hid cohI; rw [f]; rfl
  rw [f] at g;clear R hh;go_enter Tryz.func17, Tryz.ntmps17;go_upto_region 1 with fail
  generalize a : w.alloc _ = u1w;have F := boxH a;have c := boxB a;have i := boxL a;clear a;replace B := below_step B c;clear c;clear i;obtain ⟨Fc0, Fc1, Fc2, Fc3, Fc4, Fc5, Fc6, Fc7, Fc8, Fc9, Fc10, Fc11, Fc12⟩ := cells_fabric F;have Flt := (ltH F);go_wp2_with fail
  clear Fc0 Fc1 Fc2 Fc3 Fc4 Fc5 Fc6 Fc7 Fc8 Fc9 Fc10 Fc11 Fc12 Flt;refine (g.out _ B).mono ?_;rintro e j ⟨rfl, b⟩;replace B := below_step B b;replace F := row_keep b F;clear b;obtain ⟨Fc0, Fc1, Fc2, Fc3, Fc4, Fc5, Fc6, Fc7, Fc8, Fc9, Fc10, Fc11, Fc12⟩ := cells_fabric F;have Flt := (ltH F);have d : Hid _ := B;clear B F;go_wp2;go_ret
  exact ⟨ret_bool m.out.symm, d.out⟩
 ·have k : Hid _ := fun (W : World) (hb : Below w.heap.size w W) => coherent_u x a1 c1 b1 d1 a2 c2 a3 c3 b3 d3 a4 c4 a5 c5 W (fab_next R hb) (ht.goes hb) f;rw [f] at g;clear R hh;generalize cohI x = q1 at k ⊢;go_enter Tryz.func17, Tryz.ntmps17;go_upto_region 1 with fail
  generalize a : w.alloc _ = u1w;have F := boxH a;have c := boxB a;have i := boxL a;clear a;replace B := below_step B c;clear c;clear i;obtain ⟨Fc0, Fc1, Fc2, Fc3, Fc4, Fc5, Fc6, Fc7, Fc8, Fc9, Fc10, Fc11, Fc12⟩ := cells_fabric F;have Flt := (ltH F);go_wp2_with fail
  clear Fc0 Fc1 Fc2 Fc3 Fc4 Fc5 Fc6 Fc7 Fc8 Fc9 Fc10 Fc11 Fc12 Flt;refine (g.out _ B).mono ?_;rintro e j ⟨rfl, b⟩;replace B := below_step B b;replace F := row_keep b F;clear b;obtain ⟨Fc0, Fc1, Fc2, Fc3, Fc4, Fc5, Fc6, Fc7, Fc8, Fc9, Fc10, Fc11, Fc12⟩ := cells_fabric F;have Flt := (ltH F);go_wp2_with fail
  clear Fc0 Fc1 Fc2 Fc3 Fc4 Fc5 Fc6 Fc7 Fc8 Fc9 Fc10 Fc11 Fc12 Flt;refine (k.out _ B).mono ?_;rintro e l ⟨rfl, b⟩;replace B := below_step B b;replace F := row_keep b F;clear b;cases q1
  ·skip
   obtain ⟨Fc0, Fc1, Fc2, Fc3, Fc4, Fc5, Fc6, Fc7, Fc8, Fc9, Fc10, Fc11, Fc12⟩ := cells_fabric F;have Flt := (ltH F);have d : Hid _ := B;clear B F;go_wp2;go_ret
   exact ⟨by simp, d.out⟩
  ·skip
   obtain ⟨Fc0, Fc1, Fc2, Fc3, Fc4, Fc5, Fc6, Fc7, Fc8, Fc9, Fc10, Fc11, Fc12⟩ := cells_fabric F;have Flt := (ltH F);have d : Hid _ := B;clear B F;go_wp2;go_ret
   exact ⟨by simp, d.out⟩
theorem specCoherent_u (cs : List Value) (x : FabricD) (w : World) (h : fabricR.rd w cs x) (hbk : fabricM.bk x ≤ 1048576) :
    Calls Tryz.prog 16 #[aggV cs] w fun e w' => e = .returned (.bool (cohI x)) ∧ Below w.heap.size w w' := by
 obtain ⟨a, f, p, b, n, m, g, k, c, j, d, l, i, o, rfl, R⟩ := fab_open h;exact specCoherent_any x a f p b n m g k c j d l i o w R h hbk
theorem implCoherent_u (cs : List Value) (x : FabricD) (w : World) (hh : Hold w) (ht : HoldT w) (h : fabricR.rd w cs x) (hbk : fabricM.bk x ≤ 1048576) :
    Calls Tryz.prog 17 #[aggV cs] w fun e w' => e = .returned (.bool (cohI x)) ∧ Below w.heap.size w w' := by
 obtain ⟨a, f, p, b, n, m, g, k, c, j, d, l, i, o, rfl, R⟩ := fab_open h;exact implCoherent_any x a f p b n m g k c j d l i o w R hh ht
end Go.Proofs.YtcocbafhcpdheaaGreatDoor
