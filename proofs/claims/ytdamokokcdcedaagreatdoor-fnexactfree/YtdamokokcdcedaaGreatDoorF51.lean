import Derived.Test.YtdamokokcdcedaaGreatDoorF00Box
import Derived.Test.YtdamokokcdcedaaGreatDoorF50
namespace Go.Proofs.YtdamokokcdcedaaGreatDoor
set_option maxHeartbeats 4000000
set_option maxRecDepth 20000
open Go.ChangeShapes Go.WideShapes Go.ChangeAt Go.RowKit
set_option linter.unusedVariables false
theorem specFab_u (cs : List Value) (x : FabricD) (w : World) (h : fabricR.rd w cs x) (hbk : fabricM.bk x ≤ 1048576) :
    Calls Tryz.prog 24 #[aggV cs] w fun e w' => e = .returned (.bool (fabI x)) ∧ Bl w w' := by
 rw [← fab_eq];exact specFabricOk_u cs x w h hbk
set_option linter.unusedSimpArgs false
theorem fin_no {x : FabricD} (h : fabI x = false) : finI x = false := by unfold finI; rw [h]; rfl
theorem core_len {w : World} {cs : List Value} {u : CoreD} (h : coreR.rd w cs u) : u.2.1.length ≤ 9223372036854775807 := by
 obtain ⟨z0, z1, z2, z5, z6, z7, z8, e, r0, ⟨a, c, -, b, d, -⟩, -⟩ := core_rd h;exact Nat.le_trans b d
theorem idle_step {xs : List CoreD} {k : Nat} {u : CoreD} (hno : ∀ j v, j < k → xs[j]? = some v → idleC v = true) (hx : xs[k]? = some u) (hb : idleC u = true) : ∀ j v, j < k + 1 → xs[j]? = some v → idleC v = true := fun j v hj hv => by
 by_cases a : j < k
 ·exact hno j v a hv
 ·have : j = k := by omega
  subst this;rw [hx] at hv;cases hv;exact hb
theorem l16Fin_any (x : FabricD) (a1 : Option Addr) (c1 : Nat) (b1 : Option Addr) (d1 : Nat) (a2 : Option Addr) (c2 : Nat) (a3 : Option Addr) (c3 : Nat) (b3 : Option Addr) (d3 : Nat) (a4 : Option Addr) (c4 : Nat) (a5 : Option Addr) (c5 : Nat) (w : World) (R : FabRd w x a1 c1 b1 d1 a2 c2 a3 c3 b3 d3 a4 c4 a5 c5) :
    Calls Tryz.prog 53 #[.agg #[nI x.1.1, nI x.1.2.1, nI x.1.2.2.1, nI x.1.2.2.2, sL a1 x.2.1.1.length c1, sL b1 x.2.1.2.length d1, sL a2 x.2.2.1.length c2, sL a3 x.2.2.2.1.1.length c3, nI x.2.2.2.1.2.1, .bool x.2.2.2.1.2.2.1, sL b3 x.2.2.2.1.2.2.2.length d3, sL a4 x.2.2.2.2.1.length c4, sL a5 x.2.2.2.2.2.length c5]] w fun e w' => e = .returned (.bool (x.2.2.1.all idleC && (decide (x.2.2.2.2.1.length = 0) && decide (x.2.2.2.1.2.1 = (x.2.2.2.1.1.length : Int))))) ∧ Bl w w' := by
 have RR : Hid (∀ W, Bl w W → SlRd coreR W a2 x.2.2.1) := fun W q => (fab_next R q).cores;have l1 : x.2.2.1.length ≤ 9223372036854775807 := R.coresl;have l2 : x.2.2.2.2.1.length ≤ 9223372036854775807 := R.netl;have l3 : x.2.2.2.1.1.length ≤ 9223372036854775807 := R.descsl;have B := Below.refl w.heap.size w;clear R;go_enter Tryz.func53, Tryz.ntmps53;go_upto_region 1 with fail
 generalize a : w.alloc _ = u1w;have F := boxH a;have C := boxB a;have zF := boxL a;clear a;replace B := below_step B C;clear C zF;go_wp2;go_loopw [3] (fun i wr => ∃ k : Nat, k ≤ x.2.2.1.length ∧ i = nI k ∧ (∀ j v, j < k → x.2.2.1[j]? = some v → idleC v = true) ∧ Bl w wr ∧ wr.heap[w.heap.size]? = some (.cells #[nI x.1.1, nI x.1.2.1, nI x.1.2.2.1, nI x.1.2.2.2, sL a1 x.2.1.1.length c1, sL b1 x.2.1.2.length d1, sL a2 x.2.2.1.length c2, sL a3 x.2.2.2.1.1.length c3, nI x.2.2.2.1.2.1, .bool x.2.2.2.1.2.2.1, sL b3 x.2.2.2.1.2.2.2.length d3, sL a4 x.2.2.2.2.1.length c4, sL a5 x.2.2.2.2.2.length c5] 49 (0, 0))) (fun i _ => x.2.2.1.length - (intOf i).toNat)
 case atStart => exact ⟨0, Nat.zero_le _, rfl, fun j v hj => by omega, B, F⟩
 case round =>
  clear B F;obtain ⟨k, hk, rfl, d, f, o⟩ := hrel;obtain ⟨H, p1, G, Y, O, I, N, K, p8, S, l, n, m⟩ := cells_fabric o;by_cases A : k < x.2.2.1.length
  ·have cA : (k : Int) < (x.2.2.1.length : Int) := by omega
   obtain ⟨u, y⟩ : ∃ u, x.2.2.1[k]? = some u := ⟨_, List.getElem?_eq_getElem A⟩;obtain ⟨bb, jA, cs, ra, b, c⟩ := slrd_at (RR.out _ f) y;have dA := core_len b;obtain ⟨ga, gc, gb, gd, ha, hc, ia, ic, ja, jc, rfl⟩ := core_shape b;obtain ⟨M, V, L, T, D, X, Z, J, E⟩ := cellsAt9 c rfl;subst ra;have HF : Hid _ := o;have U : Hid _ := y;have r : Hid _ := d;clear c b y d o;by_cases q : u.2.2.1 < (u.2.1.length : Int)
   ·have HN : Hid (x.2.2.1.all idleC = false) := all_not U.out (by simp [idleC, q]);go_wp2_with fail
    go_quiet (fail)
    clear M V L T D X Z J E H p1 G Y O I N K p8 S l n m;go_wp2;go_ret
    exact ⟨by rw [HN.out]; rfl, be_drewN f _⟩
   ·have HE : Hid _ := idle_step r.out U.out (by simp only [idleC, decide_eq_false q]; rfl);go_wp2_with fail
    go_quiet (fail)
    clear M V L T D X Z J E H p1 G Y O I N K p8 S l n m;go_wp2;go_roundw
    case rel => exact ⟨k + 1, by omega, by go_num, HE.out, be_drewN f _, HF.out⟩
    case measure => simp [intOf]; omega
  ·have z : Hid (x.2.2.1.all idleC = true) := all_upto fun j v hv => d j v (by have := (List.getElem?_eq_some_iff.1 hv).1; omega) hv;have lA : ¬ ((k : Int) < (x.2.2.1.length : Int)) := by omega
   clear d o;by_cases g : x.2.2.2.2.1.length = 0
   ·have s : (x.2.2.2.2.1.length : Int) = 0 := by omega
    by_cases p : x.2.2.2.1.2.1 = (x.2.2.2.1.1.length : Int)
    ·go_wp2;go_ret
     exact ⟨by first | (rw [z.out]; simp [g, p]; done) | (simp [g, p]; done), f⟩
    ·go_wp2;go_ret
     exact ⟨by first | (rw [z.out]; simp [g, p]; done) | (simp [g, p]; done), f⟩
   ·have s : ¬ (x.2.2.2.2.1.length : Int) = 0 := by omega
    go_wp2;go_ret
    exact ⟨by first | (rw [z.out]; simp [g]; done) | (simp [g]; done), f⟩
theorem upto_step {α : Type} {p : α → Bool} {xs : List α} {k : Nat} {u : α} (hno : ∀ j v, j < k → xs[j]? = some v → p v = true) (hx : xs[k]? = some u) (hb : p u = true) : ∀ j v, j < k + 1 → xs[j]? = some v → p v = true := fun j v hj hv => by
 by_cases a : j < k
 ·exact hno j v a hv
 ·have : j = k := by omega
  subst this;rw [hx] at hv;cases hv;exact hb
theorem held_lenQ {w : World} {cs : List Value} {u : CoreD} (h : coreR.rd w cs u) : u.2.2.2.2.1.2.2.length ≤ maxLen := by
 obtain ⟨z0, z1, z2, z5, z6, z7, z8, e, r0, r1, i2, i3, c, r5⟩ := core_rd h;obtain ⟨ea, ec, -, -, -, b, a, -⟩ := way_rd c;exact Nat.le_trans b a
theorem specFree_any (x : FabricD) (a1 : Option Addr) (c1 : Nat) (b1 : Option Addr) (d1 : Nat) (a2 : Option Addr) (c2 : Nat) (a3 : Option Addr) (c3 : Nat) (b3 : Option Addr) (d3 : Nat) (a4 : Option Addr) (c4 : Nat) (a5 : Option Addr) (c5 : Nat) (w : World) (R : FabRd w x a1 c1 b1 d1 a2 c2 a3 c3 b3 d3 a4 c4 a5 c5) (h : fabricR.rd w [nI x.1.1, nI x.1.2.1, nI x.1.2.2.1, nI x.1.2.2.2, sL a1 x.2.1.1.length c1, sL b1 x.2.1.2.length d1, sL a2 x.2.2.1.length c2, sL a3 x.2.2.2.1.1.length c3, nI x.2.2.2.1.2.1, .bool x.2.2.2.1.2.2.1, sL b3 x.2.2.2.1.2.2.2.length d3, sL a4 x.2.2.2.2.1.length c4, sL a5 x.2.2.2.2.2.length c5] x) (hbk : fabricM.bk x ≤ 1048576) :
    Calls Tryz.prog 17 #[.agg #[nI x.1.1, nI x.1.2.1, nI x.1.2.2.1, nI x.1.2.2.2, sL a1 x.2.1.1.length c1, sL b1 x.2.1.2.length d1, sL a2 x.2.2.1.length c2, sL a3 x.2.2.2.1.1.length c3, nI x.2.2.2.1.2.1, .bool x.2.2.2.1.2.2.1, sL b3 x.2.2.2.1.2.2.2.length d3, sL a4 x.2.2.2.2.1.length c4, sL a5 x.2.2.2.2.2.length c5]] w fun e w' => e = .returned (.bool (freeI x)) ∧ Bl w w' := by
 have N : Hid _ := fun (W : World) (m : Bl w W) => specFab_u [nI x.1.1, nI x.1.2.1, nI x.1.2.2.1, nI x.1.2.2.2, sL a1 x.2.1.1.length c1, sL b1 x.2.1.2.length d1, sL a2 x.2.2.1.length c2, sL a3 x.2.2.2.1.1.length c3, nI x.2.2.2.1.2.1, .bool x.2.2.2.1.2.2.1, sL b3 x.2.2.2.1.2.2.2.length d3, sL a4 x.2.2.2.2.1.length c4, sL a5 x.2.2.2.2.2.length c5] x W (rd_next h m) hbk;have B := Below.refl w.heap.size w;cases L : fabI x
 ·have r : Hid (freeI x = false) := by unfold Hid freeI; rw [fin_no L]; rfl
  rw [L] at N;clear R h;go_enter Tryz.func17, Tryz.ntmps17;go_upto_region 1 with fail
  generalize b : w.alloc _ = u1w;have F := boxH b;have o := boxB b;have H := boxL b;clear b;replace B := below_step B o;clear o H;obtain ⟨Fc0, Fc1, Fc2, Fc3, Fc4, Fc5, Fc6, Fc7, Fc8, Fc9, Fc10, Fc11, Fc12⟩ := cells_fabric F;have Flt := (ltH F);go_wp2_with fail
  clear Fc0 Fc1 Fc2 Fc3 Fc4 Fc5 Fc6 Fc7 Fc8 Fc9 Fc10 Fc11 Fc12 Flt;refine (N.out _ B).mono ?_;rintro e K ⟨rfl, d⟩;replace B := below_step B d;replace F := row_keep d F;clear d;obtain ⟨Fc0, Fc1, Fc2, Fc3, Fc4, Fc5, Fc6, Fc7, Fc8, Fc9, Fc10, Fc11, Fc12⟩ := cells_fabric F;have Flt := (ltH F);have y : Hid _ := B;clear B F;go_wp2;go_ret
  exact ⟨ret_bool r.out.symm, y.out⟩
 ·have O : Hid (∀ W, Bl w W → Calls Tryz.prog 53 #[.agg #[nI x.1.1, nI x.1.2.1, nI x.1.2.2.1, nI x.1.2.2.2, sL a1 x.2.1.1.length c1, sL b1 x.2.1.2.length d1, sL a2 x.2.2.1.length c2, sL a3 x.2.2.2.1.1.length c3, nI x.2.2.2.1.2.1, .bool x.2.2.2.1.2.2.1, sL b3 x.2.2.2.1.2.2.2.length d3, sL a4 x.2.2.2.2.1.length c4, sL a5 x.2.2.2.2.2.length c5]] W fun e w' => e = .returned (.bool (finI x)) ∧ Bl W w') := fun W m => by rw [← fin_eq L]; exact l16Fin_any x a1 c1 b1 d1 a2 c2 a3 c3 b3 d3 a4 c4 a5 c5 W (fab_next R m)
  have RE : Hid (∀ W, Bl w W → SlRd entR W b1 x.2.1.2) := fun W m => (fab_next R m).book;have RC : Hid (∀ W, Bl w W → SlRd coreR W a2 x.2.2.1) := fun W m => (fab_next R m).cores;have l1 : x.2.1.2.length ≤ 9223372036854775807 := R.bookl;have l2 : x.2.2.1.length ≤ 9223372036854775807 := R.coresl;rw [L] at N;clear R h;cases J : finI x
  ·have r : Hid (freeI x = false) := by unfold Hid freeI; rw [J]; rfl
   rw [J] at O;go_enter Tryz.func17, Tryz.ntmps17;go_upto_region 1 with fail
   generalize b : w.alloc _ = u1w;have F := boxH b;have o := boxB b;have H := boxL b;clear b;replace B := below_step B o;clear o H;obtain ⟨Fc0, Fc1, Fc2, Fc3, Fc4, Fc5, Fc6, Fc7, Fc8, Fc9, Fc10, Fc11, Fc12⟩ := cells_fabric F;have Flt := (ltH F);go_wp2_with fail
   clear Fc0 Fc1 Fc2 Fc3 Fc4 Fc5 Fc6 Fc7 Fc8 Fc9 Fc10 Fc11 Fc12 Flt;refine (N.out _ B).mono ?_;rintro e K ⟨rfl, d⟩;replace B := below_step B d;replace F := row_keep d F;clear d;obtain ⟨Fc0, Fc1, Fc2, Fc3, Fc4, Fc5, Fc6, Fc7, Fc8, Fc9, Fc10, Fc11, Fc12⟩ := cells_fabric F;have Flt := (ltH F);go_wp2_with fail
   clear Fc0 Fc1 Fc2 Fc3 Fc4 Fc5 Fc6 Fc7 Fc8 Fc9 Fc10 Fc11 Fc12 Flt;refine (O.out _ B).mono ?_;rintro e S ⟨rfl, d⟩;replace B := below_step B d;replace F := row_keep d F;clear d;obtain ⟨Fc0, Fc1, Fc2, Fc3, Fc4, Fc5, Fc6, Fc7, Fc8, Fc9, Fc10, Fc11, Fc12⟩ := cells_fabric F;have Flt := (ltH F);have y : Hid _ := B;clear B F;go_wp2;go_ret
   exact ⟨ret_bool r.out.symm, y.out⟩
  ·rw [J] at O;rcases Bool.eq_false_or_eq_true x.2.2.2.1.2.2.1 with q | q
   ·have r : Hid (freeI x = false) := by unfold Hid freeI restI; rw [J, q]; simp
    have I : Hid _ := q;clear q J L;go_enter Tryz.func17, Tryz.ntmps17;go_upto_region 1 with fail
    generalize b : w.alloc _ = u1w;have F := boxH b;have o := boxB b;have H := boxL b;clear b;replace B := below_step B o;clear o H;obtain ⟨Fc0, Fc1, Fc2, Fc3, Fc4, Fc5, Fc6, Fc7, Fc8, Fc9, Fc10, Fc11, Fc12⟩ := cells_fabric F;have Flt := (ltH F);go_wp2_with fail
    clear Fc0 Fc1 Fc2 Fc3 Fc4 Fc5 Fc6 Fc7 Fc8 Fc9 Fc10 Fc11 Fc12 Flt;refine (N.out _ B).mono ?_;rintro e K ⟨rfl, d⟩;replace B := below_step B d;replace F := row_keep d F;clear d;obtain ⟨Fc0, Fc1, Fc2, Fc3, Fc4, Fc5, Fc6, Fc7, Fc8, Fc9, Fc10, Fc11, Fc12⟩ := cells_fabric F;have Flt := (ltH F);go_wp2_with fail
    clear Fc0 Fc1 Fc2 Fc3 Fc4 Fc5 Fc6 Fc7 Fc8 Fc9 Fc10 Fc11 Fc12 Flt;refine (O.out _ B).mono ?_;rintro e S ⟨rfl, d⟩;replace B := below_step B d;replace F := row_keep d F;clear d;have q := I.out;obtain ⟨Fc0, Fc1, Fc2, Fc3, Fc4, Fc5, Fc6, Fc7, Fc8, Fc9, Fc10, Fc11, Fc12⟩ := cells_fabric F;have Flt := (ltH F);have y : Hid _ := B;clear B F;go_wp2;go_ret
    exact ⟨ret_bool r.out.symm, y.out⟩
   ·have r : Hid (freeI x = (x.2.1.2.all quietE && x.2.2.1.all quietC)) := by unfold Hid freeI restI; rw [J, q]; simp
    have I : Hid _ := q;clear q J L;go_enter Tryz.func17, Tryz.ntmps17;go_upto_region 1 with fail
    generalize b : w.alloc _ = u1w;have F := boxH b;have o := boxB b;have H := boxL b;clear b;replace B := below_step B o;clear o H;obtain ⟨Fc0, Fc1, Fc2, Fc3, Fc4, Fc5, Fc6, Fc7, Fc8, Fc9, Fc10, Fc11, Fc12⟩ := cells_fabric F;have Flt := (ltH F);go_wp2_with fail
    clear Fc0 Fc1 Fc2 Fc3 Fc4 Fc5 Fc6 Fc7 Fc8 Fc9 Fc10 Fc11 Fc12 Flt;refine (N.out _ B).mono ?_;rintro e K ⟨rfl, d⟩;replace B := below_step B d;replace F := row_keep d F;clear d;obtain ⟨Fc0, Fc1, Fc2, Fc3, Fc4, Fc5, Fc6, Fc7, Fc8, Fc9, Fc10, Fc11, Fc12⟩ := cells_fabric F;have Flt := (ltH F);go_wp2_with fail
    clear Fc0 Fc1 Fc2 Fc3 Fc4 Fc5 Fc6 Fc7 Fc8 Fc9 Fc10 Fc11 Fc12 Flt;refine (O.out _ B).mono ?_;rintro e S ⟨rfl, d⟩;replace B := below_step B d;replace F := row_keep d F;clear d;obtain ⟨Fc0, Fc1, Fc2, Fc3, Fc4, Fc5, Fc6, Fc7, Fc8, Fc9, Fc10, Fc11, Fc12⟩ := cells_fabric F;have Flt := (ltH F);have q := I.out;have y : Hid _ := aI B F;clear B F;go_wp2;clear Fc0 Fc1 Fc2 Fc3 Fc4 Fc5 Fc6 Fc7 Fc8 Fc9 Fc10 Fc11 Fc12 Flt q;go_loopw [3] (fun i wr => ∃ k : Nat, k ≤ x.2.1.2.length ∧ i = nI k ∧ (∀ j v, j < k → x.2.1.2[j]? = some v → quietE v = true) ∧ Bl w wr ∧ wr.heap[w.heap.size]? = some (.cells #[nI x.1.1, nI x.1.2.1, nI x.1.2.2.1, nI x.1.2.2.2, sL a1 x.2.1.1.length c1, sL b1 x.2.1.2.length d1, sL a2 x.2.2.1.length c2, sL a3 x.2.2.2.1.1.length c3, nI x.2.2.2.1.2.1, .bool x.2.2.2.1.2.2.1, sL b3 x.2.2.2.1.2.2.2.length d3, sL a4 x.2.2.2.2.1.length c4, sL a5 x.2.2.2.2.2.length c5] 49 (0, 0))) (fun i _ => x.2.1.2.length - (intOf i).toNat)
    case atStart => exact ⟨0, Nat.zero_le _, rfl, fun j v hj => by omega, y.out.1, y.out.2⟩
    case round =>
     clear y;obtain ⟨k, hk, rfl, l, C, A⟩ := hrel;obtain ⟨p0, p1, p2, p3, p4, Y, Z, p7, p8, p9, D, s, E⟩ := cells_fabric A;have n : Hid _ := aI C A;have p : Hid _ := l;by_cases z : k < x.2.1.2.length
     ·have X : (k : Int) < (x.2.1.2.length : Int) := by omega
      obtain ⟨u, G⟩ : ∃ u, x.2.1.2[k]? = some u := ⟨_, List.getElem?_eq_getElem z⟩;obtain ⟨bb, rA, cs, ra, g, f⟩ := slrd_at (RE.out _ C) G;obtain ⟨ga, gc, rfl⟩ := ent_shape g;obtain ⟨x0, x1, x2, x3, x4, x5, x6, x7⟩ := cellsAt8 f rfl;subst ra;have M : Hid _ := G;clear f g G l A C;rcases Bool.eq_false_or_eq_true u.2.2.1 with m | m
      ·have V : Hid (x.2.1.2.all quietE = false) := all_not M.out (by simp [quietE, m]);go_wp2;go_ret
       exact ⟨by rw [r.out, V.out]; rfl, n.out.1⟩
      ·have HE : Hid _ := upto_step p.out M.out (by simp [quietE, m]);go_wp2;go_roundw
       case rel => exact ⟨k + 1, by omega, by go_num, HE.out, n.out⟩
       case measure => simp [intOf]; omega
     ·have HA : Hid (x.2.1.2.all quietE = true) := all_upto fun j v hv => l j v (by have := (List.getElem?_eq_some_iff.1 hv).1; omega) hv;have T : ¬ ((k : Int) < (x.2.1.2.length : Int)) := by omega
      clear l A C p;go_wp2;clear p0 p1 p2 p3 p4 Y Z p7 p8 p9 D s E T z hk;go_loopw [4] (fun i wr => ∃ k : Nat, k ≤ x.2.2.1.length ∧ i = nI k ∧ (∀ j v, j < k → x.2.2.1[j]? = some v → quietC v = true) ∧ Bl w wr ∧ wr.heap[w.heap.size]? = some (.cells #[nI x.1.1, nI x.1.2.1, nI x.1.2.2.1, nI x.1.2.2.2, sL a1 x.2.1.1.length c1, sL b1 x.2.1.2.length d1, sL a2 x.2.2.1.length c2, sL a3 x.2.2.2.1.1.length c3, nI x.2.2.2.1.2.1, .bool x.2.2.2.1.2.2.1, sL b3 x.2.2.2.1.2.2.2.length d3, sL a4 x.2.2.2.2.1.length c4, sL a5 x.2.2.2.2.2.length c5] 49 (0, 0))) (fun i _ => x.2.2.1.length - (intOf i).toNat)
      case atStart => exact ⟨0, Nat.zero_le _, rfl, fun j v hj => by omega, n.out.1, n.out.2⟩
      case round =>
       clear n;obtain ⟨k, hk, rfl, l, C, A⟩ := hrel;obtain ⟨p0, p1, p2, p3, p4, Y, Z, p7, p8, p9, D, s, E⟩ := cells_fabric A;have n : Hid _ := aI C A;have p : Hid _ := l;by_cases z : k < x.2.2.1.length
       ·have X : (k : Int) < (x.2.2.1.length : Int) := by omega
        obtain ⟨u, G⟩ : ∃ u, x.2.2.1[k]? = some u := ⟨_, List.getElem?_eq_getElem z⟩;obtain ⟨bb, rA, cs, ra, g, f⟩ := slrd_at (RC.out _ C) G;have KL : Hid (∀ W a c, Calls Tryz.prog 58 #[.agg #[nI u.2.2.2.2.1.1, nI u.2.2.2.2.1.2.1, sL a u.2.2.2.2.1.2.2.length c]] W fun e w' => e = .returned (.bool (clearB u.2.2.2.2.1)) ∧ Bl W w') := fun W a c => by rw [← clr_eq]; exact l6Clear_any _ _ _ _ _ W (held_lenQ g)
        obtain ⟨ga, gc, gb, gd, ha, hc, ia, ic, ja, jc, rfl⟩ := core_shape g;obtain ⟨x0, x1, x2, x3, x4, x5, x6, x7, x8⟩ := cellsAt9 f rfl;subst ra;have M : Hid _ := G;clear f g G l A C;by_cases hp : u.2.2.2.1 = 0
        ·generalize U : clearB u.2.2.2.2.1 = cb at KL;go_wp2_with fail
         refine (KL.out _ _ _).mono ?_;rintro e w5 ⟨rfl, d⟩;have HG : Hid _ := aI (below_step n.out.1 d) (row_keep d n.out.2);clear KL n d;cases cb
         ·have V : Hid (x.2.2.1.all quietC = false) := all_not M.out (by simp [quietC, U]);clear x0 x1 x2 x3 x4 x5 x6 x7 x8 p0 p1 p2 p3 p4 Y Z p7 p8 p9 D s E;go_wp2;go_ret
          exact ⟨by rw [r.out, V.out]; simp, HG.out.1⟩
         ·have HE : Hid _ := upto_step p.out M.out (by simp [quietC, U, hp]);clear x0 x1 x2 x3 x4 x5 x6 x7 x8 p0 p1 p2 p3 p4 Y Z p7 p8 p9 D s E;go_wp2;go_roundw
          case rel => exact ⟨k + 1, by omega, by go_num, HE.out, HG.out⟩
          case measure => simp [intOf]; omega
        ·have V : Hid (x.2.2.1.all quietC = false) := all_not M.out (by simp [quietC, hp]);go_wp2;go_ret
         exact ⟨by rw [r.out, V.out]; simp, n.out.1⟩
       ·have HC : Hid (x.2.2.1.all quietC = true) := all_upto fun j v hv => l j v (by have := (List.getElem?_eq_some_iff.1 hv).1; omega) hv;have T : ¬ ((k : Int) < (x.2.2.1.length : Int)) := by omega
        clear l A C p;go_wp2;go_ret
        exact ⟨by rw [r.out, HA.out, HC.out]; rfl, n.out.1⟩
theorem specFree_u (cs : List Value) (x : FabricD) (w : World) (h : fabricR.rd w cs x) (hbk : fabricM.bk x ≤ 1048576) :
    Calls Tryz.prog 17 #[aggV cs] w fun e w' => e = .returned (.bool (freeI x)) ∧ Bl w w' := by
 obtain ⟨l, d, c, k, n, a, b, i, p, g, j, o, f, m, rfl, R⟩ := fab_open h;exact specFree_any x l d c k n a b i p g j o f m w R h hbk
theorem implFree_u (cs : List Value) (x : FabricD) (w : World) (hh : Hold w) (h : fabricR.rd w cs x) :
    Calls Tryz.prog 18 #[aggV cs] w fun e w' => e = .returned (.bool (freeI x)) ∧ Bl w w' := by
 obtain ⟨l, d, c, k, n, a, b, i, p, g, j, o, f, m, rfl, R⟩ := fab_open h;exact implFree_any x l d c k n a b i p g j o f m w R hh
end Go.Proofs.YtdamokokcdcedaaGreatDoor
