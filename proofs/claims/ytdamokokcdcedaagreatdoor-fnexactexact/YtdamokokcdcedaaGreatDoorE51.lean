import Derived.Test.YtdamokokcdcedaaGreatDoorE00Box
import Derived.Test.YtdamokokcdcedaaGreatDoorE50
namespace Go.Proofs.YtdamokokcdcedaaGreatDoor
open Go.ChangeShapes Go.WideShapes Go.ChangeAt Go.RowKit
set_option linter.unusedVariables false
set_option linter.unusedSimpArgs false
set_option maxHeartbeats 4000000 in
set_option maxRecDepth 20000 in
theorem specExact_any (x : FabricD) (a1 : Option Addr) (c1 : Nat) (b1 : Option Addr) (d1 : Nat) (a2 : Option Addr) (c2 : Nat) (a3 : Option Addr) (c3 : Nat) (b3 : Option Addr) (d3 : Nat) (a4 : Option Addr) (c4 : Nat) (a5 : Option Addr) (c5 : Nat) (w : World) (R : FabRd w x a1 c1 b1 d1 a2 c2 a3 c3 b3 d3 a4 c4 a5 c5) (h : fabricR.rd w [nI x.1.1, nI x.1.2.1, nI x.1.2.2.1, nI x.1.2.2.2, sL a1 x.2.1.1.length c1, sL b1 x.2.1.2.length d1, sL a2 x.2.2.1.length c2, sL a3 x.2.2.2.1.1.length c3, nI x.2.2.2.1.2.1, .bool x.2.2.2.1.2.2.1, sL b3 x.2.2.2.1.2.2.2.length d3, sL a4 x.2.2.2.2.1.length c4, sL a5 x.2.2.2.2.2.length c5] x) (hbk : fabricM.bk x ≤ 1048576) :
    Calls Tryz.prog 15 #[.agg #[nI x.1.1, nI x.1.2.1, nI x.1.2.2.1, nI x.1.2.2.2, sL a1 x.2.1.1.length c1, sL b1 x.2.1.2.length d1, sL a2 x.2.2.1.length c2, sL a3 x.2.2.2.1.1.length c3, nI x.2.2.2.1.2.1, .bool x.2.2.2.1.2.2.1, sL b3 x.2.2.2.1.2.2.2.length d3, sL a4 x.2.2.2.2.1.length c4, sL a5 x.2.2.2.2.2.length c5]] w fun e w' => e = .returned (.bool (exaS x)) ∧ Bl w w' := by
 have X : Hid _ := fun (W : World) (hb : Bl w W) => specFab_u [nI x.1.1, nI x.1.2.1, nI x.1.2.2.1, nI x.1.2.2.2, sL a1 x.2.1.1.length c1, sL b1 x.2.1.2.length d1, sL a2 x.2.2.1.length c2, sL a3 x.2.2.2.1.1.length c3, nI x.2.2.2.1.2.1, .bool x.2.2.2.1.2.2.1, sL b3 x.2.2.2.1.2.2.2.length d3, sL a4 x.2.2.2.2.1.length c4, sL a5 x.2.2.2.2.2.length c5] x W (rd_next h hb) hbk;have B := Below.refl w.heap.size w;cases J : fabI x
 ·have HV : Hid (exaS x = false) := by unfold Hid exaS; rw [fin_no J]; rfl
  rw [J] at X;clear R h;go_enter Tryz.func15, Tryz.ntmps15;go_upto_region 1 with fail
  generalize d : w.alloc _ = u1w;have F := boxH d;have I := boxB d;have zF := boxL d;clear d;replace B := below_step B I;clear I zF;obtain ⟨Fc0, Fc1, Fc2, Fc3, Fc4, Fc5, Fc6, Fc7, Fc8, Fc9, Fc10, Fc11, Fc12⟩ := cells_fabric F;have Flt := (ltH F);go_wp2_with fail
  clear Fc0 Fc1 Fc2 Fc3 Fc4 Fc5 Fc6 Fc7 Fc8 Fc9 Fc10 Fc11 Fc12 Flt;refine (X.out _ B).mono ?_;rintro e dA ⟨rfl, g⟩;replace B := below_step B g;replace F := row_keep g F;clear g;obtain ⟨Fc0, Fc1, Fc2, Fc3, Fc4, Fc5, Fc6, Fc7, Fc8, Fc9, Fc10, Fc11, Fc12⟩ := cells_fabric F;have Flt := (ltH F);have T : Hid _ := B;clear B F;go_wp2;go_ret
  exact ⟨ret_bool HV.out.symm, T.out⟩
 ·have H1 : Hid (∀ W, Bl w W → Calls Tryz.prog 53 #[.agg #[nI x.1.1, nI x.1.2.1, nI x.1.2.2.1, nI x.1.2.2.2, sL a1 x.2.1.1.length c1, sL b1 x.2.1.2.length d1, sL a2 x.2.2.1.length c2, sL a3 x.2.2.2.1.1.length c3, nI x.2.2.2.1.2.1, .bool x.2.2.2.1.2.2.1, sL b3 x.2.2.2.1.2.2.2.length d3, sL a4 x.2.2.2.2.1.length c4, sL a5 x.2.2.2.2.2.length c5]] W fun e w' => e = .returned (.bool (finI x)) ∧ Bl W w') := fun W hb => by rw [← fin_eq J]; exact l16Fin_any x a1 c1 b1 d1 a2 c2 a3 c3 b3 d3 a4 c4 a5 c5 W (fab_next R hb)
  rw [J] at X;cases hq : finI x
  ·have HV : Hid (exaS x = false) := by unfold Hid exaS; rw [hq]; rfl
   rw [hq] at H1;clear R h;go_enter Tryz.func15, Tryz.ntmps15;go_upto_region 1 with fail
   generalize d : w.alloc _ = u1w;have F := boxH d;have I := boxB d;have zF := boxL d;clear d;replace B := below_step B I;clear I zF;obtain ⟨Fc0, Fc1, Fc2, Fc3, Fc4, Fc5, Fc6, Fc7, Fc8, Fc9, Fc10, Fc11, Fc12⟩ := cells_fabric F;have Flt := (ltH F);go_wp2_with fail
   clear Fc0 Fc1 Fc2 Fc3 Fc4 Fc5 Fc6 Fc7 Fc8 Fc9 Fc10 Fc11 Fc12 Flt;refine (X.out _ B).mono ?_;rintro e dA ⟨rfl, g⟩;replace B := below_step B g;replace F := row_keep g F;clear g;obtain ⟨Fc0, Fc1, Fc2, Fc3, Fc4, Fc5, Fc6, Fc7, Fc8, Fc9, Fc10, Fc11, Fc12⟩ := cells_fabric F;have Flt := (ltH F);go_wp2_with fail
   clear Fc0 Fc1 Fc2 Fc3 Fc4 Fc5 Fc6 Fc7 Fc8 Fc9 Fc10 Fc11 Fc12 Flt;refine (H1.out _ B).mono ?_;rintro e OA ⟨rfl, g⟩;replace B := below_step B g;replace F := row_keep g F;clear g;obtain ⟨Fc0, Fc1, Fc2, Fc3, Fc4, Fc5, Fc6, Fc7, Fc8, Fc9, Fc10, Fc11, Fc12⟩ := cells_fabric F;have Flt := (ltH F);have T : Hid _ := B;clear B F;go_wp2;go_ret
   exact ⟨ret_bool HV.out.symm, T.out⟩
  ·rw [hq] at H1;have v : Hid _ := hq;have RE : Hid (∀ W, Bl w W → SlRd entR W b1 x.2.1.2) := fun W hb => (fab_next R hb).book;have RC : Hid (∀ W, Bl w W → SlRd coreR W a2 x.2.2.1) := fun W hb => (fab_next R hb).cores;obtain ⟨⟨HA, iA⟩, eA⟩ := fab_lines J;obtain ⟨⟨LA, SA⟩, fA, -⟩ := fab_facts J;have C : Hid ((x.2.1.2.length : Int) = x.1.2.2.2 ∧ (x.2.2.1.length : Int) = x.1.1) := ⟨eA, fA⟩;have aA : Hid (x.2.1.2.length ≤ 16 ∧ x.2.2.1.length ≤ 4) := ⟨by omega, by omega⟩;have CA : Hid (∀ u, u ∈ x.2.2.1 → OkC isL treeB u.1) := fun u hu => fab_core J hu;clear R h hq J HA iA eA LA SA fA hbk;go_enter Tryz.func15, Tryz.ntmps15;go_upto_region 1 with fail
   generalize d : w.alloc _ = u1w;have F := boxH d;have I := boxB d;have zF := boxL d;clear d;replace B := below_step B I;clear I zF;obtain ⟨Fc0, Fc1, Fc2, Fc3, Fc4, Fc5, Fc6, Fc7, Fc8, Fc9, Fc10, Fc11, Fc12⟩ := cells_fabric F;have Flt := (ltH F);go_wp2_with fail
   clear Fc0 Fc1 Fc2 Fc3 Fc4 Fc5 Fc6 Fc7 Fc8 Fc9 Fc10 Fc11 Fc12 Flt;refine (X.out _ B).mono ?_;rintro e dA ⟨rfl, g⟩;replace B := below_step B g;replace F := row_keep g F;clear g;obtain ⟨Fc0, Fc1, Fc2, Fc3, Fc4, Fc5, Fc6, Fc7, Fc8, Fc9, Fc10, Fc11, Fc12⟩ := cells_fabric F;have Flt := (ltH F);go_wp2_with fail
   clear Fc0 Fc1 Fc2 Fc3 Fc4 Fc5 Fc6 Fc7 Fc8 Fc9 Fc10 Fc11 Fc12 Flt;refine (H1.out _ B).mono ?_;rintro e OA ⟨rfl, g⟩;replace B := below_step B g;replace F := row_keep g F;clear g;obtain ⟨Fc0, Fc1, Fc2, Fc3, Fc4, Fc5, Fc6, Fc7, Fc8, Fc9, Fc10, Fc11, Fc12⟩ := cells_fabric F;have Flt := (ltH F);have T : Hid _ := aI B F;clear B F X H1;go_wp2;clear Fc0 Fc1 Fc2 Fc3 Fc4 Fc5 Fc6 Fc7 Fc8 Fc9 Fc10 Fc11 Fc12 Flt;go_loopw [3] (fun i wr => ∃ k : Nat, k ≤ x.2.1.2.length ∧ i = nI k ∧ (∀ j, j < k → exaLine x j = true) ∧ Bl w wr ∧ wr.heap[w.heap.size]? = some (.cells #[nI x.1.1, nI x.1.2.1, nI x.1.2.2.1, nI x.1.2.2.2, sL a1 x.2.1.1.length c1, sL b1 x.2.1.2.length d1, sL a2 x.2.2.1.length c2, sL a3 x.2.2.2.1.1.length c3, nI x.2.2.2.1.2.1, .bool x.2.2.2.1.2.2.1, sL b3 x.2.2.2.1.2.2.2.length d3, sL a4 x.2.2.2.2.1.length c4, sL a5 x.2.2.2.2.2.length c5] 49 (0, 0))) (fun i _ => x.2.1.2.length - (intOf i).toNat)
   case atStart => exact ⟨0, Nat.zero_le _, rfl, fun j hj => by omega, T.out.1, T.out.2⟩
   case round =>
    clear T;obtain ⟨l, hk, rfl, Y, H, G⟩ := hrel;obtain ⟨p0, p1, p2, p3, p4, p5, p6, p7, p8, p9, S, O, U⟩ := cells_fabric G;have A : Hid _ := aI H G;have lA : Hid _ := Y;clear Y H G;by_cases NA : l < x.2.1.2.length
    ·have Z : (l : Int) < x.1.2.2.2 := by have := C.out; omega
     have L : Hid (l < x.1.2.2.2.toNat) := by unfold Hid; omega
     obtain ⟨en, cA⟩ : ∃ e, x.2.1.2[l]? = some e := ⟨_, List.getElem?_eq_getElem NA⟩;have N : Hid _ := cA;clear cA;go_wp2;clear p0 p1 p2 p3 p4 p5 p6 p7 p8 p9 S O U Z;go_loopw [4, 5, 6] (fun o s i wr => ∃ m : Nat, m ≤ x.2.2.1.length ∧ i = nI m ∧ ∃ K E : Int, o = nI K ∧ s = nI E ∧ scanL ((statesI x (l : Int)).take m) 0 (-1) 0 = some (K, E) ∧ Bl w wr ∧ wr.heap[w.heap.size]? = some (.cells #[nI x.1.1, nI x.1.2.1, nI x.1.2.2.1, nI x.1.2.2.2, sL a1 x.2.1.1.length c1, sL b1 x.2.1.2.length d1, sL a2 x.2.2.1.length c2, sL a3 x.2.2.2.1.1.length c3, nI x.2.2.2.1.2.1, .bool x.2.2.2.1.2.2.1, sL b3 x.2.2.2.1.2.2.2.length d3, sL a4 x.2.2.2.2.1.length c4, sL a5 x.2.2.2.2.2.length c5] 49 (0, 0))) (fun _ _ i _ => x.2.2.1.length - (intOf i).toNat)
     case atStart => exact ⟨0, Nat.zero_le _, rfl, -1, 0, rfl, rfl, rfl, A.out.1, A.out.2⟩
     case round =>
      clear A;obtain ⟨m, hm, rfl, K, E, rfl, rfl, y, H, G⟩ := hrel;obtain ⟨p0, p1, p2, p3, p4, p5, p6, p7, p8, p9, S, O, U⟩ := cells_fabric G;have A : Hid _ := aI H G;by_cases gA : m < x.2.2.1.length
      ·have VA : (m : Int) < x.1.1 := by have := C.out; omega
       have ZA : (m : Int) < (x.2.2.1.length : Int) := by omega
       have nB : m < 4 := by have := aA.out; omega
       obtain ⟨u, hx⟩ : ∃ u, x.2.2.1[m]? = some u := ⟨_, List.getElem?_eq_getElem gA⟩;have p : Hid _ := scan_go hx y;obtain ⟨bb, z, cs, ra, n, f⟩ := slrd_at (RC.out _ H) hx;have HH : Hid _ := fun (V : World) (hb : Bl wr V) => l17Has_u cs u l wr V (CA.out u (List.mem_of_getElem? hx)) n hb;obtain ⟨ga, gc, gb, gd, ha, hc, ia, ic, ja, jc, rfl⟩ := core_shape n;rw [aE] at HH;obtain ⟨x0, x1, x2, x3, x4, x5, x6, x7, x8⟩ := cellsAt9 f rfl;subst ra;clear f n hx y G H;go_wp2_with fail
       clear x0 x1 x2 x3 x4 x5 x6 x7 x8 p0 p1 p2 p3 p4 p5 p6 p7 p8 p9 S O U;refine (HH.out _ (Below.refl _ _)).mono ?_;rintro e w5 ⟨us, rfl, kA, g⟩;clear HH;obtain ⟨ea, ec, rfl, i0, i1, l1, l2, l3⟩ := way_rd (kA w5 g);rw [aE];have HG : Hid _ := aI (below_step A.out.1 g) (row_keep g A.out.2);have FW : ∀ (a b c : Value) (W : World), (Instr.field 74 (.agg #[a, b, c]) 1).run Tryz.prog W = .ok b W := field_state;clear A kA l1 l2 l3 i0 g;generalize (wayOf u.1 (l : Int)).2.1 = st at p i1 ⊢;have HI : Hid _ := i1;clear i1;by_cases h2 : 2 ≤ st
       ·by_cases ho : 0 ≤ K
        ·have r : Hid (exaS x = false) := exa_not v.out L.out (exaLine_none N.out (scan_stop (m := m + 1) (by rw [p.out]; unfold stepS; rw [if_pos h2, if_pos ho])));go_wp2;go_ret
         exact ⟨ret_bool r.out.symm, HG.out.1⟩
        ·have r : Hid (scanL ((statesI x (l : Int)).take (m + 1)) 0 (-1) 0 = some ((m : Int), E)) := by unfold Hid; rw [p.out]; unfold stepS; rw [if_pos h2, if_neg ho]
         go_wp2;go_roundw
         case rel => exact ⟨m + 1, by omega, by go_num, _, _, rfl, rfl, r.out, HG.out⟩
         case measure => simp [intOf]; omega
       ·by_cases h1 : st = 1
        ·have r : Hid (scanL ((statesI x (l : Int)).take (m + 1)) 0 (-1) 0 = some (K, withI E (m : Int))) := by unfold Hid; rw [p.out]; unfold stepS; rw [if_neg h2, if_pos h1]
         subst h1;clear h2;go_wp2_with fail
         refine (specWith_any E (m : Int) _).mono ?_;rintro e w6 ⟨rfl, rfl⟩;go_wp2;go_roundw
         case rel => exact ⟨m + 1, by omega, by go_num, _, _, rfl, rfl, r.out, HG.out⟩
         case measure => simp [intOf]; omega
        ·have r : Hid (scanL ((statesI x (l : Int)).take (m + 1)) 0 (-1) 0 = some (K, E)) := by unfold Hid; rw [p.out]; unfold stepS; rw [if_neg h2, if_neg h1]
         go_wp2;go_roundw
         case rel => exact ⟨m + 1, by omega, by go_num, _, _, rfl, rfl, r.out, HG.out⟩
         case measure => simp [intOf]; omega
      ·have RA : ¬ ((m : Int) < x.1.1) := by have := C.out; omega
       have p : Hid (exaLine x l = (decide (en.1 = K) && decide (en.2.1 = E))) := by
        have e : m = x.2.2.1.length := by omega
        rw [e, ← states_len x (l : Int), List.take_length] at y;exact exaLine_some N.out y
       have bB : (l : Int) < (x.2.1.2.length : Int) := by omega
       obtain ⟨bb, z, cs, ra, n, f⟩ := slrd_at (RE.out _ H) N.out;obtain ⟨ga, gc, rfl⟩ := ent_shape n;have x0 := f 0 _ rfl;rw [show z + (l * entR.size + 0) = z + l * 8 from rfl] at x0;have x1 := f 1 _ rfl;rw [show z + (l * entR.size + 1) = z + l * 8 + 1 from rfl] at x1;subst ra;clear f n y G H gA hm;have aB : l < 16 := by have := aA.out; omega
       by_cases D : en.1 = K
       ·by_cases M : en.2.1 = E
        ·have r : Hid (∀ j, j < l + 1 → exaLine x j = true) := fun j hj => by
           by_cases q : j < l
           ·exact lA.out j q
           ·have : j = l := by omega
            subst this;rw [p.out, D, M];simp
         subst D M;go_wp2;go_roundw
         case rel => exact ⟨l + 1, by omega, by go_num, r.out, A.out⟩
         case measure => simp [intOf]; omega
        ·have r : Hid (exaS x = false) := exa_not v.out L.out (by rw [p.out]; simp [M]);subst D;go_wp2;go_ret
         exact ⟨ret_bool r.out.symm, A.out.1⟩
       ·have r : Hid (exaS x = false) := exa_not v.out L.out (by rw [p.out]; simp [D]);go_wp2;go_ret
        exact ⟨ret_bool r.out.symm, A.out.1⟩
    ·have RA : ¬ ((l : Int) < x.1.2.2.2) := by have := C.out; omega
     have r : Hid (exaS x = true) := exa_all v.out fun j hj => lA.out j (by have := C.out; omega);go_wp2;go_ret
     exact ⟨ret_bool r.out.symm, A.out.1⟩
theorem specExact_u (cs : List Value) (x : FabricD) (w : World) (h : fabricR.rd w cs x) (hbk : fabricM.bk x ≤ 1048576) :
    Calls Tryz.prog 15 #[aggV cs] w fun e w' => e = .returned (.bool (exaI x)) ∧ Bl w w' := by
 obtain ⟨n, f, j, m, d, o, p, c, l, b, a, k, i, g, rfl, R⟩ := fab_open h;rw [← exa_eq];exact specExact_any x n f j m d o p c l b a k i g w R h hbk
theorem implExact_u (cs : List Value) (x : FabricD) (w : World) (hh : Hold w) (ht : HoldT w) (h : fabricR.rd w cs x) :
    Calls Tryz.prog 16 #[aggV cs] w fun e w' => e = .returned (.bool (exaI x)) ∧ Bl w w' := by
 obtain ⟨n, f, j, m, d, o, p, c, l, b, a, k, i, g, rfl, R⟩ := fab_open h;exact implExact_any x n f j m d o p c l b a k i g w R hh ht
end Go.Proofs.YtdamokokcdcedaaGreatDoor
