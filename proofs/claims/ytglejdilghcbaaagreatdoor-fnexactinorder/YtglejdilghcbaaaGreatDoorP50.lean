import Derived.Test.YtglejdilghcbaaaGreatDoorP00Box
import Derived.Test.YtglejdilghcbaaaGreatDoorP49
namespace Go.Proofs.YtglejdilghcbaaaGreatDoor
open Go.ChangeShapes Go.WideShapes Go.ChangeAt Go.RowKit
set_option linter.unusedVariables false
set_option linter.unusedSimpArgs false
theorem core_ops {w : World} {u : CoreD} {ga gb ha ia ja : Option Addr} {gc gd hc ic jc : Nat} (h : coreR.rd w [sL ga u.1.1.length gc, sL gb u.1.2.length gd, sL ha u.2.1.length hc, nI u.2.2.1, nI u.2.2.2.1, nI u.2.2.2.2.1.1, nI u.2.2.2.2.1.2.1, sL ia u.2.2.2.2.1.2.2.length ic, sL ja u.2.2.2.2.2.length jc] u) : SlRd opR w ha u.2.1 ∧ SlRd intR w ja u.2.2.2.2.2 ∧ u.2.1.length ≤ maxLen ∧ u.2.2.2.2.2.length ≤ maxLen := by
 obtain ⟨v0, v1, v2, v5, v6, v7, v8, e, -, ⟨pa, pc, d, i, f, g⟩, -, -, -, ⟨ta, tc, b, j, k, l⟩⟩ := core_rd h;simp only [List.cons.injEq, and_true, true_and] at e d b;subst d b;obtain ⟨-, -, c, -, -, -, a⟩ := e;simp only [Value.slice.injEq, true_and] at c a;obtain ⟨rfl, rfl⟩ := c;obtain ⟨rfl, rfl⟩ := a;exact ⟨g, l, Nat.le_trans i f, Nat.le_trans j k⟩
theorem dma_told {w : World} {x : DmaD} {a b : Option Addr} {c d : Nat} (h : dmaR.rd w [sL a x.1.length c, nI x.2.1, .bool x.2.2.1, sL b x.2.2.2.length d] x) : SlRd intsR w b x.2.2.2 := by
 obtain ⟨v0, v3, g, -, -, -, ⟨j, i, f, m1, m2, k⟩⟩ := dma_rd h;simp only [List.cons.injEq, and_true, true_and] at g f;obtain ⟨-, rfl⟩ := g;simp only [Value.slice.injEq, true_and] at f;obtain ⟨rfl, rfl⟩ := f;exact k
set_option maxHeartbeats 16000000 in
set_option maxRecDepth 20000 in
theorem specInOrder_any (x : FabricD) (a1 : Option Addr) (c1 : Nat) (b1 : Option Addr) (d1 : Nat) (a2 : Option Addr) (c2 : Nat) (a3 : Option Addr) (c3 : Nat) (b3 : Option Addr) (d3 : Nat) (a4 : Option Addr) (c4 : Nat) (a5 : Option Addr) (c5 : Nat) (w : World) (R : FabRd w x a1 c1 b1 d1 a2 c2 a3 c3 b3 d3 a4 c4 a5 c5) (h : fabricR.rd w [nI x.1.1, nI x.1.2.1, nI x.1.2.2.1, nI x.1.2.2.2, sL a1 x.2.1.1.length c1, sL b1 x.2.1.2.length d1, sL a2 x.2.2.1.length c2, sL a3 x.2.2.2.1.1.length c3, nI x.2.2.2.1.2.1, .bool x.2.2.2.1.2.2.1, sL b3 x.2.2.2.1.2.2.2.length d3, sL a4 x.2.2.2.2.1.length c4, sL a5 x.2.2.2.2.2.length c5] x) (hbk : fabricM.bk x ≤ 1048576) :
    Calls Tryz.prog 5 #[.agg #[nI x.1.1, nI x.1.2.1, nI x.1.2.2.1, nI x.1.2.2.2, sL a1 x.2.1.1.length c1, sL b1 x.2.1.2.length d1, sL a2 x.2.2.1.length c2, sL a3 x.2.2.2.1.1.length c3, nI x.2.2.2.1.2.1, .bool x.2.2.2.1.2.2.1, sL b3 x.2.2.2.1.2.2.2.length d3, sL a4 x.2.2.2.2.1.length c4, sL a5 x.2.2.2.2.2.length c5]] w fun e w' => e = .returned (.bool (inI x)) ∧ Bl w w' := by
 have H0 : Hid _ := fun (W : World) (hb : Bl w W) => specFab_u [nI x.1.1, nI x.1.2.1, nI x.1.2.2.1, nI x.1.2.2.2, sL a1 x.2.1.1.length c1, sL b1 x.2.1.2.length d1, sL a2 x.2.2.1.length c2, sL a3 x.2.2.2.1.1.length c3, nI x.2.2.2.1.2.1, .bool x.2.2.2.1.2.2.1, sL b3 x.2.2.2.1.2.2.2.length d3, sL a4 x.2.2.2.2.1.length c4, sL a5 x.2.2.2.2.2.length c5] x W (rd_next h hb) hbk;have B := Below.refl w.heap.size w;cases hf : fabI x
 ·have HV : Hid (inI x = false) := by unfold Hid inI; rw [hf]; rfl
  rw [hf] at H0;clear R h;go_enter Tryz.func5, Tryz.ntmps5;go_upto_region 1 with fail
  generalize r : w.alloc _ = u1w;have F := boxH r;have bz := boxB r;have zF := boxL r;clear r;replace B := below_step B bz;clear bz zF;obtain ⟨Fc0, Fc1, Fc2, Fc3, Fc4, Fc5, Fc6, Fc7, Fc8, Fc9, Fc10, Fc11, Fc12⟩ := cells_fabric F;have Flt := (ltH F);go_wp2_with fail
  clear Fc0 Fc1 Fc2 Fc3 Fc4 Fc5 Fc6 Fc7 Fc8 Fc9 Fc10 Fc11 Fc12 Flt;refine (H0.out _ B).mono ?_;rintro e yC ⟨rfl, bq⟩;replace B := below_step B bq;replace F := row_keep bq F;clear bq;obtain ⟨Fc0, Fc1, Fc2, Fc3, Fc4, Fc5, Fc6, Fc7, Fc8, Fc9, Fc10, Fc11, Fc12⟩ := cells_fabric F;have Flt := (ltH F);have g : Hid _ := B;clear B F;go_wp2;go_ret
  exact ⟨ret_bool HV.out.symm, g.out⟩
 ·obtain ⟨⟨hm, GA⟩, AB, LB, KB⟩ := fab_sm hbk;obtain ⟨⟨iD, qD⟩, vB, -⟩ := fab_facts hf;have TA : Hid _ := vB;have TC : x.2.2.1.length ≤ 4 := by omega
  have RR : Hid (∀ W, Bl w W → SlRd coreR W a2 x.2.2.1) := fun W hb => (fab_next R hb).cores;have qB : Hid (∀ u, u ∈ x.2.2.1 → 0 ≤ u.2.2.1 ∧ u.2.2.1 ≤ (u.2.1.length : Int) ∧ (u.2.2.2.2.2.length : Int) = u.2.2.1) := fun u hu => fab_place hf hu;have MA : Hid (∀ (k : Int) W, Bl w W → Calls Tryz.prog 15 #[sL a5 x.2.2.2.2.2.length c5, nI k] W fun e w' => ∃ v, e = .returned v ∧ MadeR eventsR W w' [v] (byA k x.2.2.2.2.2)) := fun k W hb => specBy_any a5 x.2.2.2.2.2 c5 k W (fab_next R hb).evs hm GA;have yA : Hid ((∀ (i : Nat) u, x.2.2.1[i]? = some u → coreDone u (byA (i : Int) x.2.2.2.2.2) = true) → inI x = dmaW x.2.2.2.1 (byA 5 x.2.2.2.2.2)) := fun q => in_end hf q;have aD : x.2.2.2.2.2.length ≤ 1048576 := hm;have DB : Hid _ := GA;have DC : Hid _ := LB;have LC : Hid _ := KB;have C : Hid _ := fab_dma18 hf;have BA : Hid (x.2.2.2.1.1.length ≤ 30) := (fab_facts hf).2.2.1;have OC : Hid (∀ W, Bl w W → SlRd descR W a3 x.2.2.2.1.1) := fun W hb => (fab_next R hb).descs;have RA : Hid (∀ W, Bl w W → SlRd intsR W b3 x.2.2.2.1.2.2.2) := fun W hb => dma_told (fab_next R hb).dma;rw [hf] at H0;clear h hbk hm GA LB KB AB vB R;go_enter Tryz.func5, Tryz.ntmps5;go_upto_region 1 with fail
  generalize r : w.alloc _ = u1w;have F := boxH r;have bz := boxB r;have zF := boxL r;clear r;replace B := below_step B bz;clear bz zF;obtain ⟨Fc0, Fc1, Fc2, Fc3, Fc4, Fc5, Fc6, Fc7, Fc8, Fc9, Fc10, Fc11, Fc12⟩ := cells_fabric F;have Flt := (ltH F);go_wp2_with fail
  clear Fc0 Fc1 Fc2 Fc3 Fc4 Fc5 Fc6 Fc7 Fc8 Fc9 Fc10 Fc11 Fc12 Flt;refine (H0.out _ B).mono ?_;rintro e yC ⟨rfl, bq⟩;replace B := below_step B bq;replace F := row_keep bq F;clear bq H0;go_wp2;go_loopw [3] (fun i wr => ∃ j : Nat, (j : Int) ≤ x.1.1 ∧ i = nI j ∧ (∀ (i : Nat) u, i < j → x.2.2.1[i]? = some u → coreDone u (byA (i : Int) x.2.2.2.2.2) = true) ∧ Bl w wr ∧ wr.heap[w.heap.size]? = some (.cells #[nI x.1.1, nI x.1.2.1, nI x.1.2.2.1, nI x.1.2.2.2, sL a1 x.2.1.1.length c1, sL b1 x.2.1.2.length d1, sL a2 x.2.2.1.length c2, sL a3 x.2.2.2.1.1.length c3, nI x.2.2.2.1.2.1, .bool x.2.2.2.1.2.2.1, sL b3 x.2.2.2.1.2.2.2.length d3, sL a4 x.2.2.2.2.1.length c4, sL a5 x.2.2.2.2.2.length c5] 49 (0, 0))) (fun i _ => x.1.1.toNat - (intOf i).toNat)
  case atStart => exact ⟨0, by omega, rfl, fun i u hi => by omega, B, F⟩
  case round =>
   clear B F;obtain ⟨j, hj, rfl, nA, a, F⟩ := hrel;by_cases yD : (j : Int) < x.1.1
   ·have EC : j < x.2.2.1.length := by have := TA.out; omega
    have SC : (j : Int) < (x.2.2.1.length : Int) := by omega
    obtain ⟨u, hx⟩ : ∃ u, x.2.2.1[j]? = some u := ⟨_, List.getElem?_eq_getElem EC⟩;obtain ⟨bb, oB, cs, ra, eA, f⟩ := slrd_at (RR.out w (Below.refl _ _)) hx;have T : Hid _ := qB.out u (List.mem_of_getElem? hx);replace f := fun i v h => cell_keep a (f i v h) (cell_lt (f i v h));obtain ⟨ga, gc, gb, gd, ha, hc, ia, ic, ja, jc, rfl⟩ := core_shape eA;obtain ⟨x0, x1, x2, x3, x4, x5, x6, x7, x8⟩ := cellsAt9 f rfl;obtain ⟨qo, qt, lo, zB⟩ := core_ops eA;have qC : Hid (∀ W, Bl w W → SlRd opR W ha u.2.1) := fun W hb => slrd_next qo hb;have RA : Hid (∀ W, Bl w W → SlRd intR W ja u.2.2.2.2.2) := fun W hb => slrd_next qt hb;have lD : u.2.1.length ≤ 9223372036854775807 := lo;have rD : u.2.2.2.2.2.length ≤ 9223372036854775807 := zB;subst ra;have HX : Hid _ := hx;have I : Hid _ := nA;have X := heap_at wr (.cells #[sL ga u.1.1.length gc, sL gb u.1.2.length gd, sL ha u.2.1.length hc, nI u.2.2.1, nI u.2.2.2.1, nI u.2.2.2.2.1.1, nI u.2.2.2.2.1.2.1, sL ia u.2.2.2.2.1.2.2.length ic, sL ja u.2.2.2.2.2.length jc] 66);have D := box_below wr (.cells #[sL ga u.1.1.length gc, sL gb u.1.2.length gd, sL ha u.2.1.length hc, nI u.2.2.1, nI u.2.2.2.1, nI u.2.2.2.2.1.1, nI u.2.2.2.2.1.2.1, sL ia u.2.2.2.2.1.2.2.length ic, sL ja u.2.2.2.2.2.length jc] 66);have Fc := cells_fabric F;clear f eA hx nA qo qt lo zB;go_upto_region 7 with fail
    clear x0 x1 x2 x3 x4 x5 x6 x7 x8 Fc;replace a := below_step a D;replace F := row_keep D F;generalize wr.alloc (.cells #[sL ga u.1.1.length gc, sL gb u.1.2.length gd, sL ha u.2.1.length hc, nI u.2.2.1, nI u.2.2.2.1, nI u.2.2.2.2.1.1, nI u.2.2.2.2.1.2.1, sL ia u.2.2.2.2.1.2.2.length ic, sL ja u.2.2.2.2.2.length jc] 66) = wv at X D a F ⊢;clear D;generalize wr.heap.size = xb at X ⊢;have Fc := cells_fabric F;go_wp2_with fail
    clear Fc;refine (MA.out j _ a).mono ?_;rintro e w5 ⟨v, rfl, mm⟩;obtain ⟨ea, ec, c, l1, l2, q⟩ := eventsR.own_rd mm.1;simp only [List.cons.injEq, and_true] at c;subst c;replace a := below_step a mm.2;replace F := row_keep mm.2 F;replace X := row_keep mm.2 X;generalize kB : byA (j : Int) x.2.2.2.2.2 = es at l1 q;have oA : Hid _ := kB;have dA : Hid (∀ W, Bl w5 W → SlRd eventR W ea es) := fun W hb => slrd_next q hb;have HA : es.length ≤ 9223372036854775807 := Nat.le_trans l1 l2;clear mm q kB;have Xc := cells_core X;by_cases hL : (es.length : Int) = u.2.2.1
    ·have zL : ((es.length : Int) != u.2.2.1) = false := by simp [hL]
     have HL : Hid _ := hL;clear hL;go_wp2;clear Xc;go_loopw [6] (fun i wr => ∃ m : Nat, m ≤ es.length ∧ i = nI m ∧ (∀ (k : Nat) e, k < m → es[k]? = some e → stepC u k e) ∧ Bl w wr ∧ Bl w5 wr ∧ wr.heap[w.heap.size]? = some (.cells #[nI x.1.1, nI x.1.2.1, nI x.1.2.2.1, nI x.1.2.2.2, sL a1 x.2.1.1.length c1, sL b1 x.2.1.2.length d1, sL (some ⟨bb, oB, none⟩) x.2.2.1.length c2, sL a3 x.2.2.2.1.1.length c3, nI x.2.2.2.1.2.1, .bool x.2.2.2.1.2.2.1, sL b3 x.2.2.2.1.2.2.2.length d3, sL a4 x.2.2.2.2.1.length c4, sL a5 x.2.2.2.2.2.length c5] 49 (0, 0)) ∧ wr.heap[xb]? = some (.cells #[sL ga u.1.1.length gc, sL gb u.1.2.length gd, sL ha u.2.1.length hc, nI u.2.2.1, nI u.2.2.2.1, nI u.2.2.2.2.1.1, nI u.2.2.2.2.1.2.1, sL ia u.2.2.2.2.1.2.2.length ic, sL ja u.2.2.2.2.2.length jc] 66 (0, 0))) (fun i _ => es.length - (intOf i).toNat)
     case atStart => exact ⟨0, Nat.zero_le _, rfl, fun k e hk => by omega, a, Below.refl _ _, F, X⟩
     case round =>
      clear a F X;obtain ⟨m, hm, rfl, E, a, A, F, X⟩ := hrel;by_cases DA : m < es.length
      ·have rB : (m : Int) < u.2.2.1 := by rw [← HL.out]; omega
       obtain ⟨c, J⟩ : ∃ c, es[m]? = some c := ⟨_, List.getElem?_eq_getElem DA⟩;have FA : m < u.2.1.length := by have := HL.out; have := T.out; omega
       have sA : m < u.2.2.2.2.2.length := by have := HL.out; have := T.out; omega
       obtain ⟨o, ho⟩ : ∃ o, u.2.1[m]? = some o := ⟨_, List.getElem?_eq_getElem FA⟩;obtain ⟨t, ht⟩ : ∃ t, u.2.2.2.2.2[m]? = some t := ⟨_, List.getElem?_eq_getElem sA⟩;obtain ⟨be, BD, ce, re, L, f⟩ := slrd_at (dA.out _ A) J;obtain ⟨da, dc, rfl, -, -⟩ := ev_parts L;obtain ⟨x0, x1, x2, x3, x4, x5, x6, x7, x8⟩ := cellsAt9 f rfl;obtain ⟨bo, l, co, ro, M, b⟩ := slrd_at (qC.out _ a) ho;obtain ⟨rfl, -⟩ := op_rd M;have y0 := b 0 _ rfl;rw [show l + (m * opR.size + 0) = l + m * 4 from rfl] at y0;have y1 := b 1 _ rfl;rw [show l + (m * opR.size + 1) = l + m * 4 + 1 from rfl] at y1;have y2 := b 2 _ rfl;rw [show l + (m * opR.size + 2) = l + m * 4 + 2 from rfl] at y2;have y3 := b 3 _ rfl;rw [show l + (m * opR.size + 3) = l + m * 4 + 3 from rfl] at y3;obtain ⟨bt, cA, ct, rt, fA, s⟩ := slrd_at (RA.out _ a) ht;obtain ⟨rfl, -⟩ := fA;have t0 := s 0 _ rfl;rw [show cA + (m * intR.size + 0) = cA + m from by rw [show intR.size = 1 from rfl]; omega] at t0;have y : Hid _ := J;have nC : Hid (∀ o', u.2.1[m]? = some o' → o' = o) := fun o' h' => by rw [ho] at h'; cases h'; rfl
       have vC : Hid (∀ t', u.2.2.2.2.2[m]? = some t' → t' = t) := fun t' h' => by rw [ht] at h'; cases h'; rfl
       have HC : Hid _ := ho;have IC : Hid _ := ht;have p : Hid _ := E;have HZ : Hid (∀ V, (Op.equalIn 10000 69 (.agg #[nI c.2.1.1, nI c.2.1.2.1, nI c.2.1.2.2.1, nI c.2.1.2.2.2]) (.agg #[nI o.1, nI o.2.1, nI o.2.2.1, nI o.2.2.2])).run Tryz.prog V = .ok (isOfB c o) V) := fun V => by
        rw [op_eq4];congr 1
        rw [Bool.eq_iff_iff];simp only [isOfB, Bool.and_eq_true, beq_iff_eq, decide_eq_true_eq, Prod.ext_iff, and_assoc]
       have hz := HZ.out;have GB : (m : Int) < (u.2.1.length : Int) := by omega
       have jB : (m : Int) < (u.2.2.2.2.2.length : Int) := by omega
       have VC : (m : Int) < (es.length : Int) := by omega
       subst re ro rt;clear f b s L M J ho ht E;have Xc := cells_core X;have g : Hid _ := aI a (aI A (aI F X));clear a A F X;cases U : isOfB c o
       ·rw [U] at hz;have G : Hid (inI x = false) := by
         refine in_core_no HX.out ?_;rw [oA.out];cases q : coreDone u es
         ·rfl
         ·have := ((core_iffE T.out.1 T.out.2.1 T.out.2.2).1 q).2 m c y.out;have := this.1 o HC.out;simp [isOfB, this] at U
        clear p I;go_wp2_with fail
        go_quiet (fail)
        go_wp2;go_ret
        exact ⟨ret_bool G.out.symm, be_drewN g.out.1 _⟩
       ·rw [U] at hz;by_cases hq : c.2.2.2.2.2 = t
        ·have zq : (c.2.2.2.2.2 != t) = false := by simp [hq]
         have z : stepC u m c := ⟨fun o' h' => by rw [nC.out o' h']; simpa [isOfB] using U, fun t' h' => by rw [vC.out t' h']; exact hq⟩;have HE : Hid (∀ (i : Nat) e, i < m + 1 → es[i]? = some e → stepC u i e) := fun i e hi he => by
          by_cases S : i < m
          ·exact p.out i e S he
          ·have : i = m := by omega
           subst this;rw [y.out] at he;cases he;exact z
         have N : Hid _ := HE;clear HE p z hq U;go_wp2_with fail
         go_quiet (fail)
         go_wp2;go_roundw
         case rel => exact ⟨m + 1, by omega, by go_num, N.out, be_drewN g.out.1 _, be_drewN g.out.2.1 _, g.out.2.2.1, g.out.2.2.2⟩
         case measure => simp [intOf]; omega
        ·have zq : (c.2.2.2.2.2 != t) = true := by simp [hq]
         have G : Hid (inI x = false) := by
          refine in_core_no HX.out ?_;rw [oA.out];cases q : coreDone u es
          ·rfl
          ·have := ((core_iffE T.out.1 T.out.2.1 T.out.2.2).1 q).2 m c y.out;exact absurd (this.2 t IC.out) hq
         clear p I hq U;go_wp2_with fail
         go_quiet (fail)
         go_wp2;go_ret
         exact ⟨ret_bool G.out.symm, be_drewN g.out.1 _⟩
      ·have dD : ¬ ((m : Int) < u.2.2.1) := by rw [← HL.out]; omega
       have HE : Hid (coreDone u es = true) := (core_iffE T.out.1 T.out.2.1 T.out.2.2).2 ⟨HL.out, fun k e he => E k e (by have := (List.getElem?_eq_some_iff.1 he).1; omega) he⟩;have Xc := cells_core X;have g : Hid _ := aI a F;clear E a A F X;go_wp2;go_roundw
       case rel =>
        refine ⟨j + 1, by omega, by go_num, fun i v hi hv => ?_, g.out⟩;by_cases lC : i < j
        ·exact I.out i v lC hv
        ·have : i = j := by omega
         subst this;rw [HX.out] at hv;cases hv;rw [oA.out];exact HE.out
       case measure => simp [intOf]; omega
    ·have zL : ((es.length : Int) != u.2.2.1) = true := by simp [hL]
     have G : Hid (inI x = false) := by
      refine in_core_no HX.out ?_;rw [oA.out];cases q : coreDone u es
      ·rfl
      ·exact absurd ((core_iffE T.out.1 T.out.2.1 T.out.2.2).1 q).1 hL
     have g : Hid _ := a;clear a F X hL;go_wp2;go_ret
     exact ⟨ret_bool G.out.symm, g.out⟩
   ·have HV : Hid _ := yA.out fun i u hu => nA i u (by have := (List.getElem?_eq_some_iff.1 hu).1; have := TA.out; omega) hu;clear nA yA;have Fc := cells_fabric F;go_wp2_with fail
    clear Fc;refine (MA.out 5 _ a).mono ?_;rintro e w5 ⟨v, rfl, mm⟩;obtain ⟨ea, ec, c, l1, l2, q⟩ := eventsR.own_rd mm.1;simp only [List.cons.injEq, and_true] at c;subst c;replace a := below_step a mm.2;replace F := row_keep mm.2 F;have gA : Hid (∀ e ∈ byA 5 x.2.2.2.2.2, e ∈ x.2.2.2.2.2) := fun e he => by_mem he;generalize byA 5 x.2.2.2.2.2 = es at HV l1 q gA;have dA : Hid (∀ W, Bl w5 W → SlRd eventR W ea es) := fun W hb => slrd_next q hb;have HA : es.length ≤ 9223372036854775807 := Nat.le_trans l1 l2;clear mm q MA RR qB TA;have IA : Hid _ := gA;have H : Hid (inI x = true ↔ (x.2.2.2.1.2.1 ≤ (es.length : Int) ∧ (es.length : Int) ≤ x.2.2.2.1.2.1 + 1 ∧ (x.2.2.2.1.2.1 < (es.length : Int) → x.2.2.2.1.2.2.1 = true)) ∧ ∀ (k : Nat) e d, es[k]? = some e → x.2.2.2.1.1[k]? = some d → stepD x.2.2.2.1 k e d) := by
     unfold Hid;rw [HV.out];exact dmaW_iff C.out.1 C.out.2.1 C.out.2.2.1 C.out.2.2.2.1 C.out.2.2.2.2
    have oC : -9223372036854775808 ≤ x.2.2.2.1.2.1 + 1 ∧ x.2.2.2.1.2.1 + 1 ≤ 9223372036854775807 := by have := C.out; have := BA.out; omega
    have JC : IntKind.i64.wrap (x.2.2.2.1.2.1 + 1) = x.2.2.2.1.2.1 + 1 := by rw [IntKind.wrap_i64]; omega
    clear gA HV oC;by_cases ok : x.2.2.2.1.2.1 ≤ (es.length : Int) ∧ (es.length : Int) ≤ x.2.2.2.1.2.1 + 1 ∧ (x.2.2.2.1.2.1 < (es.length : Int) → x.2.2.2.1.2.2.1 = true)
    ·have I : Hid (∀ (k : Nat) e d, es[k]? = some e → x.2.2.2.1.1[k]? = some d → (stepD x.2.2.2.1 k e d → False) → inI x = false) := fun k e d he hd hn => by
       cases q : inI x
       ·rfl
       ·exact (hn ((H.out.1 q).2 k e d he hd)).elim
     have BC : Hid ((∀ (k : Nat) e d, es[k]? = some e → x.2.2.2.1.1[k]? = some d → stepD x.2.2.2.1 k e d) → inI x = true) := fun q => H.out.2 ⟨ok, q⟩;have vA : Hid (es.length ≤ x.2.2.2.1.1.length ∧ (x.2.2.2.1.2.2.2.length : Int) = x.2.2.2.1.2.1) := by
      refine ⟨?_, C.out.2.2.2.1⟩;have h1 := C.out.2.2.1;by_cases CA : x.2.2.2.1.2.1 < (es.length : Int)
      ·have := C.out.2.2.2.2 (ok.2.2 CA);have := ok.2.1;omega
      ·omega
     have sC : Hid (∀ e ∈ es, e.2.2.2.2.1.length ≤ 1048576) := fun e he => DB.out e (IA.out e he);have jC : x.2.2.2.1.1.length ≤ 9223372036854775807 := by have := BA.out; omega
     have CC : x.2.2.2.1.2.2.2.length ≤ 9223372036854775807 := by have := vA.out; have := C.out; omega
     have qA : Hid _ := ok;clear ok H;go_upto_region 17 with fail
     go_cut [95] (fun q wx => q = .bool false ∧ Bl w wx ∧ Bl w5 wx ∧ wx.heap[w.heap.size]? = some (.cells #[nI x.1.1, nI x.1.2.1, nI x.1.2.2.1, nI x.1.2.2.2, sL a1 x.2.1.1.length c1, sL b1 x.2.1.2.length d1, sL a2 x.2.2.1.length c2, sL a3 x.2.2.2.1.1.length c3, nI x.2.2.2.1.2.1, .bool x.2.2.2.1.2.2.1, sL b3 x.2.2.2.1.2.2.2.length d3, sL a4 x.2.2.2.2.1.length c4, sL a5 x.2.2.2.2.2.length c5] 49 (0, 0)))
     case first =>
      have Fc := cells_fabric F;have n1 : ¬ ((es.length : Int) < x.2.2.2.1.2.1) := by have := qA.out; omega
      have n2 : ¬ (x.2.2.2.1.2.1 + 1 < (es.length : Int)) := by have := qA.out; omega
      have g : Hid _ := aI a F;clear a F;by_cases CA : x.2.2.2.1.2.1 < (es.length : Int)
      ·have EB := qA.out.2.2 CA;rw [EB] at Fc;clear EB;go_wp2_with fail
       go_meet
       exact ⟨rfl, g.out.1, Below.refl _ _, g.out.2⟩
      ·go_wp2_with fail
       go_meet
       exact ⟨rfl, g.out.1, Below.refl _ _, g.out.2⟩
     case rest =>
      clear a F JC qA IA DB;obtain ⟨rfl, a, A, F⟩ := hcut;generalize wc = w6 at a A F ⊢;go_wp2;go_loopw [9] (fun i wr => ∃ m : Nat, m ≤ es.length ∧ i = nI m ∧ (∀ (k : Nat) e d, k < m → es[k]? = some e → x.2.2.2.1.1[k]? = some d → stepD x.2.2.2.1 k e d) ∧ Bl w wr ∧ Bl w5 wr ∧ wr.heap[w.heap.size]? = some (.cells #[nI x.1.1, nI x.1.2.1, nI x.1.2.2.1, nI x.1.2.2.2, sL a1 x.2.1.1.length c1, sL b1 x.2.1.2.length d1, sL a2 x.2.2.1.length c2, sL a3 x.2.2.2.1.1.length c3, nI x.2.2.2.1.2.1, .bool x.2.2.2.1.2.2.1, sL b3 x.2.2.2.1.2.2.2.length d3, sL a4 x.2.2.2.2.1.length c4, sL a5 x.2.2.2.2.2.length c5] 49 (0, 0))) (fun i _ => es.length - (intOf i).toNat)
      case atStart => exact ⟨0, Nat.zero_le _, rfl, fun k e d hk => by omega, a, A, F⟩
      case round =>
       clear a A F;obtain ⟨m, hm, rfl, E, a, A, F⟩ := hrel;by_cases DA : m < es.length
       ·have rB : (m : Int) < (es.length : Int) := by omega
        have FA : m < x.2.2.2.1.1.length := by have := vA.out; omega
        have GB : (m : Int) < (x.2.2.2.1.1.length : Int) := by omega
        obtain ⟨c, J⟩ : ∃ c, es[m]? = some c := ⟨_, List.getElem?_eq_getElem DA⟩;obtain ⟨d, pA⟩ : ∃ d, x.2.2.2.1.1[m]? = some d := ⟨_, List.getElem?_eq_getElem FA⟩;obtain ⟨bb, oB, cs, re, L, f⟩ := slrd_at (dA.out _ A) J;obtain ⟨da, dc, rfl, -, JB⟩ := ev_parts L;obtain ⟨x0, x1, x2, x3, x4, x5, x6, x7, x8⟩ := cellsAt9 f rfl;obtain ⟨bo, l, co, ro, M, b⟩ := slrd_at (OC.out _ a) pA;obtain ⟨Z, jA, rfl, mB⟩ := desc_shape M;have y0 := b 0 _ rfl;rw [show l + (m * descR.size + 0) = l + m * 4 from rfl] at y0;have y1 := b 1 _ rfl;rw [show l + (m * descR.size + 1) = l + m * 4 + 1 from rfl] at y1;have y2 := b 2 _ rfl;rw [show l + (m * descR.size + 2) = l + m * 4 + 2 from rfl] at y2;have y3 := b 3 _ rfl;rw [show l + (m * descR.size + 3) = l + m * 4 + 3 from rfl] at y3;have y : Hid _ := J;have O : Hid _ := pA;have p : Hid _ := E;have gB : Hid (∀ W, Bl wr W → SlRd intR W da c.2.2.2.2.1) := fun W hb => slrd_next JB hb;have GC : Hid (∀ W, Bl wr W → SlRd intR W Z d.2.2.2) := fun W hb => slrd_next mB hb;have pB : c.2.2.2.2.1.length ≤ 1048576 := sC.out c (List.mem_of_getElem? J);have NC : d.2.2.2.length ≤ 1048576 := DC.out d (List.mem_of_getElem? pA);subst ro;clear f b L M JB mB E J pA;have Y := heap_at wr (.cells #[.bool d.1, nI d.2.1, nI d.2.2.1, sL Z d.2.2.2.length jA] 73);have D := box_below wr (.cells #[.bool d.1, nI d.2.1, nI d.2.2.1, sL Z d.2.2.2.length jA] 73);have Fc := cells_fabric F;go_upto_region 23 with fail
        clear y0 y1 y2 y3 Fc;replace a := below_step a D;replace A := below_step A D;replace F := row_keep D F;replace x0 := cell_keep D x0 (cell_lt x0);replace x1 := cell_keep D x1 (cell_lt x1);replace x2 := cell_keep D x2 (cell_lt x2);replace x3 := cell_keep D x3 (cell_lt x3);replace x4 := cell_keep D x4 (cell_lt x4);replace x5 := cell_keep D x5 (cell_lt x5);replace x6 := cell_keep D x6 (cell_lt x6);replace x7 := cell_keep D x7 (cell_lt x7);replace x8 := cell_keep D x8 (cell_lt x8);generalize wr.alloc (.cells #[.bool d.1, nI d.2.1, nI d.2.2.1, sL Z d.2.2.2.length jA] 73) = wv at Y D a A F x0 x1 x2 x3 x4 x5 x6 x7 x8 ⊢;by_cases q1 : c.2.2.1 = d.2.1
        ·have z1 : (c.2.2.1 != d.2.1) = false := by simp [q1]
         have Q1 : Hid _ := q1;clear q1;by_cases q2 : c.2.2.2.1 = d.2.2.1
         ·have z2 : (c.2.2.2.1 != d.2.2.1) = false := by simp [q2]
          have Q2 : Hid _ := q2;clear q2;cases hw : d.1
          ·have K : Hid (d.1 = false) := hw;by_cases q3 : (m : Int) < x.2.2.2.1.2.1
           ·have sA : m < x.2.2.2.1.2.2.2.length := by have := vA.out; omega
            have jB : (m : Int) < (x.2.2.2.1.2.2.2.length : Int) := by omega
            obtain ⟨ws, mA⟩ : ∃ ws, x.2.2.2.1.2.2.2[m]? = some ws := ⟨_, List.getElem?_eq_getElem sA⟩;obtain ⟨bt, cA, ct, rt, fA, s⟩ := slrd_at (RA.out _ a) mA;obtain ⟨wa, wc, rfl, -, -, zA⟩ := fA;have t0 := s 0 _ rfl;rw [show cA + (m * intsR.size + 0) = cA + m from by rw [show intsR.size = 1 from rfl]; omega] at t0;have AC : ws.length ≤ 1048576 := LC.out ws (List.mem_of_getElem? mA);have iA : Hid (∀ n : Nat, Calls Tryz.prog 16 #[sL da c.2.2.2.2.1.length dc, sL wa ws.length wc] (wv.drewN n) fun e w' => e = .returned (.bool (decide (c.2.2.2.2.1 = ws))) ∧ ∃ q, w' = (wv.drewN n).drewN q) := fun n => l1Same_q da wa c.2.2.2.2.1 ws dc wc _ (gB.out _ (be_drewN D n)) (slrd_next zA (be_drewN (Below.refl _ _) n)) pB AC;have yB : Hid _ := mA;subst re rt;clear s mA zA;generalize aA : decide (c.2.2.2.2.1 = ws) = b4 at iA;have bA : Hid _ := aA;clear aA hw;have Yc := cells_4 Y;have Fc := cells_fabric F;have kA := K.out;rw [kA] at Yc;have g : Hid _ := aI a (aI A F);clear a A F Y;go_quiet (first | (go_at_call 16; exact Calls.quiet_of (iA.out _)))
            all_goals
             clear Yc Fc;cases b4
             ·have G : Hid (inI x = false) := I.out m c d y.out O.out (fun q => by have := q.2.2.2 K.out ws yB.out; have := bA.out; simp_all);clear p;go_wp2;go_ret
              exact ⟨ret_bool G.out.symm, be_drewN g.out.1 _⟩
             ·have z : Hid (stepD x.2.2.2.1 m c d) := ⟨Q1.out, Q2.out, fun q => absurd q (by rw [K.out]; decide), fun _ ws' h' => by rw [yB.out] at h'; cases h'; simpa using bA.out⟩;have N : Hid (∀ (i : Nat) e d', i < m + 1 → es[i]? = some e → x.2.2.2.1.1[i]? = some d' → stepD x.2.2.2.1 i e d') := fun i e d' hi he hd' => by
               by_cases S : i < m
               ·exact p.out i e d' S he hd'
               ·have : i = m := by omega
                subst this;rw [y.out] at he;rw [O.out] at hd';cases he;cases hd'
                exact z.out
              clear p z;go_wp2;go_roundw
              case rel => exact ⟨m + 1, by omega, by go_num, N.out, be_drewN g.out.1 _, be_drewN g.out.2.1 _, g.out.2.2⟩
              case measure => simp [intOf]; omega
           ·have sA : x.2.2.2.1.2.2.2.length ≤ m := by have := vA.out; omega
            have z : Hid (stepD x.2.2.2.1 m c d) := ⟨Q1.out, Q2.out, fun q => absurd q (by rw [K.out]; decide), fun _ ws' h' => by have := (List.getElem?_eq_some_iff.1 h').1; omega⟩;subst re;have Yc := cells_4 Y;have Fc := cells_fabric F;rw [hw] at Yc;have g : Hid _ := aI a (aI A F);clear a A F Y hw;go_quiet (fail)
            clear Yc Fc;have N : Hid (∀ (i : Nat) e d', i < m + 1 → es[i]? = some e → x.2.2.2.1.1[i]? = some d' → stepD x.2.2.2.1 i e d') := fun i e d' hi he hd' => by
             by_cases S : i < m
             ·exact p.out i e d' S he hd'
             ·have : i = m := by omega
              subst this;rw [y.out] at he;rw [O.out] at hd';cases he;cases hd'
              exact z.out
            clear p z;go_wp2;go_roundw
            case rel => exact ⟨m + 1, by omega, by go_num, N.out, be_drewN g.out.1 _, be_drewN g.out.2.1 _, g.out.2.2⟩
            case measure => simp [intOf]; omega
          ·have K : Hid (d.1 = true) := hw;have iA : Hid (∀ n : Nat, Calls Tryz.prog 16 #[sL da c.2.2.2.2.1.length dc, sL Z d.2.2.2.length jA] (wv.drewN n) fun e w' => e = .returned (.bool (decide (c.2.2.2.2.1 = d.2.2.2))) ∧ ∃ q, w' = (wv.drewN n).drewN q) := fun n => l1Same_q da Z c.2.2.2.2.1 d.2.2.2 dc jA _ (gB.out _ (be_drewN D n)) (GC.out _ (be_drewN D n)) pB NC;subst re;generalize aA : decide (c.2.2.2.2.1 = d.2.2.2) = b4 at iA;have bA : Hid _ := aA;clear aA hw;have Yc := cells_4 Y;have Fc := cells_fabric F;have kA := K.out;rw [kA] at Yc;have g : Hid _ := aI a (aI A F);clear a A F Y;cases b4
           all_goals
            go_quiet (first | (go_at_call 16; exact Calls.quiet_of (iA.out _)))
            clear Yc Fc
           ·have G : Hid (inI x = false) := I.out m c d y.out O.out (fun q => by have := q.2.2.1 K.out; have := bA.out; simp_all);clear p;go_wp2;go_ret
            exact ⟨ret_bool G.out.symm, be_drewN g.out.1 _⟩
           ·have z : Hid (stepD x.2.2.2.1 m c d) := ⟨Q1.out, Q2.out, fun _ => by simpa using bA.out, fun q => absurd q (by rw [K.out]; decide)⟩;have N : Hid (∀ (i : Nat) e d', i < m + 1 → es[i]? = some e → x.2.2.2.1.1[i]? = some d' → stepD x.2.2.2.1 i e d') := fun i e d' hi he hd' => by
             by_cases S : i < m
             ·exact p.out i e d' S he hd'
             ·have : i = m := by omega
              subst this;rw [y.out] at he;rw [O.out] at hd';cases he;cases hd'
              exact z.out
            clear p z;go_wp2;go_roundw
            case rel => exact ⟨m + 1, by omega, by go_num, N.out, be_drewN g.out.1 _, be_drewN g.out.2.1 _, g.out.2.2⟩
            case measure => simp [intOf]; omega
         ·have z2 : (c.2.2.2.1 != d.2.2.1) = true := by simp [q2]
          have G : Hid (inI x = false) := I.out m c d y.out O.out (fun q => q2 q.2.1);subst re;have Yc := cells_4 Y;have g : Hid _ := a;clear a A F Y p q2;go_quiet (fail)
          clear Yc;go_wp2;go_ret
          exact ⟨ret_bool G.out.symm, be_drewN g.out _⟩
        ·have z1 : (c.2.2.1 != d.2.1) = true := by simp [q1]
         have G : Hid (inI x = false) := I.out m c d y.out O.out (fun q => q1 q.1);subst re;have Yc := cells_4 Y;have g : Hid _ := a;clear a A F Y p q1;go_quiet (fail)
         clear Yc;go_wp2;go_ret
         exact ⟨ret_bool G.out.symm, be_drewN g.out _⟩
       ·have G : Hid (inI x = true) := BC.out fun k e d he hd => E k e d (by have := (List.getElem?_eq_some_iff.1 he).1; omega) he hd;have g : Hid _ := a;clear E a A F;go_wp2;go_ret
        exact ⟨ret_bool G.out.symm, g.out⟩
    ·have G : Hid (inI x = false) := by
       cases q : inI x
       ·rfl
       ·exact (ok (H.out.1 q).1).elim
     have g : Hid _ := a;have Fc := cells_fabric F;clear H a F IA;by_cases n1 : (es.length : Int) < x.2.2.2.1.2.1
     ·clear ok;go_wp2;go_ret
      exact ⟨ret_bool G.out.symm, g.out⟩
     ·by_cases n2 : x.2.2.2.1.2.1 + 1 < (es.length : Int)
      ·clear ok;go_wp2;go_ret
       exact ⟨ret_bool G.out.symm, g.out⟩
      ·have n3 : x.2.2.2.1.2.1 < (es.length : Int) := by
         refine Int.not_le.1 fun q => ok ⟨by omega, by omega, fun q2 => by omega⟩
       have n4 : x.2.2.2.1.2.2.1 = false := by
        cases q : x.2.2.2.1.2.2.1
        ·rfl
        ·exact (ok ⟨by omega, by omega, fun _ => q⟩).elim
       rw [n4] at Fc;clear ok;go_wp2;go_ret
       exact ⟨ret_bool G.out.symm, g.out⟩
end Go.Proofs.YtglejdilghcbaaaGreatDoor
