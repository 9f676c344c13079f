import Derived.Test.YtcocbafhcpdheaaGreatDoorS00Box
import Derived.Test.YtcocbafhcpdheaaGreatDoorS50
namespace Go.Proofs.YtcocbafhcpdheaaGreatDoor
set_option maxHeartbeats 4000000
set_option maxRecDepth 20000
open Go.ChangeShapes Go.WideShapes Go.ChangeAt Go.RowKit
set_option linter.unusedVariables false
set_option linter.unusedSimpArgs false
theorem line_inL {l k : Int} : (decide (0 ≤ k) && decide (k < l)) = lineIn l k := by
 unfold lineIn betw;rw [← Bool.decide_and];exact decide_eq_decide.2 (by omega)
theorem statesOf_u (x : FabricD) (a1 : Option Addr) (c1 : Nat) (b1 : Option Addr) (d1 : Nat) (a2 : Option Addr) (c2 : Nat) (a3 : Option Addr) (c3 : Nat) (b3 : Option Addr) (d3 : Nat) (a4 : Option Addr) (c4 : Nat) (a5 : Option Addr) (c5 : Nat) (w : World) (R : FabRd w x a1 c1 b1 d1 a2 c2 a3 c3 b3 d3 a4 c4 a5 c5) (hf : fabI x = true) (k : Int) :
    Calls Tryz.prog 37 #[.agg #[.int .i64 x.1.1, .int .i64 x.1.2.1, .int .i64 x.1.2.2.1, .int .i64 x.1.2.2.2, .slice a1 x.2.1.1.length c1, .slice b1 x.2.1.2.length d1, .slice a2 x.2.2.1.length c2, .slice a3 x.2.2.2.1.1.length c3, .int .i64 x.2.2.2.1.2.1, .bool x.2.2.2.1.2.2.1, .slice b3 x.2.2.2.1.2.2.2.length d3, .slice a4 x.2.2.2.2.1.length c4, .slice a5 x.2.2.2.2.2.length c5], .int .i64 k] w fun e w' => ∃ v, e = .returned v ∧ MadeR intsR w w' [v] (statesI x k) := by
 have RR : Hid (∀ W, Below w.heap.size w W → SlRd coreR W a2 x.2.2.1) := fun W hb => (fab_next R hb).cores;have G : Hid (∀ u, u ∈ x.2.2.1 → OkC isL treeB u.1) := fun u hu => fab_core hf hu;have nA : x.2.2.1.length ≤ 4 := by
  obtain ⟨⟨sA, qA⟩, vA, -⟩ := fab_facts hf;omega
 have B := Below.refl w.heap.size w;clear R hf;go_enter Tryz.func37, Tryz.ntmps37;go_upto_region 1 with fail
 generalize d : w.alloc _ = u1w;have F := boxH d;have bz := boxB d;have zF := boxL d;clear d;replace B := below_step B bz;clear bz;clear zF;have HB : Hid _ := B;have L := made_cap (e := 2) (R := intR) u1w #[] 0 (Nat.zero_le _) rfl;have T := heap_on (.cells #[] 2) F;obtain ⟨Fc0, Fc1, Fc2, Fc3, Fc4, Fc5, Fc6, Fc7, Fc8, Fc9, Fc10, Fc11, Fc12⟩ := cells_fabric T;have Flt := (ltH T);clear F B T;go_wp2;clear Fc0 Fc1 Fc2 Fc3 Fc4 Fc5 Fc6 Fc7 Fc8 Fc9 Fc10 Fc11 Fc12 Flt;generalize u1w.alloc (.cells #[] 2) = u2w at L ⊢;go_loopw [5, 12] (fun r i wr => ∃ j : Nat, j ≤ x.2.2.1.length ∧ i = .int .i64 j ∧ ∃ p o, r = .slice p j o ∧ MadeR intsR u1w wr [.slice p j o] ((statesI x k).take j)) (fun _ i _ => x.2.2.1.length - (intOf i).toNat)
 case atStart => exact ⟨0, Nat.zero_le _, rfl, _, _, rfl, L⟩
 case round =>
  clear L;obtain ⟨j, hj, rfl, p, o, rfl, M⟩ := hrel;by_cases S : j < x.2.2.1.length
  ·have fA : (j : Int) < (x.2.2.1.length : Int) := by omega
   obtain ⟨u, y⟩ : ∃ u, x.2.2.1[j]? = some u := ⟨_, List.getElem?_eq_getElem S⟩;obtain ⟨bb, lA, cs, ra, g, f⟩ := slrd_at (RR.out _ (below_step HB.out M.2)) y;have D : Hid _ := fun (V : World) (hv : Below wr.heap.size wr V) => own_u cs u k V (G.out u (List.mem_of_getElem? y)) (rd_next g hv);obtain ⟨ga, gc, gb, gd, ha, hc, ia, ic, ja, jc, rfl⟩ := core_shape g;rw [show aggV _ = .agg _ from rfl] at D;obtain ⟨C, Z, H, Y, E, O, N, J, A⟩ := cellsAt9 f rfl;subst ra;have n : Hid _ := states_step (k := k) y;have l : Hid (((statesI x k).take j).length = j) := by unfold Hid; rw [List.length_take, states_len]; omega
   obtain ⟨ti, hi, dA, U, bA⟩ := info_parts Tryz.infoI8;generalize (statesI x k).take j = sj at n l M;have s : Hid _ := M;clear f g y M;go_upto_region 5 with fail
   clear C Z H Y E O N J A;generalize m : wr.alloc _ = wv;have X := boxH m;have BZ := boxB m;clear m;obtain ⟨C, Z, H, Y, E, O, N, J, A⟩ := cells_core X;go_wp2_with fail
   clear C Z H Y E O N J A X;refine (D.out _ BZ).mono ?_;rintro e w9 ⟨us, rfl, K⟩;clear D;have bq := below_step BZ K.2;obtain ⟨ea, ec, rfl, -, i1, -, -, -⟩ := way_rd (wayR.own_rd K.1);rw [show aggV _ = .agg _ from rfl];clear K BZ;have FW : ∀ (a b c : Value) (W : World), (Instr.field 88 (.agg #[a, b, c]) 1).run Tryz.prog W = .ok b W := field_state;go_wp2_with (at_builtin; refine wpList_pm (w0 := u1w) (wr := wr) (w1 := w9) rfl _ _ 37 rfl intR 2 ti (.int .i64 0) 8 Tryz.underlying37 hi dA U bA rfl (by decide) (by decide) (.slice p j o) sj [.int .i64 (wayOf u.1 k).2.1] (stateOf u k) 1 rfl _ rfl rfl s.out bq ⟨rfl, i1⟩ ?c1 ?c2 ?c3 ?_)
   case c1 => intro q hq; simp at hq; subst hq; rfl
   case c2 => rw [l.out]; unfold maxLen; omega
   case c3 => rw [l.out]; omega
   intro g' kA w2 z NC;rw [show sj.length = j from l.out] at z ⊢;rw [n.out] at z;have aA : Hid _ := z;clear z NC s bq;go_wp2;go_roundw
   case rel => exact ⟨j + 1, by omega, by go_num, _, _, rfl, aA.out⟩
   case measure => simp [intOf]; omega
  ·have I : j = (statesI x k).length := by rw [states_len]; omega
   have s : Hid (MadeR intsR w wr [.slice p j o] (statesI x k)) := by
    unfold Hid;subst I;rw [List.take_length] at M;exact made_from HB.out M
   clear M;go_wp2;go_ret
   exact ⟨_, rfl, s.out⟩
theorem implStatesOf_any (x : FabricD) (a1 : Option Addr) (c1 : Nat) (b1 : Option Addr) (d1 : Nat) (a2 : Option Addr) (c2 : Nat) (a3 : Option Addr) (c3 : Nat) (b3 : Option Addr) (d3 : Nat) (a4 : Option Addr) (c4 : Nat) (a5 : Option Addr) (c5 : Nat) (w : World) (R : FabRd w x a1 c1 b1 d1 a2 c2 a3 c3 b3 d3 a4 c4 a5 c5) (hh : Hold w) (hbk : fabricM.bk x ≤ 1048576) (k : Int) :
    Calls Tryz.prog 10 #[.agg #[.int .i64 x.1.1, .int .i64 x.1.2.1, .int .i64 x.1.2.2.1, .int .i64 x.1.2.2.2, .slice a1 x.2.1.1.length c1, .slice b1 x.2.1.2.length d1, .slice a2 x.2.2.1.length c2, .slice a3 x.2.2.2.1.1.length c3, .int .i64 x.2.2.2.1.2.1, .bool x.2.2.2.1.2.2.1, .slice b3 x.2.2.2.1.2.2.2.length d3, .slice a4 x.2.2.2.2.1.length c4, .slice a5 x.2.2.2.2.2.length c5], .int .i64 k] w fun e w' => ∃ v, e = .returned v ∧ MadeR intsR w w' [v] (stsI x k) := by
 have j : Hid _ := fun (W : World) (hb : Below w.heap.size w W) => implFabricOk_any x a1 c1 b1 d1 a2 c2 a3 c3 b3 d3 a4 c4 a5 c5 W (fab_next R hb) (hh.goes hb);have B := Below.refl w.heap.size w;cases g : fabI x
 ·have m : Hid (stsI x k = []) := by unfold Hid stsI lineF; rw [g]; rfl
  rw [g] at j;clear R hh;go_enter Tryz.func10, Tryz.ntmps10;go_upto_region 1 with fail
  generalize a : w.alloc _ = u1w;have F := boxH a;have f := boxB a;have i := boxL a;clear a;replace B := below_step B f;clear f;clear i;obtain ⟨Fc0, Fc1, Fc2, Fc3, Fc4, Fc5, Fc6, Fc7, Fc8, Fc9, Fc10, Fc11, Fc12⟩ := cells_fabric F;have Flt := (ltH F);go_wp2_with fail
  clear Fc0 Fc1 Fc2 Fc3 Fc4 Fc5 Fc6 Fc7 Fc8 Fc9 Fc10 Fc11 Fc12 Flt;refine (j.out _ B).mono ?_;rintro e c ⟨rfl, b⟩;replace B := below_step B b;replace F := row_keep b F;clear b;obtain ⟨Fc0, Fc1, Fc2, Fc3, Fc4, Fc5, Fc6, Fc7, Fc8, Fc9, Fc10, Fc11, Fc12⟩ := cells_fabric F;have Flt := (ltH F);have l : Hid (MadeR intsR w (c.alloc (.cells #[] 2)) [.slice (some ⟨c.heap.size, 0, none⟩) 0 0] (stsI x k)) := by
   unfold Hid;rw [m.out];exact made_from B (made_cap (e := 2) (R := intR) c #[] 0 (Nat.zero_le _) rfl)
  clear B F;go_wp2;go_ret
  exact ⟨_, rfl, l.out⟩
 ·have o : Hid (∀ W, Calls Tryz.prog 36 #[.agg #[.int .i64 x.1.1, .int .i64 x.1.2.1, .int .i64 x.1.2.2.1, .int .i64 x.1.2.2.2], .int .i64 k] W fun e w' => e = .returned (.bool (lineIn x.1.2.2.2 k)) ∧ Below W.heap.size W w') := fun W => by rw [← line_in (fab_code g)]; exact hasLine_any _ _ _ _ k W
  rw [g] at j;cases n : lineIn x.1.2.2.2 k
  ·have m : Hid (stsI x k = []) := by unfold Hid stsI lineF; rw [g, line_inL, n]; rfl
   rw [n] at o;clear R hh;go_enter Tryz.func10, Tryz.ntmps10;go_upto_region 1 with fail
   generalize a : w.alloc _ = u1w;have F := boxH a;have f := boxB a;have i := boxL a;clear a;replace B := below_step B f;clear f;clear i;obtain ⟨Fc0, Fc1, Fc2, Fc3, Fc4, Fc5, Fc6, Fc7, Fc8, Fc9, Fc10, Fc11, Fc12⟩ := cells_fabric F;have Flt := (ltH F);go_wp2_with fail
   clear Fc0 Fc1 Fc2 Fc3 Fc4 Fc5 Fc6 Fc7 Fc8 Fc9 Fc10 Fc11 Fc12 Flt;refine (j.out _ B).mono ?_;rintro e c ⟨rfl, b⟩;replace B := below_step B b;replace F := row_keep b F;clear b;obtain ⟨Fc0, Fc1, Fc2, Fc3, Fc4, Fc5, Fc6, Fc7, Fc8, Fc9, Fc10, Fc11, Fc12⟩ := cells_fabric F;have Flt := (ltH F);go_wp2_with fail
   clear Fc0 Fc1 Fc2 Fc3 Fc4 Fc5 Fc6 Fc7 Fc8 Fc9 Fc10 Fc11 Fc12 Flt;refine (o.out _).mono ?_;rintro e d ⟨rfl, b⟩;replace B := below_step B b;replace F := row_keep b F;clear b;obtain ⟨Fc0, Fc1, Fc2, Fc3, Fc4, Fc5, Fc6, Fc7, Fc8, Fc9, Fc10, Fc11, Fc12⟩ := cells_fabric F;have Flt := (ltH F);have l : Hid (MadeR intsR w (d.alloc (.cells #[] 2)) [.slice (some ⟨d.heap.size, 0, none⟩) 0 0] (stsI x k)) := by
    unfold Hid;rw [m.out];exact made_from B (made_cap (e := 2) (R := intR) d #[] 0 (Nat.zero_le _) rfl)
   clear B F;go_wp2;go_ret
   exact ⟨_, rfl, l.out⟩
  ·have m : Hid (stsI x k = statesI x k) := by unfold Hid stsI lineF; rw [g, line_inL, n]; rfl
   have hk : 0 ≤ k ∧ k < x.1.2.2.2 := by simp [lineIn, betw] at n; omega
   have q : Hid _ := fun (W : World) (hb : Below w.heap.size w W) => statesOf_u x a1 c1 b1 d1 a2 c2 a3 c3 b3 d3 a4 c4 a5 c5 W (fab_next R hb) g k;rw [n] at o;clear R hh;go_enter Tryz.func10, Tryz.ntmps10;go_upto_region 1 with fail
   generalize a : w.alloc _ = u1w;have F := boxH a;have f := boxB a;have i := boxL a;clear a;replace B := below_step B f;clear f;clear i;obtain ⟨Fc0, Fc1, Fc2, Fc3, Fc4, Fc5, Fc6, Fc7, Fc8, Fc9, Fc10, Fc11, Fc12⟩ := cells_fabric F;have Flt := (ltH F);go_wp2_with fail
   clear Fc0 Fc1 Fc2 Fc3 Fc4 Fc5 Fc6 Fc7 Fc8 Fc9 Fc10 Fc11 Fc12 Flt;refine (j.out _ B).mono ?_;rintro e c ⟨rfl, b⟩;replace B := below_step B b;replace F := row_keep b F;clear b;obtain ⟨Fc0, Fc1, Fc2, Fc3, Fc4, Fc5, Fc6, Fc7, Fc8, Fc9, Fc10, Fc11, Fc12⟩ := cells_fabric F;have Flt := (ltH F);go_wp2_with fail
   clear Fc0 Fc1 Fc2 Fc3 Fc4 Fc5 Fc6 Fc7 Fc8 Fc9 Fc10 Fc11 Fc12 Flt;refine (o.out _).mono ?_;rintro e d ⟨rfl, b⟩;replace B := below_step B b;replace F := row_keep b F;clear b;obtain ⟨Fc0, Fc1, Fc2, Fc3, Fc4, Fc5, Fc6, Fc7, Fc8, Fc9, Fc10, Fc11, Fc12⟩ := cells_fabric F;have Flt := (ltH F);go_wp2_with fail
   clear Fc0 Fc1 Fc2 Fc3 Fc4 Fc5 Fc6 Fc7 Fc8 Fc9 Fc10 Fc11 Fc12 Flt;refine (q.out _ B).mono ?_;rintro e p ⟨v, rfl, M⟩;have l : Hid (MadeR intsR w p [v] (stsI x k)) := by
    unfold Hid;rw [m.out];exact made_from B M
   clear B F M;go_wp2;go_ret
   exact ⟨_, rfl, l.out⟩
theorem bk_intsX (d : List Int) : intsM.bk d = d.length := by
 show d.length + sumbk intM d = d.length
 rw [sumbk_ints];rfl
theorem sts_small (x : FabricD) (k : Int) : intsM.bk (stsI x k) ≤ 8388608 := by
 rw [bk_intsX];unfold stsI;split
 ·rename_i h
  unfold lineF at h;simp only [Bool.and_eq_true] at h;obtain ⟨⟨a, b⟩, c, -⟩ := fab_facts h.1;rw [states_len];omega
 ·decide
theorem specStatesOf_u (cs : List Value) (x : FabricD) (k : Int) (w : World) (h : fabricR.rd w cs x) (hbk : fabricM.bk x ≤ 1048576) :
    Calls Tryz.prog 8 #[aggV cs, .int .i64 k] w fun e a => ∃ ds, e = .returned (cell1 ds) ∧ intsR.rd a ds (stsI x k) ∧ Below w.heap.size w a := by
 obtain ⟨b, f, m, g, l, c, q, o, d, n, j, r, p, i, rfl, R⟩ := fab_open h;refine (specStatesOf_any x b f m g l c q o d n j r p i w R h hbk k).mono ?_;rintro e a ⟨v, rfl, M⟩;exact ⟨[v], rfl, intsR.own_rd M.1, M.2⟩
theorem implStatesOf_u (cs : List Value) (x : FabricD) (k : Int) (w : World) (hh : Hold w) (h : fabricR.rd w cs x) (hbk : fabricM.bk x ≤ 1048576) :
    Calls Tryz.prog 10 #[aggV cs, .int .i64 k] w fun e a => ∃ ds, e = .returned (cell1 ds) ∧ MadeR intsR w a ds (stsI x k) := by
 obtain ⟨b, f, m, g, l, c, q, o, d, n, j, r, p, i, rfl, R⟩ := fab_open h;refine (implStatesOf_any x b f m g l c q o d n j r p i w R hh hbk k).mono ?_;rintro e a ⟨v, rfl, M⟩;exact ⟨[v], rfl, M⟩
end Go.Proofs.YtcocbafhcpdheaaGreatDoor
