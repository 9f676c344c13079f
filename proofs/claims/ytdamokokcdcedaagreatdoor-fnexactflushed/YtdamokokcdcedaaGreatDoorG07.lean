import Derived.Test.YtdamokokcdcedaaGreatDoorG00Box
import Derived.Test.YtdamokokcdcedaaGreatDoorG06
import Derived.LaidHandle
import Derived.Stop.Joined
import Derived.RangeFuncNested
import Derived.RangeFuncBound
import Derived.RangeFuncLeaves
import Derived.Shelf.Abstract
namespace Go.Proofs.YtdamokokcdcedaaGreatDoor
set_option maxHeartbeats 2000000
set_option maxRecDepth 100000
open Go.ChangeShapes Go.WideShapes Go.RowKit
set_option linter.unusedVariables false
abbrev holdL : List (String × DataW Unit) := [("errors.errorType", Rows.laid_errors_errorType)]
theorem gEt : Tryz.prog.globalNamed "errors.errorType" = some 1 := by kernel_rfl
theorem gRt : (Tryz.prog.cutTypes.find? (·.1 == "internal/reflectlite.rtype")).map (·.2) = some 295 := by kernel_rfl
theorem gRow : ((List.range 344).filter fun t => Tryz.prog.rowNamed t [101, 114, 114, 111, 114]) = [242] := by kernel_rfl
theorem gSize : Tryz.prog.types.size = 344 := by kernel_rfl
theorem hold_laid {W : World} (h : laidMetH Tryz.prog holdL W) : Hold W := by
 have m : laidMet Tryz.prog [] W ∧ handlesMet Tryz.prog holdL W := h;obtain ⟨a, u, i, k, d, g, j, b⟩ := m.2 _ (List.mem_singleton.2 rfl);have l : a = [101, 114, 114, 111, 114] := (Option.some.inj k).symm;subst l;obtain rfl := Option.some.inj (gRt.symm.trans d);have c : i ∈ (List.range 344).filter fun t => Tryz.prog.rowNamed t [101, 114, 114, 111, 114] := List.mem_filter.2 ⟨List.mem_range.2 (by rw [← gSize]; exact g), j⟩;rw [gRow] at c;obtain rfl := List.mem_singleton.1 c;have f : typeHandle Tryz.prog 242 = .pointer (some ⟨2, 242, none⟩) := by kernel_rfl
 rw [f] at b;unfold Hold;simpa using World.var?_cell gEt b 0
noncomputable def laidWorld (os : Os) : World :=
 { World.holding Tryz.prog os ⟨#[], #[], []⟩ with heap := (World.holding Tryz.prog os ⟨#[], #[], []⟩).heap.modify 1 fun
     | .cells _ t frozen => .cells #[.iface 295 (.agg #[.pointer (some ⟨2, 242, none⟩)])] t frozen
     | o => o }
structure HoldB (w : World) : Prop where
 han : Hold w
 tab : HoldT w
theorem HoldB.goes {w w' : World} (h : HoldB w) (hb : Bl w w') : HoldB w' := ⟨h.han.goes hb, h.tab.goes hb⟩
abbrev holdLB : List (String × DataW Unit) := [("errors.errorType", Rows.laid_errors_errorType), (holdName, Rows.laid_loop_example_g00342_impl_holdings)]
theorem laid_parts {W : World} (h : laidMetH Tryz.prog holdLB W) : laidMet Tryz.prog holdLT W ∧ laidMetH Tryz.prog holdL W := by
 have a : laidMet Tryz.prog holdLT W ∧ handlesMet Tryz.prog holdL W := h;exact ⟨a.1, ⟨laidMet_nil _ _, a.2⟩⟩
noncomputable def laidWorldB (os : Os) : World :=
 { laidWorld os with heap := (laidWorld os).heap.modify 0 fun
     | .cells _ t frozen => .cells holdC t frozen
     | o => o }
theorem laid_rowB (os : Os) (args : Array Value) : ((laidWorldB os).forCall (fun _ _ => 0) ⟨#[], args, []⟩).memory.heap[0]? = some (.cells holdC 154 (0, 0)) := by kernel_rfl
theorem laid_metD (os : Os) (args : Array Value) : laidMet Tryz.prog holdLT ((laidWorldB os).forCall (fun _ _ => 0) ⟨#[], args, []⟩).memory := by
 refine ⟨_, ⟨0, 154, holdC, 8, [], [], by kernel_rfl, by kernel_rfl, by kernel_rfl, by kernel_rfl, rfl, rfl⟩, by decide, fun b off h => ?_⟩;have a : MemPlace.cell b off ∈ [MemPlace.cell 0 0, .cell 0 1, .cell 0 2, .cell 0 3, .cell 0 4, .cell 0 5, .cell 0 6, .cell 0 7, .cell 0 8, .cell 0 9, .cell 0 10, .cell 0 11] := h;have c : b = 0 := by
  simp at a
  omega
 subst c;refine ⟨⟨_, _, laid_rowB os args⟩, fun u v hc => ?_⟩;simp only [World.cell?, laid_rowB os args] at hc;simp at a
 rcases a with rfl | rfl | rfl | rfl | rfl | rfl | rfl | rfl | rfl | rfl | rfl | rfl <;> simp [holdC] at hc
theorem laid_metB (os : Os) (args : Array Value) : laidMetH Tryz.prog holdLB ((laidWorldB os).forCall (fun _ _ => 0) ⟨#[], args, []⟩).memory :=
 laidMetH_of_parts (laid_metD os args) (by kernel_rfl)
open Go.ChangeShapes Go.WideShapes Go.ChangeAt Go.RowKit
abbrev OpD := Int × Int × Int × Int
abbrev opR : Rep OpD := prodR intR (prodR intR (prodR intR intR))
abbrev opM : Mk OpD := prodM intM (prodM intM (prodM intM intM))
abbrev opsR : Rep (List OpD) := slR 133 opR
abbrev opsM : Mk (List OpD) := slM opM
def In4 (u : OpD) : Prop := In64 u.1 ∧ In64 u.2.1 ∧ In64 u.2.2.1 ∧ In64 u.2.2.2
theorem opens_op : Opens Tryz.prog 118 opR :=
 opens_struct Tryz.underlying118 (by kernel_rfl) (opensF_cons rfl (by kernel_rfl) opens_i64 (opensF_cons rfl (by kernel_rfl) opens_i64 (opensF_cons rfl (by kernel_rfl) opens_i64 (opensF_one rfl (by kernel_rfl) opens_i64))))
theorem opens_ops : Opens Tryz.prog 108 opsR := opens_slice Tryz.underlying108 (by kernel_rfl) (by decide) opens_op
theorem op_rd {w : World} {cs : List Value} {u : OpD} (h : opR.rd w cs u) : cs = [nI u.1, nI u.2.1, nI u.2.2.1, nI u.2.2.2] ∧ In4 u := by
 obtain ⟨c0, e0, rfl, ⟨rfl, a⟩, c1, e1, rfl, ⟨rfl, b⟩, c2, e2, rfl, ⟨rfl, c⟩, ⟨rfl, d⟩⟩ := h;exact ⟨rfl, a, b, c, d⟩
theorem own_op {w : World} {S : Foot} {u : OpD} (h : In4 u) : opR.own w S [nI u.1, nI u.2.1, nI u.2.2.1, nI u.2.2.2] u :=
 ⟨[_], [_, _, _], fun _ => False, S, rfl, ⟨rfl, h.1⟩, ⟨[_], [_, _], fun _ => False, S, rfl, ⟨rfl, h.2.1⟩, ⟨[_], [_], fun _ => False, S, rfl, ⟨rfl, h.2.2.1⟩, ⟨rfl, h.2.2.2⟩, fun _ h => h.elim, Sub.refl _, fun _ h _ => h⟩, fun _ h => h.elim, Sub.refl _, fun _ h _ => h⟩, fun _ h => h.elim, Sub.refl _, fun _ h _ => h⟩
theorem made_op {w w' : World} {u : OpD} (h : In4 u) (hb : Bl w w') : MadeR opR w w' [nI u.1, nI u.2.1, nI u.2.2.1, nI u.2.2.2] u := ⟨own_op h, hb⟩
theorem sumbk_ops (xs : List OpD) : sumbk opM xs = 0 := by
 induction xs with
 | nil => rfl
 | cons x xs ih => simp only [sumbk, List.map_cons, List.sum_cons] at ih ⊢; rw [ih]; rfl
theorem bk_ops (xs : List OpD) : opsM.bk xs = xs.length := by
 have a : opsM.bk xs = xs.length + sumbk opM xs := rfl;rw [a, sumbk_ops]; rfl
theorem cnt_ops (xs : List OpD) : slcnt opM xs = 4 * xs.length := by
 induction xs with
 | nil => rfl
 | cons x xs ih =>
  simp only [slcnt, List.map_cons, List.sum_cons, List.length_cons] at ih ⊢;rw [ih];show 1 + (1 + (1 + 1)) + _ = _
  omega
theorem op_at {w : World} {a : Option Addr} {xs : List OpD} (h : SlRd opR w a xs) {k : Nat} {x : OpD} (hx : xs[k]? = some x) : ∃ b c, a = some ⟨b, c, none⟩ ∧ w.cell? ⟨b, c + k * 4, none⟩ = some (nI x.1) ∧ w.cell? ⟨b, c + k * 4 + 1, none⟩ = some (nI x.2.1) ∧ w.cell? ⟨b, c + k * 4 + 2, none⟩ = some (nI x.2.2.1) ∧ w.cell? ⟨b, c + k * 4 + 3, none⟩ = some (nI x.2.2.2) ∧ In4 x := by
 obtain ⟨b, c, cs, rfl, f, d⟩ := slrd_at h hx;obtain ⟨rfl, g⟩ := op_rd f;exact ⟨b, c, rfl, d 0 _ rfl, d 1 _ rfl, d 2 _ rfl, d 3 _ rfl, g⟩
theorem szOpS_rep (a : Option Addr) (xs : List OpD) (cap : Nat) (left : Int) (w : World) (h0 : 0 ≤ left) (h1 : left ≤ 1048576) (hm : xs.length ≤ maxLen) :
    Calls Tryz.prog 123 #[sL a xs.length cap, nI left] w fun e w' => e = .returned (nI (szI (opsM.bk xs) left)) ∧ w' = w := by
 have f : xs.length ≤ 9223372036854775807 := hm;rw [bk_ops];by_cases d : (xs.length : Int) ≤ left
 ·have c : Hid (szI xs.length left = _) := szI_yes d;have b : ¬ (left - (xs.length : Int) < 0) := by omega
  go_enter Tryz.func123, Tryz.ntmps123;go_wp2;go_ret
  exact ⟨ret_int c.out.symm, rfl⟩
 ·have c : Hid (szI xs.length left = _) := szI_no d;have b : left - (xs.length : Int) < 0 := by omega
  go_enter Tryz.func123, Tryz.ntmps123;go_wp2;go_ret
  exact ⟨ret_int c.out.symm, rfl⟩
theorem toOp_rep (k a x y : Int) (w : World) :
    Calls Tryz.prog 144 #[.agg #[nI k, nI a, nI x, nI y]] w fun e w' => e = .returned (.agg #[nI k, nI a, nI x, nI y]) ∧ Bl w w' := by
 have b : Hid (∀ o o' o'', Bl w (((w.alloc o).alloc o').alloc o'')) := fun o o' o'' => below_step (below_step (box_below w o) (box_below _ o')) (box_below _ o'');go_enter Tryz.func144, Tryz.ntmps144;go_wp2;refine bodyPost_ret (v := .agg #[nI k, nI a, nI x, nI y]) (by simp [results, Tryz.results144, go_sem]) rfl ⟨rfl, ?_⟩;exact b.out _ _ _
theorem Tryz.infoOp : (Tryz.prog.info? 133).map (fun i => (i.zero, i.size, i.bytes)) = some (some (.agg #[nI 0, nI 0, nI 0, nI 0]), 4, 32) := by kernel_rfl
theorem toOpS_rep (a : Option Addr) (xs : List OpD) (cap : Nat) (w : World) (h : SlRd opR w a xs) (hm : opsM.bk xs ≤ 1048576) :
    Calls Tryz.prog 141 #[sL a xs.length cap] w fun e w' => ∃ v, e = .returned v ∧ MadeR opsR w w' [v] xs := by
 rw [bk_ops] at hm;have L : Hid (SlRd opR w a xs) := h;clear h;have o := run_make_wide (P := Tryz.prog) 96 133 (.agg #[nI 0, nI 0, nI 0, nI 0]) 4 32 Tryz.underlying96 Tryz.infoOp xs.length (by omega) (by omega);go_enter Tryz.func141, Tryz.ntmps141;go_wp2;go_loopw [4] (fun i wr => ∃ k : Nat, k ≤ xs.length ∧ i = nI k ∧ Fill 133 opR w wr xs.length (xs.take k)) (fun i _ => xs.length - (intOf i).toNat)
 case atStart => exact ⟨0, Nat.zero_le _, rfl, by simpa using fillR_start (e := 133) (R := opR) (w0 := w) (n := xs.length) (cs := madeCells #[nI 0, nI 0, nI 0, nI 0] (xs.length * 4)) (by unfold maxLen; omega) (by rw [size_madeCells]; rfl)⟩
 case round =>
  obtain ⟨k, hk, rfl, d⟩ := hrel;by_cases j : k < xs.length
  ·have z : (k : Int) < (xs.length : Int) := by omega
   obtain ⟨x, m⟩ : ∃ x, xs[k]? = some x := ⟨_, List.getElem?_eq_getElem j⟩;obtain ⟨b, M, rfl, D, E, G, J, C⟩ := op_at (slrd_next L.out (fill_below d)) m;have A : Hid (∀ w1 c, MadeR opR wr w1 c x → _) := fun w1 c hm => fillR_step (w1 := w1) (c := c) d (by simp; omega) j hm;have H : Hid (xs.take k ++ [x] = xs.take (k + 1)) := by unfold Hid; rw [List.take_add_one, m]; rfl
   have I : Hid (In4 x) := C;clear m o d C;go_wp2_with fail
   refine (toOp_rep x.1 x.2.1 x.2.2.1 x.2.2.2 _).mono ?_;rintro e w1 ⟨rfl, B⟩;obtain ⟨g, f, s⟩ := A.out _ _ (made_op I.out B);obtain ⟨v0, l⟩ := g 0 (by decide);obtain ⟨v1, p⟩ := g 1 (by decide);obtain ⟨v2, r⟩ := g 2 (by decide);obtain ⟨v3, q⟩ := g 3 (by decide);have z0 := f (k * 4);have z1 := f (k * 4 + 1);have z2 := f (k * 4 + 2);have z3 := f (k * 4 + 3);rw [show k * opR.size + 0 = k * 4 from rfl] at l;rw [show k * opR.size + 1 = k * 4 + 1 from rfl] at p;rw [show k * opR.size + 2 = k * 4 + 2 from rfl] at r;rw [show k * opR.size + 3 = k * 4 + 3 from rfl] at q;rw [H.out] at s;have K : Hid _ := s;clear s B g f A D E G J;go_wp2;go_roundw
   case rel => exact ⟨k + 1, by omega, by go_num, K.out⟩
   case measure => simp [intOf]; omega
  ·have y : k = xs.length := by omega
   subst y;rw [List.take_length] at d;have F := fillR_end d rfl;clear d;go_wp2;go_ret
   exact ⟨_, rfl, F⟩
theorem eqOp_rep (k a x y : Int) (w : World) :
    Calls Tryz.prog 168 #[.agg #[nI k, nI a, nI x, nI y], .agg #[nI k, nI a, nI x, nI y]] w fun e w' => e = .returned (.bool true) ∧ Bl w w' := by
 have b : Hid (∀ o o', Bl w ((w.alloc o).alloc o')) := fun o o' => below_step (box_below w o) (box_below _ o');go_enter Tryz.func168, Tryz.ntmps168;go_wp2;go_ret
 exact ⟨rfl, b.out _ _⟩
theorem eqOpS_rep (a1 a2 : Option Addr) (xs : List OpD) (c1 c2 : Nat) (w : World) (h1 : SlRd opR w a1 xs) (h2 : SlRd opR w a2 xs) (hm : opsM.bk xs ≤ 1152921504606846976) :
    Calls Tryz.prog 165 #[sL a1 xs.length c1, sL a2 xs.length c2] w fun e w' => e = .returned (.bool true) ∧ Bl w w' := by
 rw [bk_ops] at hm;have J : Hid (∀ W, Bl w W → SlRd opR W a1 xs) := fun W hb => slrd_keep h1 fun k E => hb.block k E;have K : Hid (∀ W, Bl w W → SlRd opR W a2 xs) := fun W hb => slrd_keep h2 fun k E => hb.block k E;clear h1 h2;go_enter Tryz.func165, Tryz.ntmps165;go_wp2;go_loopw [5] (fun i wr => ∃ k : Nat, k ≤ xs.length ∧ i = nI k ∧ Bl w wr) (fun i _ => xs.length - (intOf i).toNat)
 case atStart => exact ⟨0, Nat.zero_le _, rfl, Below.refl _ _⟩
 case round =>
  obtain ⟨k, E, rfl, q⟩ := hrel;by_cases H : k < xs.length
  ·have I : (k : Int) < (xs.length : Int) := by omega
   obtain ⟨x, G⟩ : ∃ x, xs[k]? = some x := ⟨_, List.getElem?_eq_getElem H⟩;obtain ⟨D, a, rfl, d, o, l, f, -⟩ := op_at (J.out _ q) G;obtain ⟨c, b, rfl, g, j, p, m, -⟩ := op_at (K.out _ q) G;have C : ∀ n : Cls (fun wx => Bl wr wx), n.w.cell? ⟨D, a + k * 4, none⟩ = some (nI x.1) := fun n => cell_keep n.h d (cell_lt d);have s : ∀ n : Cls (fun wx => Bl wr wx), n.w.cell? ⟨D, a + k * 4 + 1, none⟩ = some (nI x.2.1) := fun n => cell_keep n.h o (cell_lt o);have y : ∀ n : Cls (fun wx => Bl wr wx), n.w.cell? ⟨D, a + k * 4 + 2, none⟩ = some (nI x.2.2.1) := fun n => cell_keep n.h l (cell_lt l);have v : ∀ n : Cls (fun wx => Bl wr wx), n.w.cell? ⟨D, a + k * 4 + 3, none⟩ = some (nI x.2.2.2) := fun n => cell_keep n.h f (cell_lt f);have B : ∀ n : Cls (fun wx => Bl wr wx), n.w.cell? ⟨c, b + k * 4, none⟩ = some (nI x.1) := fun n => cell_keep n.h g (cell_lt g);have r : ∀ n : Cls (fun wx => Bl wr wx), n.w.cell? ⟨c, b + k * 4 + 1, none⟩ = some (nI x.2.1) := fun n => cell_keep n.h j (cell_lt j);have A : ∀ n : Cls (fun wx => Bl wr wx), n.w.cell? ⟨c, b + k * 4 + 2, none⟩ = some (nI x.2.2.1) := fun n => cell_keep n.h p (cell_lt p);have z : ∀ n : Cls (fun wx => Bl wr wx), n.w.cell? ⟨c, b + k * 4 + 3, none⟩ = some (nI x.2.2.2) := fun n => cell_keep n.h m (cell_lt m);clear G d o l f g j p m;go_wp2_with fail
   refine region_class (fun wx => Bl wr wx) (by kernel_rfl) (by kernel_rfl) ((Below.refl _ wr).drew) ?_;intro F;repeat (quiet_step ((go_at_call 168; exact calls_class (eqOp_rep x.1 x.2.1 x.2.2.1 x.2.2.2 _) (fun w' hc bb => below_step hc bb))))
   refine wpQuiet_nil ?_;intro wx c;replace q := below_step q c;clear c F C B s r y A v z;go_wp2;go_roundw
   case rel => exact ⟨k + 1, by omega, by go_num, q⟩
   case measure => simp [intOf]; omega
  ·go_wp2;go_ret
   exact ⟨rfl, q⟩
abbrev CfgD := Int × Int × Int × Int
abbrev cfgR : Rep CfgD := prodR intR (prodR intR (prodR intR intR))
theorem opens_cfg : Opens Tryz.prog 23 cfgR :=
 opens_struct Tryz.underlying23 (by kernel_rfl) (opensF_cons rfl (by kernel_rfl) opens_i64 (opensF_cons rfl (by kernel_rfl) opens_i64 (opensF_cons rfl (by kernel_rfl) opens_i64 (opensF_one rfl (by kernel_rfl) opens_i64))))
theorem cfg_rd {w : World} {cs : List Value} {u : CfgD} (h : cfgR.rd w cs u) : cs = [nI u.1, nI u.2.1, nI u.2.2.1, nI u.2.2.2] ∧ In64 u.1 ∧ In64 u.2.1 ∧ In64 u.2.2.1 ∧ In64 u.2.2.2 := by
 obtain ⟨c0, e0, rfl, ⟨rfl, a⟩, c1, e1, rfl, ⟨rfl, b⟩, c2, e2, rfl, ⟨rfl, c⟩, ⟨rfl, d⟩⟩ := h;exact ⟨rfl, a, b, c, d⟩
abbrev cfgM : Mk CfgD := prodM intM (prodM intM (prodM intM intM))
theorem op_rd4 {w : World} {cs : List Value} {u : OpD} (h : opR.rd w cs u) : cs = [nI u.1, nI u.2.1, nI u.2.2.1, nI u.2.2.2] ∧ True := ⟨(op_rd h).1, trivial⟩
theorem cfg_rd4 {w : World} {cs : List Value} {u : CfgD} (h : cfgR.rd w cs u) : cs = [nI u.1, nI u.2.1, nI u.2.2.1, nI u.2.2.2] ∧ True := ⟨(cfg_rd h).1, trivial⟩
theorem own_cfg {w : World} {S : Foot} {u : CfgD} (i0 : In64 u.1) (i1 : In64 u.2.1) (i2 : In64 u.2.2.1) (i3 : In64 u.2.2.2) : cfgR.own w S [nI u.1, nI u.2.1, nI u.2.2.1, nI u.2.2.2] u := own_op (u := u) ⟨i0, i1, i2, i3⟩
theorem toOp_u : ToC 144 opR opM aggV := by
 intro cs x w h hm;obtain ⟨rfl, a⟩ := op_rd h;refine (toOp_rep x.1 x.2.1 x.2.2.1 x.2.2.2 w).mono ?_;rintro e w' ⟨rfl, b⟩;exact ⟨[_, _, _, _], rfl, own_op a, b⟩
theorem eqOp_u : EqC 168 opR opM aggV := by
 intro cs ds x w h k hm;obtain ⟨rfl, -⟩ := op_rd h;obtain ⟨rfl, -⟩ := op_rd k;exact eqOp_rep x.1 x.2.1 x.2.2.1 x.2.2.2 w
theorem toConfig_rep (k a x y : Int) (w : World) :
    Calls Tryz.prog 26 #[.agg #[nI k, nI a, nI x, nI y]] w fun e w' => e = .returned (.agg #[nI k, nI a, nI x, nI y]) ∧ Bl w w' := by
 have b : Hid (∀ o o' o'', Bl w (((w.alloc o).alloc o').alloc o'')) := fun o o' o'' => below_step (below_step (box_below w o) (box_below _ o')) (box_below _ o'');go_enter Tryz.func26, Tryz.ntmps26;go_wp2;refine bodyPost_ret (v := .agg #[nI k, nI a, nI x, nI y]) (by simp [results, Tryz.results26, go_sem]) rfl ⟨rfl, ?_⟩;exact b.out _ _ _
theorem toConfig_u : ToC 26 cfgR cfgM aggV := by
 intro cs x w h hm;obtain ⟨rfl, a, c, d, f⟩ := cfg_rd h;refine (toConfig_rep x.1 x.2.1 x.2.2.1 x.2.2.2 w).mono ?_;rintro e w' ⟨rfl, b⟩;exact ⟨[_, _, _, _], rfl, own_cfg a c d f, b⟩
theorem eqConfig_rep (k a x y : Int) (w : World) :
    Calls Tryz.prog 40 #[.agg #[nI k, nI a, nI x, nI y], .agg #[nI k, nI a, nI x, nI y]] w fun e w' => e = .returned (.bool true) ∧ Bl w w' := by
 have b : Hid (∀ o o', Bl w ((w.alloc o).alloc o')) := fun o o' => below_step (box_below w o) (box_below _ o');go_enter Tryz.func40, Tryz.ntmps40;go_wp2;go_ret
 exact ⟨rfl, b.out _ _⟩
theorem eqConfig_u : EqC 40 cfgR cfgM aggV := by
 intro cs ds x w h k hm;obtain ⟨rfl, -⟩ := cfg_rd h;obtain ⟨rfl, -⟩ := cfg_rd k;exact eqConfig_rep x.1 x.2.1 x.2.2.1 x.2.2.2 w
abbrev wayR : Rep (Int × Int × List Int) := prodR intR (prodR intR intsR)
abbrev wayM : Mk (Int × Int × List Int) := prodM intM (prodM intM intsM)
abbrev waysR : Rep (List (Int × Int × List Int)) := slR 74 wayR
abbrev waysM : Mk (List (Int × Int × List Int)) := slM wayM
abbrev setsR : Rep (List (List (Int × Int × List Int))) := slR 127 waysR
abbrev setsM : Mk (List (List (Int × Int × List Int))) := slM waysM
abbrev cacheR : Rep (List (List (Int × Int × List Int)) × List Int) := prodR setsR intsR
abbrev cacheM : Mk (List (List (Int × Int × List Int)) × List Int) := prodM setsM intsM
theorem opens_way : Opens Tryz.prog 109 wayR :=
 opens_struct Tryz.underlying109 (by kernel_rfl) (opensF_cons rfl (by kernel_rfl) opens_i64 (opensF_cons rfl (by kernel_rfl) opens_i64 (opensF_one rfl (by kernel_rfl) opens_ints)))
theorem opens_ways : Opens Tryz.prog 252 waysR := opens_slice Tryz.underlying252 (by kernel_rfl) (by decide) opens_way
theorem opens_sets : Opens Tryz.prog 105 setsR := opens_slice Tryz.underlying105 (by kernel_rfl) (by decide) opens_ways
theorem opens_cache : Opens Tryz.prog 107 cacheR :=
 opens_struct Tryz.underlying107 (by kernel_rfl) (opensF_cons rfl (by kernel_rfl) opens_sets (opensF_one rfl (by kernel_rfl) opens_ints))
theorem way_rd {w : World} {cs : List Value} {u : Int × Int × List Int} (h : wayR.rd w cs u) :
    ∃ a b, cs = [nI u.1, nI u.2.1, sL a u.2.2.length b] ∧ In64 u.1 ∧ In64 u.2.1 ∧ u.2.2.length ≤ b ∧ b ≤ maxLen ∧ SlRd intR w a u.2.2 := by
 obtain ⟨c1, c2, rfl, ⟨rfl, c⟩, c3, c4, rfl, ⟨rfl, i⟩, a, b, rfl, g, f, d⟩ := h;exact ⟨a, b, rfl, c, i, g, f, d⟩
theorem cache_rd {w : World} {cs : List Value} {c : List (List (Int × Int × List Int)) × List Int} (h : cacheR.rd w cs c) :
    ∃ a d b f, cs = [sL a c.1.length d, sL b c.2.length f] ∧ c.1.length ≤ d ∧ d ≤ maxLen ∧ c.2.length ≤ f ∧ f ≤ maxLen ∧ SlRd waysR w a c.1 ∧ SlRd intR w b c.2 := by
 obtain ⟨c1, c2, rfl, ⟨a, d, rfl, l, k, i⟩, b, f, rfl, g, m, j⟩ := h;exact ⟨a, d, b, f, rfl, l, k, g, m, i, j⟩
theorem way_own {w : World} {S : Foot} {cs : List Value} {u : Int × Int × List Int} (h : wayR.own w S cs u) :
    ∃ v, cs = [nI u.1, nI u.2.1, v] ∧ In64 u.1 ∧ In64 u.2.1 ∧ intsR.own w S [v] u.2.2 := by
 obtain ⟨c1, c2, S1, S2, rfl, ⟨rfl, j⟩, ⟨c3, c, S3, S4, rfl, ⟨rfl, g⟩, a, a3, b, d2⟩, a1, i, d⟩ := h;have f := intsR.rd_len (intsR.own_rd a);obtain ⟨v, rfl⟩ : ∃ v, c = [v] := List.length_eq_one_iff.1 f;exact ⟨v, rfl, j, g, intsR.own_mono a (b.trans i)⟩
theorem own_way {w : World} {S : Foot} {l s : Int} {d : List Int} {v : Value} (i1 : In64 l) (i2 : In64 s) (h : intsR.own w S [v] d) : wayR.own w S [nI l, nI s, v] (l, s, d) :=
 ⟨[_], [_, _], fun _ => False, S, rfl, ⟨rfl, i1⟩, ⟨[_], [_], fun _ => False, S, rfl, ⟨rfl, i2⟩, h, fun _ h => h.elim, Sub.refl _, fun _ h _ => h⟩, fun _ h => h.elim, Sub.refl _, fun _ h _ => h⟩
theorem szWay_rep (l s : Int) (d : List Int) (a : Option Addr) (cap : Nat) (left : Int) (w : World) (h0 : 0 ≤ left) (h1 : left ≤ 1048576) (hm : d.length ≤ maxLen) :
    Calls Tryz.prog 124 #[.agg #[nI l, nI s, sL a d.length cap], nI left] w fun e c => e = .returned (nI (szI (wayM.bk (l, s, d)) left)) ∧ Bl w c := by
 have i : wayM.bk (l, s, d) = intsM.bk d := by show 0 + (0 + intsM.bk d) = _; omega
 rw [i];by_cases f : (intsM.bk d : Int) ≤ left
 ·have b : Hid (szI (intsM.bk d) left = _) := szI_yes f;have g : ¬ (left - (intsM.bk d : Int) < 0) := by omega
  go_enter Tryz.func124, Tryz.ntmps124;go_wp2_with (go_at_call 120; refine (szInt64S_rep _ d _ _ _ h0 h1 hm).mono ?_; rintro e c ⟨rfl, rfl⟩; rw [b.out])
  go_ret
  exact ⟨ret_int b.out.symm, box_below w _⟩
 ·have b : Hid (szI (intsM.bk d) left = _) := szI_no f;go_enter Tryz.func124, Tryz.ntmps124;go_wp2_with (go_at_call 120; refine (szInt64S_rep _ d _ _ _ h0 h1 hm).mono ?_; rintro e c ⟨rfl, rfl⟩; rw [b.out])
  go_ret
  exact ⟨ret_int b.out.symm, box_below w _⟩
open Go.ChangeShapes Go.WideShapes Go.ChangeAt Go.RowKit Go.Shelf
section
variable {P : Program}
def Kept (B : Nat) (W W' : World) : Prop := W.heap.size ≤ W'.heap.size ∧ ∀ k, B ≤ k → k < W.heap.size → W'.heap[k]? = W.heap[k]?
theorem Kept.refl (B : Nat) (W : World) : Kept B W W := ⟨Nat.le_refl _, fun _ _ _ => rfl⟩
theorem Kept.trans {B : Nat} {U V W : World} (h : Kept B U V) (k : Kept B V W) : Kept B U W := ⟨Nat.le_trans h.1 k.1, fun i hi hl => (k.2 i hi (Nat.lt_of_lt_of_le hl h.1)).trans (h.2 i hi hl)⟩
theorem Kept.mono {B B' : Nat} {W W' : World} (h : Kept B W W') (hb : B ≤ B') : Kept B' W W' := ⟨h.1, fun i hi hl => h.2 i (Nat.le_trans hb hi) hl⟩
theorem Kept.below {B : Nat} {W W' : World} (h : Bl W W') : Kept B W W' := ⟨h.size, fun i _ hl => h.block i hl⟩
theorem Kept.chg {B : Nat} {S : Foot} {W W' : World} (h : Chg S W W') (hS : ∀ k, S k → k < B) : Kept B W W' := ⟨h.size, fun i hi hl => h.block i hl fun x => by have := hS i x; omega⟩
theorem Kept.alloc (B : Nat) (W : World) (o : Obj) : Kept B W (W.alloc o) := ⟨by simp, fun i _ hl => Below.heap_alloc W o i hl⟩
theorem Kept.put {B l : Nat} (W : World) (o : Obj) (h : l < B) : Kept B W (W.putObj l o) := ⟨by simp, fun i hi _ => World.putObj_heap_other (by omega)⟩
theorem own_later {β : Type} {B B' : Nat} {I : β → World → Prop} (h : OwnFrom B I) (hb : B ≤ B') : OwnFrom B' I := fun s W W' row hs hg hr => h s W W' row hs hg (fun r e => ⟨Nat.le_trans hb (hr r e).1, (hr r e).2⟩)
theorem own_heap {β : Type} (B k : Nat) (cs : Array Value) (t : TypeId) : OwnFrom B (fun (_ : β) W => W.heap[k]? = some (.cells cs t (0, 0))) := fun s X Y row hs hg hr => by
 refine (hg.block k (ltH hs) fun e => ?_).trans hs;obtain ⟨o, a, b⟩ := (hr k e.symm).2;rw [hs] at a;cases a;cases b
def Iter (P : Program) (g : Nat) (lb : Array Value) (args : Nat → Array Value) (N : Nat) (R : World → Prop) : Prop :=
 ∀ (l : Nat) (J Jx : Nat → World → Prop) (W : World), OwnFrom W.heap.size J → OwnFrom W.heap.size Jx → (∀ k W1, J k W1 → R W1) →
  (∀ k W1, k < N → J k W1 → YieldAt Fence.wide 0 P l (args k) W1 fun e W' => Kept W.heap.size W1 W' ∧ ((e = .returned (.bool true) ∧ J (k + 1) W') ∨ (e = .returned (.bool false) ∧ Jx k W'))) →
  J 0 W → CallsIn Fence.wide 0 P g (#[.func (.yield l) #[] #[]] ++ lb) W fun e W' => (∃ v, e = .returned v) ∧ (J N W' ∨ ∃ k, k < N ∧ Jx k W')
def roundsOn (B : Nat) (I : Nat → World → Prop) (Ix : Code → Nat → World → Prop) (k : Nat) (W : World) : Exit → Act → World → Prop
 | .normal, _, W' => Kept B W W' ∧ I (k + 1) W'
 | .ret, _, W' => Kept B W W' ∧ Ix .ret k W'
 | .exit id, _, W' => Kept B W W' ∧ Ix (.exit id) k W'
 | .goto t, _, W' => Kept B W W' ∧ Ix (.goto t) k W'
 | .panic _, _, _ => False
 | .outgrown, _, _ => False
theorem range_iter {g : Operand} {ps : Array Tmp} {assign body : Code} {Q : Exit → Act → World → Prop} {a : Act} {w : World} {gf : Nat} {lb : Array Value}
    (hg : a.eval g = .func (.func gf) #[] lb) (eg : Enters P gf)
    {args : Nat → Array Value} {N : Nat} {R : World → Prop} (it : Iter P gf lb args N R) (hps : ∀ k, (args k).size = ps.size)
    (I : Nat → World → Prop) (Ix : Code → Nat → World → Prop) (hI : OwnFrom w.heap.size I) (hIx : ∀ c, OwnFrom w.heap.size (Ix c)) (hR : ∀ k W, I k W → R W) (h0 : I 0 w) (A : Nat → Act → World → Prop) (hA : ∀ k F, OwnFrom w.heap.size (fun (_ : Unit) W => A k F W))
    (hassign : ∀ (k : Nat) (W : World) (K : Act → World → Prop), k < N → I k W → w.heap.size + 1 < W.heap.size → (∀ F W', Kept w.heap.size W W' → A k F W' → K F W') → assign.wpIn (Fence.wide.inRound (w.heap.size + 1)) 0 P (Exit.then K (fun _ _ _ => False)) { tmps := (ps.zip (args k)).foldl (fun t (p, v) => t.setIfInBounds p v) a.tmps, defers := [] } W)
    (hbody : ∀ (k : Nat) (F : Act) (W : World), k < N → A k F W → w.heap.size + 1 < W.heap.size → W.heap[w.heap.size]? = some (.deferred (some [])) → (∃ r, W.heap[w.heap.size + 1]? = some (.loop r)) → body.wpIn (Fence.wide.inRound (w.heap.size + 1)) 0 P (roundsOn w.heap.size I Ix k W) F W)
    (hdone : ∀ W, I N W → W.heap[w.heap.size]? = some (.deferred (some [])) → Q .normal { a with defers := { target := .collected w.heap.size, args := #[] } :: a.defers } W)
    (hstop : ∀ c k W, k < N → Ix c k W → W.heap[w.heap.size]? = some (.deferred (some [])) → c.wpIn Fence.wide 0 P Q { a with defers := { target := .collected w.heap.size, args := #[] } :: a.defers } W) :
    (Code.rangeFunc g ps assign body).wpIn Fence.wide 0 P Q a w := by
 refine wpIn_rangeFunc fun fn hfn => ?_;let lp : LoopState → Option Code → Obj := fun Z Y => .loop { state := Z, pending := Y, fn, tmps := a.tmps, params := ps, assign, body, defers := w.heap.size }
 have J : ∀ {A B : World} {f : Option Nat} {Z : LoopState} {Y : Option Code}, A.grownBy B f → (∀ r, f = some r → w.heap.size + 2 ≤ r ∧ ∃ o : Obj, A.heap[r]? = some o ∧ o.isCells = false) → A.heap[w.heap.size + 1]? = some (lp Z Y) → A.heap[w.heap.size]? = some (.deferred (some [])) →
     B.heap[w.heap.size + 1]? = some (lp Z Y) ∧ B.heap[w.heap.size]? = some (.deferred (some [])) := by
  intro A B f Z Y i d M h2;have l1 := (ltH M);refine ⟨(i.block _ l1 fun e => ?_).trans M, (i.block _ (by omega) fun e => ?_).trans h2⟩
  ·have := (d _ e.symm).1;omega
  ·have := (d _ e.symm).1;omega
 have H : ∀ {A B : World} {f : Option Nat}, (∀ r, f = some r → w.heap.size + 2 ≤ r ∧ ∃ o : Obj, A.heap[r]? = some o ∧ o.isCells = false) → ∀ r, f = some r → w.heap.size ≤ r ∧ ∃ o : Obj, A.heap[r]? = some o ∧ o.isCells = false :=
  fun d r e => ⟨by have := (d r e).1; omega, (d r e).2⟩
 have X : ((w.alloc (.deferred (some []))).alloc (lp .ready none)).heap.size = w.heap.size + 2 := by simp
 refine ⟨w.heap.size + 1, [{ target := .collected w.heap.size, args := #[] }], (w.alloc (.deferred (some []))).alloc (lp .ready none), { target := .fn (.func gf) lb, args := #[.func (.yield (w.heap.size + 1)) #[] #[]] }, (w.alloc (.deferred (some []))).alloc (lp .ready none), gf,
  #[.func (.yield (w.heap.size + 1)) #[] #[]] ++ lb, (w.alloc (.deferred (some []))).alloc (lp .ready none), run_enterLoop_outer _ _ _ _ _, ?_, fun _ _ => trivial, ?_, (fun h => by cases h), ?_⟩
 ·simp only [resolve, hg];simp [go_sem]
 ·have gA : ∀ args w, (callFunc gf args).run P w = .ok (.enter gf args) w := eg;simp [invoke, go_sem, gA]
 refine (it (w.heap.size + 1) (fun k W => I k W ∧ W.heap[w.heap.size + 1]? = some (lp .ready none) ∧ W.heap[w.heap.size]? = some (.deferred (some [])))
  (fun k W => ∃ c, Ix c k W ∧ W.heap[w.heap.size + 1]? = some (lp .done (some c)) ∧ W.heap[w.heap.size]? = some (.deferred (some []))) _ ?_ ?_ (fun k W h => hR k W h.1) ?_ ⟨?_, ?_, ?_⟩).mono ?_
 ·rintro k A B f ⟨M, h2, h3⟩ i d;rw [X] at d;exact ⟨hI k A B f M i (H (B := B) d), J i d h2 h3⟩
 ·rintro k A B f ⟨c, M, h2, h3⟩ i d;rw [X] at d;exact ⟨c, hIx c k A B f M i (H (B := B) d), J i d h2 h3⟩
 ·rintro k W hk ⟨S, C, L⟩;have z := (ltH C);refine ⟨fn, _, assign, body, run_yield C (hps k), roundIn_of_wpIn hfn (hassign k W _ hk S z ?_)⟩;clear S;intro F Wa m fA;replace C := (m.2 _ (by omega) z).trans C;replace L := (m.2 _ (Nat.le_refl _) (by omega)).trans L;clear z;replace m : Kept ((w.alloc (.deferred (some []))).alloc (lp .ready none)).heap.size W Wa := m.mono (by rw [X]; omega);have U : ∀ V o, Kept ((w.alloc (.deferred (some []))).alloc (lp .ready none)).heap.size V (V.putObj (w.heap.size + 1) o) := fun V o => Kept.put V o (by rw [X]; omega);revert m
  generalize W = Wb;intro m;obtain ⟨W, rfl⟩ : ∃ W, W = Wa := ⟨_, rfl⟩;have z := (ltH C);refine ⟨_, run_beginRound C rfl, ?_⟩;have T : (W.putObj (w.heap.size + 1) (lp .busy none)).heap[w.heap.size + 1]? = some (lp .busy none) := World.putObj_heap_same z;have aA : (W.putObj (w.heap.size + 1) (lp .busy none)).heap[w.heap.size]? = some (.deferred (some [])) := (World.putObj_heap_other (by omega)).trans L;refine wpIn_mono (hbody k F _ hk ((hA k F).putObj (s := ()) _ fA (by omega) C rfl) (by simpa using z) aA ⟨_, T⟩) ?_;have G : ∀ (b : Option Code) (D : World), Kept w.heap.size (W.putObj (w.heap.size + 1) (lp .busy none)) D →
      Kept ((w.alloc (.deferred (some []))).alloc (lp .ready none)).heap.size Wb (D.putObj (w.heap.size + 1) (lp (if b.isNone then .ready else .done) b)) ∧
      (Instr.endRound (w.heap.size + 1) b).run P D = .ok (.bool b.isNone) (D.putObj (w.heap.size + 1) (lp (if b.isNone then .ready else .done) b)) ∧ D.heap[w.heap.size + 1]? = some (lp .busy none) ∧
      (D.putObj (w.heap.size + 1) (lp (if b.isNone then .ready else .done) b)).heap[w.heap.size + 1]? = some (lp (if b.isNone then .ready else .done) b) ∧
      (D.putObj (w.heap.size + 1) (lp (if b.isNone then .ready else .done) b)).heap[w.heap.size]? = some (.deferred (some [])) := by
   intro b D E;have e2 := (E.2 _ (by omega) (by simpa using z)).trans T;have e1 := (E.2 _ (Nat.le_refl _) (by simp; omega)).trans aA;exact ⟨((m.trans (U _ _)).trans (E.mono (by rw [X]; omega))).trans (U _ _), run_endRound b e2, e2, World.putObj_heap_same (ltH e2), (World.putObj_heap_other (by omega)).trans e1⟩
  intro e a3 D O;cases e with
  | normal =>
   obtain ⟨E, q⟩ := O;obtain ⟨y, d, j, l, n⟩ := G none D E;exact ⟨_, _, d, y, .inl ⟨rfl, hI.putObj _ q (by omega) j rfl, l, n⟩⟩
  | ret =>
   obtain ⟨E, q⟩ := O;obtain ⟨y, d, j, l, n⟩ := G (some .ret) D E;exact ⟨_, _, d, y, .inr ⟨rfl, .ret, (hIx _).putObj _ q (by omega) j rfl, l, n⟩⟩
  | exit id =>
   obtain ⟨E, q⟩ := O;obtain ⟨y, d, j, l, n⟩ := G (some (.exit id)) D E;exact ⟨_, _, d, y, .inr ⟨rfl, .exit id, (hIx _).putObj _ q (by omega) j rfl, l, n⟩⟩
  | goto t =>
   obtain ⟨E, q⟩ := O;obtain ⟨y, d, j, l, n⟩ := G (some (.goto t)) D E;exact ⟨_, _, d, y, .inr ⟨rfl, .goto t, (hIx _).putObj _ q (by omega) j rfl, l, n⟩⟩
  | panic ch => exact O.elim
  | outgrown => exact O.elim
 ·exact hI.alloc _ (hI.alloc _ h0)
 ·have := World.alloc_heap_new (w.alloc (.deferred (some []))) (lp .ready none);rwa [World.size_alloc] at this
 ·exact (Below.heap_alloc _ _ _ (by simp)).trans (World.alloc_heap_new w _)
 ·rintro e W ⟨⟨v, rfl⟩, ⟨S, C, L⟩ | ⟨k, hk, c, S, C, L⟩⟩
  ·exact ⟨none, _, run_endLoop C (by simp), hdone _ (hI.putObj _ S (by omega) C rfl) ((World.putObj_heap_other (by omega)).trans L)⟩
  ·exact ⟨some c, _, run_endLoop C (by simp), hstop c k _ hk ((hIx c).putObj _ S (by omega) C rfl) ((World.putObj_heap_other (by omega)).trans L)⟩
end
open Go.RowKit
abbrev WayD := Int × Int × List Int
abbrev CacheD := List (List WayD) × List Int
def emptyW : WayD := (-1, 0, [])
def clearB (u : WayD) : Bool := decide (u.1 = -1 ∧ u.2.1 = 0 ∧ u.2.2 = [])
def pow3 (n : Nat) : Prop := n = 1 ∨ n = 2 ∨ n = 4
section
variable (ln : List Int → Bool) (tok : Int → Int → Bool) (tou : Int → Int → Int → Int) (vic : Int → Int → Int)
def fullB (u : WayD) : Bool := decide ((0 ≤ u.1 ∧ u.1 ≤ 15) ∧ (1 ≤ u.2.1 ∧ u.2.1 ≤ 3) ∧ ln u.2.2 = true)
def RowOk (n s : Nat) (row : List WayD) : Prop :=
 (∀ (i : Nat) (u : WayD), row[i]? = some u → clearB u = true ∨ (fullB ln u = true ∧ u.1 % (n : Int) = s)) ∧
 ∀ (i k : Nat) (u x : WayD), row[i]? = some u → row[k]? = some x → 0 ≤ u.1 → u.1 = x.1 → i = k
def OkC (c : CacheD) : Prop :=
 pow3 c.1.length ∧ c.2.length = c.1.length ∧ ∃ m, pow3 m ∧ ∀ (s : Nat) (row : List WayD), c.1[s]? = some row → row.length = m ∧ (∃ t, c.2[s]? = some t ∧ tok t m = true) ∧ RowOk ln c.1.length s row
def setNo (c : CacheD) (line : Int) : Nat := (line % (c.1.length : Int)).toNat
def rowFor (c : CacheD) (line : Int) : List WayD := c.1.getD (setNo c line) []
def atC (c : CacheD) (line : Int) : Option Nat := if line < 0 then none else (rowFor c line).findIdx? fun u => u.1 == line
open Classical in
noncomputable def okB (c : CacheD) : Bool := decide (OkC ln tok c)
end
section
variable {ln : List Int → Bool} {tok : Int → Int → Bool} {tou : Int → Int → Int → Int} {vic : Int → Int → Int}
theorem okB_iff {c : CacheD} : okB ln tok c = true ↔ OkC ln tok c := by simp [okB]
theorem clear_eq {u : WayD} (h : clearB u = true) : u = emptyW := by
 simp [clearB] at h
 obtain ⟨a, b, d⟩ := u;simp at h
 simp [emptyW, h]
theorem full_line {u : WayD} (h : fullB ln u = true) : 0 ≤ u.1 ∧ u.1 ≤ 15 := by
 simp [fullB] at h
 exact h.1
theorem pow3_pos {n : Nat} (h : pow3 n) : 0 < n := by rcases h with h | h | h <;> omega
theorem setNo_lt {c : CacheD} {line : Int} (h : pow3 c.1.length) : setNo c line < c.1.length := by
 have := pow3_pos h;have h1 := Int.emod_nonneg line (show (c.1.length : Int) ≠ 0 by omega);have h2 := Int.emod_lt_of_pos line (show (0 : Int) < c.1.length by omega);unfold setNo;omega
theorem setNo_cast {c : CacheD} {line : Int} (h : pow3 c.1.length) : ((setNo c line : Nat) : Int) = line % (c.1.length : Int) := by
 have := pow3_pos h;have h1 := Int.emod_nonneg line (show (c.1.length : Int) ≠ 0 by omega);unfold setNo;omega
theorem rowFor_get {c : CacheD} {line : Int} (h : pow3 c.1.length) : c.1[setNo c line]? = some (rowFor c line) := by
 have := setNo_lt (line := line) h;unfold rowFor;rw [List.getD_eq_getElem?_getD, List.getElem?_eq_getElem this];rfl
theorem idx_some {p : WayD → Bool} {row : List WayD} {i : Nat} (h : row.findIdx? p = some i) : ∃ u, row[i]? = some u ∧ p u = true := by
 rw [List.findIdx?_eq_some_iff_getElem] at h;obtain ⟨b, a, _⟩ := h;exact ⟨row[i], List.getElem?_eq_getElem b, a⟩
theorem idx_none {p : WayD → Bool} {row : List WayD} (h : row.findIdx? p = none) {i : Nat} {u : WayD} (hu : row[i]? = some u) : p u = false := by
 rw [List.findIdx?_eq_none_iff] at h;exact by simpa using h u (List.mem_of_getElem? hu)
theorem idx_of {p : WayD → Bool} {row : List WayD} {i : Nat} {u : WayD} (hu : row[i]? = some u) (hp : p u = true) : ∃ k, row.findIdx? p = some k := by
 cases h : row.findIdx? p with
 | none => rw [idx_none h hu] at hp; cases hp
 | some k => exact ⟨k, rfl⟩
theorem at_some {c : CacheD} {line : Int} {i : Nat} (h : atC c line = some i) : 0 ≤ line ∧ ∃ u, (rowFor c line)[i]? = some u ∧ u.1 = line := by
 unfold atC at h;split at h
 ·cases h
 ·obtain ⟨u, b, a⟩ := idx_some h;exact ⟨by omega, u, b, by simpa using a⟩
theorem at_of {c : CacheD} {line : Int} (h0 : 0 ≤ line) {i : Nat} {u : WayD} (hu : (rowFor c line)[i]? = some u) (hl : u.1 = line) : ∃ k, atC c line = some k := by
 unfold atC;rw [if_neg (by omega)];exact idx_of hu (by simp [hl])
theorem at_iff {c : CacheD} {l : Int} {k : Nat} {u : WayD} (hr : ∀ (i k : Nat) (u x : WayD), (rowFor c l)[i]? = some u → (rowFor c l)[k]? = some x → 0 ≤ u.1 → u.1 = x.1 → i = k) (h0 : 0 ≤ l) (hu : (rowFor c l)[k]? = some u) (hl : u.1 = l) : atC c l = some k := by
 obtain ⟨j, a⟩ := at_of h0 hu hl;obtain ⟨_, x, b, he⟩ := at_some a;rw [a, hr j k x u b hu (by omega) (by omega)]
theorem getD_of {row : List WayD} {i : Nat} {u : WayD} (h : row[i]? = some u) : row.getD i emptyW = u := by
 rw [List.getD_eq_getElem?_getD, h];rfl
end
end Go.Proofs.YtdamokokcdcedaaGreatDoor
