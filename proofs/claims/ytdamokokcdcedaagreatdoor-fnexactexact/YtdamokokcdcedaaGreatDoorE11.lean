import Derived.Test.YtdamokokcdcedaaGreatDoorE00Box
import Derived.Test.YtdamokokcdcedaaGreatDoorE03
namespace Go.Proofs.YtdamokokcdcedaaGreatDoor
set_option maxHeartbeats 2000000
open Go.ChangeShapes Go.WideShapes Go.ChangeAt Go.RowKit
set_option linter.unusedVariables false
abbrev OpD := Int × Int × Int × Int
abbrev opR : Rep OpD := prodR intR (prodR intR (prodR intR intR))
abbrev opM : Mk OpD := prodM intM (prodM intM (prodM intM intM))
abbrev opsR : Rep (List OpD) := slR 133 opR
abbrev opsM : Mk (List OpD) := slM opM
def In4 (u : OpD) : Prop := In64 u.1 ∧ In64 u.2.1 ∧ In64 u.2.2.1 ∧ In64 u.2.2.2
theorem opens_op : Opens Tryz.prog 118 opR :=
 opens_struct Tryz.underlying118 (by kernel_rfl) (opensF_cons rfl (by kernel_rfl) opens_i64 (opensF_cons rfl (by kernel_rfl) opens_i64 (opensF_cons rfl (by kernel_rfl) opens_i64 (opensF_one rfl (by kernel_rfl) opens_i64))))
theorem opens_ops : Opens Tryz.prog 108 opsR := opens_slice Tryz.underlying108 (by kernel_rfl) (by decide) opens_op
theorem op_rd {w : World} {cs : List Value} {u : OpD} (h : opR.rd w cs u) : cs = [nI u.1, nI u.2.1, nI u.2.2.1, nI u.2.2.2] ∧ In4 u := by
 obtain ⟨c0, e0, rfl, ⟨rfl, c⟩, c1, e1, rfl, ⟨rfl, d⟩, c2, e2, rfl, ⟨rfl, a⟩, ⟨rfl, b⟩⟩ := h;exact ⟨rfl, c, d, a, b⟩
theorem own_op {w : World} {S : Foot} {u : OpD} (h : In4 u) : opR.own w S [nI u.1, nI u.2.1, nI u.2.2.1, nI u.2.2.2] u :=
 ⟨[_], [_, _, _], fun _ => False, S, rfl, ⟨rfl, h.1⟩, ⟨[_], [_, _], fun _ => False, S, rfl, ⟨rfl, h.2.1⟩, ⟨[_], [_], fun _ => False, S, rfl, ⟨rfl, h.2.2.1⟩, ⟨rfl, h.2.2.2⟩, fun _ h => h.elim, Sub.refl _, fun _ h _ => h⟩, fun _ h => h.elim, Sub.refl _, fun _ h _ => h⟩, fun _ h => h.elim, Sub.refl _, fun _ h _ => h⟩
theorem made_op {w w' : World} {u : OpD} (h : In4 u) (hb : Bl w w') : MadeR opR w w' [nI u.1, nI u.2.1, nI u.2.2.1, nI u.2.2.2] u := ⟨own_op h, hb⟩
theorem sumbk_ops (xs : List OpD) : sumbk opM xs = 0 := by
 induction xs with
 | nil => rfl
 | cons x xs ih => simp only [sumbk, List.map_cons, List.sum_cons] at ih ⊢; rw [ih]; rfl
theorem bk_ops (xs : List OpD) : opsM.bk xs = xs.length := by
 have b : opsM.bk xs = xs.length + sumbk opM xs := rfl;rw [b, sumbk_ops]; rfl
theorem op_at {w : World} {a : Option Addr} {xs : List OpD} (h : SlRd opR w a xs) {k : Nat} {x : OpD} (hx : xs[k]? = some x) : ∃ b c, a = some ⟨b, c, none⟩ ∧ w.cell? ⟨b, c + k * 4, none⟩ = some (nI x.1) ∧ w.cell? ⟨b, c + k * 4 + 1, none⟩ = some (nI x.2.1) ∧ w.cell? ⟨b, c + k * 4 + 2, none⟩ = some (nI x.2.2.1) ∧ w.cell? ⟨b, c + k * 4 + 3, none⟩ = some (nI x.2.2.2) ∧ In4 x := by
 obtain ⟨b, c, cs, rfl, f, d⟩ := slrd_at h hx;obtain ⟨rfl, g⟩ := op_rd f;exact ⟨b, c, rfl, d 0 _ rfl, d 1 _ rfl, d 2 _ rfl, d 3 _ rfl, g⟩
theorem szOpS_rep (a : Option Addr) (xs : List OpD) (cap : Nat) (left : Int) (w : World) (h0 : 0 ≤ left) (h1 : left ≤ 1048576) (hm : xs.length ≤ maxLen) :
    Calls Tryz.prog 123 #[sL a xs.length cap, nI left] w fun e w' => e = .returned (nI (szI (opsM.bk xs) left)) ∧ w' = w := by
 have f : xs.length ≤ 9223372036854775807 := hm;rw [bk_ops];by_cases d : (xs.length : Int) ≤ left
 ·have b : Hid (szI xs.length left = _) := szI_yes d;have c : ¬ (left - (xs.length : Int) < 0) := by omega
  go_enter Tryz.func123, Tryz.ntmps123;go_wp2;go_ret
  exact ⟨ret_int b.out.symm, rfl⟩
 ·have b : Hid (szI xs.length left = _) := szI_no d;have c : left - (xs.length : Int) < 0 := by omega
  go_enter Tryz.func123, Tryz.ntmps123;go_wp2;go_ret
  exact ⟨ret_int b.out.symm, rfl⟩
theorem toOp_rep (k a x y : Int) (w : World) :
    Calls Tryz.prog 144 #[.agg #[nI k, nI a, nI x, nI y]] w fun e w' => e = .returned (.agg #[nI k, nI a, nI x, nI y]) ∧ Bl w w' := by
 have b : Hid (∀ o o' o'', Bl w (((w.alloc o).alloc o').alloc o'')) := fun o o' o'' => below_step (below_step (box_below w o) (box_below _ o')) (box_below _ o'');go_enter Tryz.func144, Tryz.ntmps144;go_wp2;refine bodyPost_ret (v := .agg #[nI k, nI a, nI x, nI y]) (by simp [results, Tryz.results144, go_sem]) rfl ⟨rfl, ?_⟩;exact b.out _ _ _
theorem Tryz.infoOp : (Tryz.prog.info? 133).map (fun i => (i.zero, i.size, i.bytes)) = some (some (.agg #[nI 0, nI 0, nI 0, nI 0]), 4, 32) := by kernel_rfl
theorem toOpS_rep (a : Option Addr) (xs : List OpD) (cap : Nat) (w : World) (h : SlRd opR w a xs) (hm : opsM.bk xs ≤ 1048576) :
    Calls Tryz.prog 141 #[sL a xs.length cap] w fun e w' => ∃ v, e = .returned v ∧ MadeR opsR w w' [v] xs := by
 rw [bk_ops] at hm;have M : Hid (SlRd opR w a xs) := h;clear h;have o := run_make_wide (P := Tryz.prog) 96 133 (.agg #[nI 0, nI 0, nI 0, nI 0]) 4 32 Tryz.underlying96 Tryz.infoOp xs.length (by omega) (by omega);go_enter Tryz.func141, Tryz.ntmps141;go_wp2;go_loopw [4] (fun i wr => ∃ k : Nat, k ≤ xs.length ∧ i = nI k ∧ Fill 133 opR w wr xs.length (xs.take k)) (fun i _ => xs.length - (intOf i).toNat)
 case atStart => exact ⟨0, Nat.zero_le _, rfl, by simpa using fillR_start (e := 133) (R := opR) (w0 := w) (n := xs.length) (cs := madeCells #[nI 0, nI 0, nI 0, nI 0] (xs.length * 4)) (by unfold maxLen; omega) (by rw [size_madeCells]; rfl)⟩
 case round =>
  obtain ⟨k, hk, rfl, d⟩ := hrel;by_cases j : k < xs.length
  ·have A : (k : Int) < (xs.length : Int) := by omega
   obtain ⟨x, q⟩ : ∃ x, xs[k]? = some x := ⟨_, List.getElem?_eq_getElem j⟩;obtain ⟨b, G, rfl, E, I, L, J, C⟩ := op_at (slrd_next M.out (fill_below d)) q;have z : Hid (∀ w1 c, MadeR opR wr w1 c x → _) := fun w1 c hm => fillR_step (w1 := w1) (c := c) d (by simp; omega) j hm;have F : Hid (xs.take k ++ [x] = xs.take (k + 1)) := by unfold Hid; rw [List.take_add_one, q]; rfl
   have D : Hid (In4 x) := C;clear q o d C;go_wp2_with fail
   refine (toOp_rep x.1 x.2.1 x.2.2.1 x.2.2.2 _).mono ?_;rintro e w1 ⟨rfl, B⟩;obtain ⟨f, g, p⟩ := z.out _ _ (made_op D.out B);obtain ⟨v0, y⟩ := f 0 (by decide);obtain ⟨v1, r⟩ := f 1 (by decide);obtain ⟨v2, s⟩ := f 2 (by decide);obtain ⟨v3, m⟩ := f 3 (by decide);have z0 := g (k * 4);have z1 := g (k * 4 + 1);have z2 := g (k * 4 + 2);have z3 := g (k * 4 + 3);rw [show k * opR.size + 0 = k * 4 from rfl] at y;rw [show k * opR.size + 1 = k * 4 + 1 from rfl] at r;rw [show k * opR.size + 2 = k * 4 + 2 from rfl] at s;rw [show k * opR.size + 3 = k * 4 + 3 from rfl] at m;rw [F.out] at p;have K : Hid _ := p;clear p B f g z E I L J;go_wp2;go_roundw
   case rel => exact ⟨k + 1, by omega, by go_num, K.out⟩
   case measure => simp [intOf]; omega
  ·have l : k = xs.length := by omega
   subst l;rw [List.take_length] at d;have H := fillR_end d rfl;clear d;go_wp2;go_ret
   exact ⟨_, rfl, H⟩
theorem eqOp_rep (k a x y : Int) (w : World) :
    Calls Tryz.prog 168 #[.agg #[nI k, nI a, nI x, nI y], .agg #[nI k, nI a, nI x, nI y]] w fun e w' => e = .returned (.bool true) ∧ Bl w w' := by
 have b : Hid (∀ o o', Bl w ((w.alloc o).alloc o')) := fun o o' => below_step (box_below w o) (box_below _ o');go_enter Tryz.func168, Tryz.ntmps168;go_wp2;go_ret
 exact ⟨rfl, b.out _ _⟩
theorem eqOpS_rep (a1 a2 : Option Addr) (xs : List OpD) (c1 c2 : Nat) (w : World) (h1 : SlRd opR w a1 xs) (h2 : SlRd opR w a2 xs) (hm : opsM.bk xs ≤ 1152921504606846976) :
    Calls Tryz.prog 165 #[sL a1 xs.length c1, sL a2 xs.length c2] w fun e w' => e = .returned (.bool true) ∧ Bl w w' := by
 rw [bk_ops] at hm;have K : Hid (∀ W, Bl w W → SlRd opR W a1 xs) := fun W hb => slrd_keep h1 fun k D => hb.block k D;have J : Hid (∀ W, Bl w W → SlRd opR W a2 xs) := fun W hb => slrd_keep h2 fun k D => hb.block k D;clear h1 h2;go_enter Tryz.func165, Tryz.ntmps165;go_wp2;go_loopw [5] (fun i wr => ∃ k : Nat, k ≤ xs.length ∧ i = nI k ∧ Bl w wr) (fun i _ => xs.length - (intOf i).toNat)
 case atStart => exact ⟨0, Nat.zero_le _, rfl, Below.refl _ _⟩
 case round =>
  obtain ⟨k, D, rfl, q⟩ := hrel;by_cases F : k < xs.length
  ·have I : (k : Int) < (xs.length : Int) := by omega
   obtain ⟨x, H⟩ : ∃ x, xs[k]? = some x := ⟨_, List.getElem?_eq_getElem F⟩;obtain ⟨E, b, rfl, g, d, l, c, -⟩ := op_at (K.out _ q) H;obtain ⟨j, a, rfl, f, o, p, m, -⟩ := op_at (J.out _ q) H;have v : ∀ n : Cls (fun wx => Bl wr wx), n.w.cell? ⟨E, b + k * 4, none⟩ = some (nI x.1) := fun n => cell_keep n.h g (cell_lt g);have A : ∀ n : Cls (fun wx => Bl wr wx), n.w.cell? ⟨E, b + k * 4 + 1, none⟩ = some (nI x.2.1) := fun n => cell_keep n.h d (cell_lt d);have C : ∀ n : Cls (fun wx => Bl wr wx), n.w.cell? ⟨E, b + k * 4 + 2, none⟩ = some (nI x.2.2.1) := fun n => cell_keep n.h l (cell_lt l);have y : ∀ n : Cls (fun wx => Bl wr wx), n.w.cell? ⟨E, b + k * 4 + 3, none⟩ = some (nI x.2.2.2) := fun n => cell_keep n.h c (cell_lt c);have r : ∀ n : Cls (fun wx => Bl wr wx), n.w.cell? ⟨j, a + k * 4, none⟩ = some (nI x.1) := fun n => cell_keep n.h f (cell_lt f);have B : ∀ n : Cls (fun wx => Bl wr wx), n.w.cell? ⟨j, a + k * 4 + 1, none⟩ = some (nI x.2.1) := fun n => cell_keep n.h o (cell_lt o);have z : ∀ n : Cls (fun wx => Bl wr wx), n.w.cell? ⟨j, a + k * 4 + 2, none⟩ = some (nI x.2.2.1) := fun n => cell_keep n.h p (cell_lt p);have s : ∀ n : Cls (fun wx => Bl wr wx), n.w.cell? ⟨j, a + k * 4 + 3, none⟩ = some (nI x.2.2.2) := fun n => cell_keep n.h m (cell_lt m);clear H g d l c f o p m;go_wp2_with fail
   refine region_class (fun wx => Bl wr wx) (by kernel_rfl) (by kernel_rfl) ((Below.refl _ wr).drew) ?_;intro G;repeat (quiet_step ((go_at_call 168; exact calls_class (eqOp_rep x.1 x.2.1 x.2.2.1 x.2.2.2 _) (fun w' hc bb => below_step hc bb))))
   refine wpQuiet_nil ?_;intro wx j;replace q := below_step q j;clear j G v r A B C z y s;go_wp2;go_roundw
   case rel => exact ⟨k + 1, by omega, by go_num, q⟩
   case measure => simp [intOf]; omega
  ·go_wp2;go_ret
   exact ⟨rfl, q⟩
abbrev CfgD := Int × Int × Int × Int
abbrev cfgR : Rep CfgD := prodR intR (prodR intR (prodR intR intR))
theorem opens_cfg : Opens Tryz.prog 23 cfgR :=
 opens_struct Tryz.underlying23 (by kernel_rfl) (opensF_cons rfl (by kernel_rfl) opens_i64 (opensF_cons rfl (by kernel_rfl) opens_i64 (opensF_cons rfl (by kernel_rfl) opens_i64 (opensF_one rfl (by kernel_rfl) opens_i64))))
theorem cfg_rd {w : World} {cs : List Value} {u : CfgD} (h : cfgR.rd w cs u) : cs = [nI u.1, nI u.2.1, nI u.2.2.1, nI u.2.2.2] ∧ In64 u.1 ∧ In64 u.2.1 ∧ In64 u.2.2.1 ∧ In64 u.2.2.2 := by
 obtain ⟨c0, e0, rfl, ⟨rfl, c⟩, c1, e1, rfl, ⟨rfl, d⟩, c2, e2, rfl, ⟨rfl, a⟩, ⟨rfl, b⟩⟩ := h;exact ⟨rfl, c, d, a, b⟩
abbrev cfgM : Mk CfgD := prodM intM (prodM intM (prodM intM intM))
theorem op_rd4 {w : World} {cs : List Value} {u : OpD} (h : opR.rd w cs u) : cs = [nI u.1, nI u.2.1, nI u.2.2.1, nI u.2.2.2] ∧ True := ⟨(op_rd h).1, trivial⟩
theorem cfg_rd4 {w : World} {cs : List Value} {u : CfgD} (h : cfgR.rd w cs u) : cs = [nI u.1, nI u.2.1, nI u.2.2.1, nI u.2.2.2] ∧ True := ⟨(cfg_rd h).1, trivial⟩
theorem own_cfg {w : World} {S : Foot} {u : CfgD} (i0 : In64 u.1) (i1 : In64 u.2.1) (i2 : In64 u.2.2.1) (i3 : In64 u.2.2.2) : cfgR.own w S [nI u.1, nI u.2.1, nI u.2.2.1, nI u.2.2.2] u := own_op (u := u) ⟨i0, i1, i2, i3⟩
theorem toOp_u : ToC 144 opR opM aggV := by
 intro cs x w h hm;obtain ⟨rfl, a⟩ := op_rd h;refine (toOp_rep x.1 x.2.1 x.2.2.1 x.2.2.2 w).mono ?_;rintro e w' ⟨rfl, b⟩;exact ⟨[_, _, _, _], rfl, own_op a, b⟩
theorem eqOp_u : EqC 168 opR opM aggV := by
 intro cs ds x w h k hm;obtain ⟨rfl, -⟩ := op_rd h;obtain ⟨rfl, -⟩ := op_rd k;exact eqOp_rep x.1 x.2.1 x.2.2.1 x.2.2.2 w
theorem toConfig_rep (k a x y : Int) (w : World) :
    Calls Tryz.prog 26 #[.agg #[nI k, nI a, nI x, nI y]] w fun e w' => e = .returned (.agg #[nI k, nI a, nI x, nI y]) ∧ Bl w w' := by
 have b : Hid (∀ o o' o'', Bl w (((w.alloc o).alloc o').alloc o'')) := fun o o' o'' => below_step (below_step (box_below w o) (box_below _ o')) (box_below _ o'');go_enter Tryz.func26, Tryz.ntmps26;go_wp2;refine bodyPost_ret (v := .agg #[nI k, nI a, nI x, nI y]) (by simp [results, Tryz.results26, go_sem]) rfl ⟨rfl, ?_⟩;exact b.out _ _ _
theorem toConfig_u : ToC 26 cfgR cfgM aggV := by
 intro cs x w h hm;obtain ⟨rfl, d, f, a, c⟩ := cfg_rd h;refine (toConfig_rep x.1 x.2.1 x.2.2.1 x.2.2.2 w).mono ?_;rintro e w' ⟨rfl, b⟩;exact ⟨[_, _, _, _], rfl, own_cfg d f a c, b⟩
theorem eqConfig_rep (k a x y : Int) (w : World) :
    Calls Tryz.prog 40 #[.agg #[nI k, nI a, nI x, nI y], .agg #[nI k, nI a, nI x, nI y]] w fun e w' => e = .returned (.bool true) ∧ Bl w w' := by
 have b : Hid (∀ o o', Bl w ((w.alloc o).alloc o')) := fun o o' => below_step (box_below w o) (box_below _ o');go_enter Tryz.func40, Tryz.ntmps40;go_wp2;go_ret
 exact ⟨rfl, b.out _ _⟩
theorem eqConfig_u : EqC 40 cfgR cfgM aggV := by
 intro cs ds x w h k hm;obtain ⟨rfl, -⟩ := cfg_rd h;obtain ⟨rfl, -⟩ := cfg_rd k;exact eqConfig_rep x.1 x.2.1 x.2.2.1 x.2.2.2 w
abbrev MsgD := Int × Int × Int × Int × Int × List Int × Int
abbrev msgR : Rep MsgD := prodR intR (prodR intR (prodR intR (prodR intR (prodR intR (prodR intsR intR)))))
abbrev msgM : Mk MsgD := prodM intM (prodM intM (prodM intM (prodM intM (prodM intM (prodM intsM intM)))))
abbrev msgsR : Rep (List MsgD) := slR 131 msgR
abbrev msgsM : Mk (List MsgD) := slM msgM
theorem opens_msg : Opens Tryz.prog 115 msgR :=
 opens_struct Tryz.underlying115 (by kernel_rfl) (opensF_cons rfl (by kernel_rfl) opens_i64 (opensF_cons rfl (by kernel_rfl) opens_i64 (opensF_cons rfl (by kernel_rfl) opens_i64 (opensF_cons rfl (by kernel_rfl) opens_i64 (opensF_cons rfl (by kernel_rfl) opens_i64 (opensF_cons rfl (by kernel_rfl) opens_ints (opensF_one rfl (by kernel_rfl) opens_i64)))))))
theorem opens_msgs : Opens Tryz.prog 32 msgsR := opens_slice Tryz.underlying32 (by kernel_rfl) (by decide) opens_msg
theorem msg_rd {w : World} {cs : List Value} {u : MsgD} (h : msgR.rd w cs u) :
    ∃ a b, cs = [nI u.1, nI u.2.1, nI u.2.2.1, nI u.2.2.2.1, nI u.2.2.2.2.1, sL a u.2.2.2.2.2.1.length b, nI u.2.2.2.2.2.2] ∧ In64 u.1 ∧ In64 u.2.1 ∧ In64 u.2.2.1 ∧ In64 u.2.2.2.1 ∧ In64 u.2.2.2.2.1 ∧ In64 u.2.2.2.2.2.2 ∧ u.2.2.2.2.2.1.length ≤ b ∧ b ≤ maxLen ∧ SlRd intR w a u.2.2.2.2.2.1 := by
 obtain ⟨c0, e0, rfl, ⟨rfl, i⟩, c1, e1, rfl, ⟨rfl, j⟩, c2, e2, rfl, ⟨rfl, k⟩, c3, e3, rfl, ⟨rfl, g⟩, c4, e4, rfl, ⟨rfl, c⟩, c5, e5, rfl, ⟨a, b, rfl, d, m, l⟩, ⟨rfl, f⟩⟩ := h;exact ⟨a, b, rfl, i, j, k, g, c, f, d, m, l⟩
theorem own_msg {w : World} {S : Foot} {f0 f1 f2 f3 f4 f6 : Int} {d : List Int} {v : Value} (i0 : In64 f0) (i1 : In64 f1) (i2 : In64 f2) (i3 : In64 f3) (i4 : In64 f4) (i6 : In64 f6) (h : intsR.own w S [v] d) : msgR.own w S [nI f0, nI f1, nI f2, nI f3, nI f4, v, nI f6] (f0, f1, f2, f3, f4, d, f6) :=
 ⟨[_], [_, _, _, _, _, _], fun _ => False, S, rfl, ⟨rfl, i0⟩, ⟨[_], [_, _, _, _, _], fun _ => False, S, rfl, ⟨rfl, i1⟩, ⟨[_], [_, _, _, _], fun _ => False, S, rfl, ⟨rfl, i2⟩, ⟨[_], [_, _, _], fun _ => False, S, rfl, ⟨rfl, i3⟩, ⟨[_], [_, _], fun _ => False, S, rfl, ⟨rfl, i4⟩, ⟨[_], [_], S, fun _ => False, rfl, h, ⟨rfl, i6⟩, Sub.refl _, fun _ h => h.elim, fun _ _ h => h⟩, fun _ h => h.elim, Sub.refl _, fun _ h _ => h⟩, fun _ h => h.elim, Sub.refl _, fun _ h _ => h⟩, fun _ h => h.elim, Sub.refl _, fun _ h _ => h⟩, fun _ h => h.elim, Sub.refl _, fun _ h _ => h⟩, fun _ h => h.elim, Sub.refl _, fun _ h _ => h⟩
theorem bk_msg (u : MsgD) : msgM.bk u = intsM.bk u.2.2.2.2.2.1 := by
 show 0 + (0 + (0 + (0 + (0 + (intsM.bk u.2.2.2.2.2.1 + 0))))) = _
 omega
theorem cells_7 {w : World} {g : Nat} {x0 x1 x2 x3 x4 x5 x6 : Value} {t : TypeId} (h : w.heap[g]? = some (.cells #[x0, x1, x2, x3, x4, x5, x6] t (0, 0))) :
    w.cell? ⟨g, 0, none⟩ = some x0 ∧ w.cell? ⟨g, 1, none⟩ = some x1 ∧ w.cell? ⟨g, 2, none⟩ = some x2 ∧ w.cell? ⟨g, 3, none⟩ = some x3 ∧ w.cell? ⟨g, 4, none⟩ = some x4 ∧ w.cell? ⟨g, 5, none⟩ = some x5 ∧ w.cell? ⟨g, 6, none⟩ = some x6 :=
 ⟨by rw [cell_of_row w g 0 _ t (0, 0) h]; rfl, by rw [cell_of_row w g 1 _ t (0, 0) h]; rfl, by rw [cell_of_row w g 2 _ t (0, 0) h]; rfl, by rw [cell_of_row w g 3 _ t (0, 0) h]; rfl, by rw [cell_of_row w g 4 _ t (0, 0) h]; rfl, by rw [cell_of_row w g 5 _ t (0, 0) h]; rfl, by rw [cell_of_row w g 6 _ t (0, 0) h]; rfl⟩
theorem froz_7 {w : World} {g : Nat} {cs : Array Value} {t : TypeId} (h : w.heap[g]? = some (.cells cs t (0, 0))) : w.frozen? ⟨g, 0, none⟩ = false ∧ w.frozen? ⟨g, 1, none⟩ = false ∧ w.frozen? ⟨g, 2, none⟩ = false ∧ w.frozen? ⟨g, 3, none⟩ = false ∧ w.frozen? ⟨g, 4, none⟩ = false ∧ w.frozen? ⟨g, 5, none⟩ = false ∧ w.frozen? ⟨g, 6, none⟩ = false :=
 ⟨frozen_of_row w g 0 _ t h, frozen_of_row w g 1 _ t h, frozen_of_row w g 2 _ t h, frozen_of_row w g 3 _ t h, frozen_of_row w g 4 _ t h, frozen_of_row w g 5 _ t h, frozen_of_row w g 6 _ t h⟩
theorem put_7 {w : World} {g : Nat} {x0 y0 x1 y1 x2 y2 x3 y3 x4 y4 x5 y5 x6 y6 : Value} {t : TypeId} (h : w.heap[g]? = some (.cells #[x0, x1, x2, x3, x4, x5, x6] t (0, 0))) :
    (((((((w.setCell ⟨g, 0, none⟩ y0).setCell ⟨g, 1, none⟩ y1).setCell ⟨g, 2, none⟩ y2).setCell ⟨g, 3, none⟩ y3).setCell ⟨g, 4, none⟩ y4).setCell ⟨g, 5, none⟩ y5).setCell ⟨g, 6, none⟩ y6).heap[g]? = some (.cells #[y0, y1, y2, y3, y4, y5, y6] t (0, 0)) := by
 have j : (w.setCell ⟨g, 0, none⟩ y0).heap[g]? = some (.cells #[y0, x1, x2, x3, x4, x5, x6] t (0, 0)) := heap_setCell_same _ g 0 _ t y0 h;have f : ((w.setCell ⟨g, 0, none⟩ y0).setCell ⟨g, 1, none⟩ y1).heap[g]? = some (.cells #[y0, y1, x2, x3, x4, x5, x6] t (0, 0)) := heap_setCell_same _ g 1 _ t y1 j;have i : (((w.setCell ⟨g, 0, none⟩ y0).setCell ⟨g, 1, none⟩ y1).setCell ⟨g, 2, none⟩ y2).heap[g]? = some (.cells #[y0, y1, y2, x3, x4, x5, x6] t (0, 0)) := heap_setCell_same _ g 2 _ t y2 f;have c : ((((w.setCell ⟨g, 0, none⟩ y0).setCell ⟨g, 1, none⟩ y1).setCell ⟨g, 2, none⟩ y2).setCell ⟨g, 3, none⟩ y3).heap[g]? = some (.cells #[y0, y1, y2, y3, x4, x5, x6] t (0, 0)) := heap_setCell_same _ g 3 _ t y3 i;have b : (((((w.setCell ⟨g, 0, none⟩ y0).setCell ⟨g, 1, none⟩ y1).setCell ⟨g, 2, none⟩ y2).setCell ⟨g, 3, none⟩ y3).setCell ⟨g, 4, none⟩ y4).heap[g]? = some (.cells #[y0, y1, y2, y3, y4, x5, x6] t (0, 0)) := heap_setCell_same _ g 4 _ t y4 c;have d : ((((((w.setCell ⟨g, 0, none⟩ y0).setCell ⟨g, 1, none⟩ y1).setCell ⟨g, 2, none⟩ y2).setCell ⟨g, 3, none⟩ y3).setCell ⟨g, 4, none⟩ y4).setCell ⟨g, 5, none⟩ y5).heap[g]? = some (.cells #[y0, y1, y2, y3, y4, y5, x6] t (0, 0)) := heap_setCell_same _ g 5 _ t y5 b;have a : (((((((w.setCell ⟨g, 0, none⟩ y0).setCell ⟨g, 1, none⟩ y1).setCell ⟨g, 2, none⟩ y2).setCell ⟨g, 3, none⟩ y3).setCell ⟨g, 4, none⟩ y4).setCell ⟨g, 5, none⟩ y5).setCell ⟨g, 6, none⟩ y6).heap[g]? = some (.cells #[y0, y1, y2, y3, y4, y5, y6] t (0, 0)) := heap_setCell_same _ g 6 _ t y6 d;exact a
theorem szMsg_rep (f0 f1 f2 f3 f4 f6 : Int) (d : List Int) (a : Option Addr) (cap : Nat) (left : Int) (w : World) (h0 : 0 ≤ left) (h1 : left ≤ 1048576) (hm : d.length ≤ maxLen) :
    Calls Tryz.prog 64 #[.agg #[nI f0, nI f1, nI f2, nI f3, nI f4, sL a d.length cap, nI f6], nI left] w fun e c => e = .returned (nI (szI (msgM.bk (f0, f1, f2, f3, f4, d, f6)) left)) ∧ Bl w c := by
 rw [bk_msg];show Calls Tryz.prog 64 _ w fun e c => e = .returned (nI (szI (intsM.bk d) left)) ∧ Bl w c
 by_cases f : (intsM.bk d : Int) ≤ left
 ·have b : Hid (szI (intsM.bk d) left = _) := szI_yes f;have g : ¬ (left - (intsM.bk d : Int) < 0) := by omega
  go_enter Tryz.func64, Tryz.ntmps64;go_wp2_with (go_at_call 120; refine (szInt64S_rep _ d _ _ _ h0 h1 hm).mono ?_; rintro e c ⟨rfl, rfl⟩; rw [b.out])
  go_ret
  exact ⟨ret_int b.out.symm, box_below w _⟩
 ·have b : Hid (szI (intsM.bk d) left = _) := szI_no f;go_enter Tryz.func64, Tryz.ntmps64;go_wp2_with (go_at_call 120; refine (szInt64S_rep _ d _ _ _ h0 h1 hm).mono ?_; rintro e c ⟨rfl, rfl⟩; rw [b.out])
  go_ret
  exact ⟨ret_int b.out.symm, box_below w _⟩
theorem szMsgS_rep (a : Option Addr) (xs : List MsgD) (cap : Nat) (left : Int) (w : World) (h : SlRd msgR w a xs) (h0 : 0 ≤ left) (h1 : left ≤ 1048576) (hm : xs.length ≤ maxLen) :
    Calls Tryz.prog 22 #[sL a xs.length cap, nI left] w fun e s => e = .returned (nI (szI ((slM msgM).bk xs) left)) ∧ Bl w s := by
 have O : xs.length ≤ 9223372036854775807 := hm;have j : (slM msgM).bk xs = xs.length + sumbk msgM xs := rfl;clear hm;by_cases hl : (xs.length : Int) ≤ left
 ·have C : ¬ (left - (xs.length : Int) < 0) := by omega
  have I : Hid _ := j;have Y : Hid (SlRd msgR w a xs) := h;clear j h;go_enter Tryz.func22, Tryz.ntmps22;go_wp2;go_loopw [1, 5] (fun q i wr => ∃ k : Nat, k ≤ xs.length ∧ i = nI k ∧ (sumbk msgM (xs.take k) : Int) + xs.length ≤ left ∧ q = nI (left - (xs.length : Int) - sumbk msgM (xs.take k)) ∧ Bl w wr) (fun _ i _ => xs.length - (intOf i).toNat)
  case atStart => exact ⟨0, Nat.zero_le _, rfl, by simp [sumbk]; omega, by simp [sumbk], Below.refl _ _⟩
  case round =>
   obtain ⟨k, F, rfl, J, rfl, g⟩ := hrel;by_cases z : k < xs.length
   ·have G : (k : Int) < (xs.length : Int) := by omega
    obtain ⟨x, o⟩ : ∃ x, xs[k]? = some x := ⟨_, List.getElem?_eq_getElem z⟩;have E := slrd_keep Y.out fun k F => g.block k F;obtain ⟨b, d, cs, rfl, f, c⟩ := slrd_at E o;obtain ⟨ad, U, rfl, -, -, -, -, -, -, l, m, y⟩ := msg_rd f;have Z := c 0 _ rfl;have S := c 1 _ rfl;have X := c 2 _ rfl;have V := c 3 _ rfl;have R := c 4 _ rfl;have N := c 5 _ rfl;have L := c 6 _ rfl;rw [show d + (k * msgR.size + 0) = d + k * 7 from rfl] at Z;rw [show d + (k * msgR.size + 1) = d + k * 7 + 1 from rfl] at S;rw [show d + (k * msgR.size + 2) = d + k * 7 + 2 from rfl] at X;rw [show d + (k * msgR.size + 3) = d + k * 7 + 3 from rfl] at V;rw [show d + (k * msgR.size + 4) = d + k * 7 + 4 from rfl] at R;rw [show d + (k * msgR.size + 5) = d + k * 7 + 5 from rfl] at N;rw [show d + (k * msgR.size + 6) = d + k * 7 + 6 from rfl] at L;have D : Hid (x.2.2.2.2.2.1.length ≤ maxLen) := Nat.le_trans l m;clear c f l m y;have p : Hid _ := sumbk_step (M := msgM) o;have v := sumbk_get (M := msgM) o;clear o E;generalize sumbk msgM (xs.take k) = T at J p v ⊢;by_cases H : (((msgM).bk x : Nat) : Int) ≤ left - (xs.length : Int) - (T : Int)
    ·have K : ¬ (left - (xs.length : Int) - (T : Int) - (((msgM).bk x : Nat) : Int) < 0) := by omega
     have A : Hid (szI ((msgM).bk x) (left - (xs.length : Int) - (T : Int)) = _) := szI_yes H;go_wp2_with (go_at_call 64; refine (szMsg_rep x.1 x.2.1 x.2.2.1 x.2.2.2.1 x.2.2.2.2.1 x.2.2.2.2.2.2 x.2.2.2.2.2.1 _ _ _ _ (by omega) (by omega) D.out).mono ?_; rintro e s ⟨rfl, n⟩; replace g := below_step g n; clear n; rw [A.out])
     go_roundw
     case rel => exact ⟨k + 1, by omega, by go_num, by have := p.out; omega, by rw [p.out]; go_num, g⟩
     case measure => simp [intOf]; omega
    ·have A : Hid (szI ((msgM).bk x) (left - (xs.length : Int) - (T : Int)) = _) := szI_no H;have B : Hid (szI ((slM msgM).bk xs) left = -1) := by unfold Hid; rw [I.out]; exact szI_no (by omega)
     go_wp2_with (go_at_call 64; refine (szMsg_rep x.1 x.2.1 x.2.2.1 x.2.2.2.1 x.2.2.2.2.1 x.2.2.2.2.2.2 x.2.2.2.2.2.1 _ _ _ _ (by omega) (by omega) D.out).mono ?_; rintro e s ⟨rfl, n⟩; replace g := below_step g n; clear n; rw [A.out])
     go_ret
     exact ⟨ret_int B.out.symm, g⟩
   ·have r : k = xs.length := by omega
    subst r;rw [List.take_length] at J ⊢;have B : Hid (szI ((slM msgM).bk xs) left = left - (xs.length : Int) - (sumbk msgM xs : Int)) := by unfold Hid; rw [I.out, szI_yes (by omega)]; omega
    go_wp2;go_ret
    exact ⟨ret_int B.out.symm, g⟩
 ·have C : left - (xs.length : Int) < 0 := by omega
  rw [szI_no (by omega)];clear j h;go_enter Tryz.func22, Tryz.ntmps22;go_wp2;go_ret
  exact ⟨rfl, Below.refl _ _⟩
theorem toMsg_rep (f0 f1 f2 f3 f4 f6 : Int) (d : List Int) (a : Option Addr) (cap : Nat) (w : World) (i0 : In64 f0) (i1 : In64 f1) (i2 : In64 f2) (i3 : In64 f3) (i4 : In64 f4) (i6 : In64 f6) (h : SlRd intR w a d) (hm : intsM.bk d ≤ 1048576) :
    Calls Tryz.prog 81 #[.agg #[nI f0, nI f1, nI f2, nI f3, nI f4, sL a d.length cap, nI f6]] w fun e w' => ∃ l j, e = .returned (.agg #[nI f0, nI f1, nI f2, nI f3, nI f4, sL l d.length j, nI f6]) ∧ MadeR msgR w w' [nI f0, nI f1, nI f2, nI f3, nI f4, sL l d.length j, nI f6] (f0, f1, f2, f3, f4, d, f6) := by
 have H : Hid (∀ W, Bl w W → SlRd intR W a d) := fun W hb => slrd_keep h fun k hk => hb.block k hk;clear h;go_enter Tryz.func81, Tryz.ntmps81;go_wp2_with fail
 have p : Bl w (((w.alloc (.cells #[nI f0, nI f1, nI f2, nI f3, nI f4, sL a d.length cap, nI f6] 115)).alloc (.cells #[nI 0, nI 0, nI 0, nI 0, nI 0, sL none 0 0, nI 0] 131)).alloc (.cells #[nI f0, nI f1, nI f2, nI f3, nI f4, sL none 0 0, nI 0] 131)) := (((Below.refl _ w).alloc (Nat.le_refl _) _).alloc (by simp) _).alloc (by simp; omega) _;have b := heap_on (.cells #[nI f0, nI f1, nI f2, nI f3, nI f4, sL none 0 0, nI 0] 131) (heap_at (w.alloc (.cells #[nI f0, nI f1, nI f2, nI f3, nI f4, sL a d.length cap, nI f6] 115)) (.cells #[nI 0, nI 0, nI 0, nI 0, nI 0, sL none 0 0, nI 0] 131));have f := heap_at ((w.alloc (.cells #[nI f0, nI f1, nI f2, nI f3, nI f4, sL a d.length cap, nI f6] 115)).alloc (.cells #[nI 0, nI 0, nI 0, nI 0, nI 0, sL none 0 0, nI 0] 131)) (.cells #[nI f0, nI f1, nI f2, nI f3, nI f4, sL none 0 0, nI 0] 131);have N : (((w.alloc (.cells #[nI f0, nI f1, nI f2, nI f3, nI f4, sL a d.length cap, nI f6] 115)).alloc (.cells #[nI 0, nI 0, nI 0, nI 0, nI 0, sL none 0 0, nI 0] 131)).alloc (.cells #[nI f0, nI f1, nI f2, nI f3, nI f4, sL none 0 0, nI 0] 131)).heap.size = w.heap.size + 1 + 1 + 1 := by simp
 have m := heap_on (.cells #[nI f0, nI f1, nI f2, nI f3, nI f4, sL none 0 0, nI 0] 131) (heap_on (.cells #[nI 0, nI 0, nI 0, nI 0, nI 0, sL none 0 0, nI 0] 131) (heap_at w (.cells #[nI f0, nI f1, nI f2, nI f3, nI f4, sL a d.length cap, nI f6] 115)));rw [alloc_len] at b;rw [alloc_len, alloc_len] at f;generalize ((w.alloc (.cells #[nI f0, nI f1, nI f2, nI f3, nI f4, sL a d.length cap, nI f6] 115)).alloc (.cells #[nI 0, nI 0, nI 0, nI 0, nI 0, sL none 0 0, nI 0] 131)).alloc (.cells #[nI f0, nI f1, nI f2, nI f3, nI f4, sL none 0 0, nI 0] 131) = W0 at p m b f N ⊢;refine (toInt64S_rep _ d _ _ (H.out _ p) hm).mono ?_;rintro e w1 ⟨v, rfl, n⟩;obtain ⟨l, j, rfl⟩ := slown_val n.1;have c := n.2;have i := n.1;have C := below_step p c;replace m := row_keep c m;replace b := row_keep c b;replace f := row_keep c f;obtain ⟨q0, q1, q2, q3, q4, q5, q6⟩ := cells_7 m;obtain ⟨y0, y1, y2, y3, y4, y5, y6⟩ := cells_7 f;obtain ⟨B, r, F, y, G, M, q⟩ := froz_7 f;obtain ⟨z0, z1, z2, z3, z4, z5, z6⟩ := cells_7 b;obtain ⟨g0, g1, g2, g3, g4, g5, g6⟩ := froz_7 b;have s : Hid _ := aI b f;have E : Hid _ := i;clear m b f i n H;go_wp2;obtain ⟨b, f⟩ := s.out;have D := put_7 (y0 := nI f0) (y1 := nI f1) (y2 := nI f2) (y3 := nI f3) (y4 := nI f4) (y5 := sL l d.length j) (y6 := nI f6) (heap_setC (g := w.heap.size + 1 + 1) (o := 6) (v := nI f6) (heap_setC (g := w.heap.size + 1 + 1) (o := 5) (v := sL l d.length j) b (by omega)) (by omega));obtain ⟨z, A, K, J, L, I, O⟩ := cells_7 D;refine bodyPost_ret (v := .agg #[nI f0, nI f1, nI f2, nI f3, nI f4, sL l d.length j, nI f6]) (by simp [results, Tryz.results81, go_sem, z, A, K, J, L, I, O]) rfl ⟨l, j, rfl, own_msg i0 i1 i2 i3 i4 i6 ?_, ?_⟩
 ·refine intsR.own_mono (own_setC (own_setC (own_setC (own_setC (own_setC (own_setC (own_setC (own_setC (own_setC (E.out) (fun h => by have := h.1; omega)) (fun h => by have := h.1; omega)) (fun h => by have := h.1; omega)) (fun h => by have := h.1; omega)) (fun h => by have := h.1; omega)) (fun h => by have := h.1; omega)) (fun h => by have := h.1; omega)) (fun h => by have := h.1; omega)) (fun h => by have := h.1; omega)) ?_;exact rng_sub (by omega) (by simp)
 ·exact below_setC (below_setC (below_setC (below_setC (below_setC (below_setC (below_setC (below_setC (below_setC (C) (by omega)) (by omega)) (by omega)) (by omega)) (by omega)) (by omega)) (by omega)) (by omega)) (by omega)
theorem Tryz.infoMsg : (Tryz.prog.info? 131).map (fun i => (i.zero, i.size, i.bytes)) = some (some (.agg #[nI 0, nI 0, nI 0, nI 0, nI 0, sL none 0 0, nI 0]), 7, 72) := by kernel_rfl
theorem toMsgS_rep (a : Option Addr) (xs : List MsgD) (cap : Nat) (w : World) (h : SlRd msgR w a xs) (hm : msgsM.bk xs ≤ 1048576) :
    Calls Tryz.prog 30 #[sL a xs.length cap] w fun e w' => ∃ v, e = .returned v ∧ MadeR msgsR w w' [v] xs := by
 have z : msgsM.bk xs = xs.length + sumbk msgM xs := rfl;have iA : xs.length ≤ 1048576 := by omega
 have HB : Hid (sumbk msgM xs ≤ 1048576) := by unfold Hid; omega
 have H0 : Hid (SlRd msgR w a xs) := h;clear z hm h;have C := run_make_wide (P := Tryz.prog) 46 131 (.agg #[nI 0, nI 0, nI 0, nI 0, nI 0, sL none 0 0, nI 0]) 7 72 Tryz.underlying46 Tryz.infoMsg xs.length (by omega) (by omega);go_enter Tryz.func30, Tryz.ntmps30;go_wp2;go_loopw [4] (fun i wr => ∃ k : Nat, k ≤ xs.length ∧ i = nI k ∧ Fill 131 msgR w wr xs.length (xs.take k)) (fun i _ => xs.length - (intOf i).toNat)
 case atStart => exact ⟨0, Nat.zero_le _, rfl, by simpa using fillR_start (e := 131) (R := msgR) (w0 := w) (n := xs.length) (cs := madeCells #[nI 0, nI 0, nI 0, nI 0, nI 0, sL none 0 0, nI 0] (xs.length * 7)) (by unfold maxLen; omega) (by rw [size_madeCells]; rfl)⟩
 case round =>
  obtain ⟨k, hk, rfl, m⟩ := hrel;by_cases q : k < xs.length
  ·have S : (k : Int) < (xs.length : Int) := by omega
   obtain ⟨x, r⟩ : ∃ x, xs[k]? = some x := ⟨_, List.getElem?_eq_getElem q⟩;obtain ⟨b, f, cs, rfl, l, d⟩ := slrd_at (slrd_next H0.out (fill_below m)) r;obtain ⟨ad, lA, rfl, Y, Z, i2, X, L, U, A, D, p⟩ := msg_rd l;have x0 := d 0 _ rfl;have V := d 1 _ rfl;have x2 := d 2 _ rfl;have x3 := d 3 _ rfl;have O := d 4 _ rfl;have M := d 5 _ rfl;have K := d 6 _ rfl;rw [show f + (k * msgR.size + 0) = f + k * 7 from rfl] at x0;rw [show f + (k * msgR.size + 1) = f + k * 7 + 1 from rfl] at V;rw [show f + (k * msgR.size + 2) = f + k * 7 + 2 from rfl] at x2;rw [show f + (k * msgR.size + 3) = f + k * 7 + 3 from rfl] at x3;rw [show f + (k * msgR.size + 4) = f + k * 7 + 4 from rfl] at O;rw [show f + (k * msgR.size + 5) = f + k * 7 + 5 from rfl] at M;rw [show f + (k * msgR.size + 6) = f + k * 7 + 6 from rfl] at K;have HX : Hid (intsM.bk x.2.2.2.2.2.1 ≤ 1048576) := by unfold Hid; have := sumbk_ge msgM xs r; rw [bk_msg] at this; have := HB.out; omega
   have HR : Hid (SlRd intR wr ad x.2.2.2.2.2.1) := p;have o : Hid _ := aI Y (aI Z (aI i2 (aI X (aI L U))));have N : Hid (∀ w1 c, MadeR msgR wr w1 c x → _) := fun w1 c hm => fillR_step (w1 := w1) (c := c) m (by simp; omega) q hm;have HP : Hid (xs.take k ++ [x] = xs.take (k + 1)) := by unfold Hid; rw [List.take_add_one, r]; rfl
   clear r l d C m A D p Y Z i2 X L U;go_wp2_with fail
   refine (toMsg_rep x.1 x.2.1 x.2.2.1 x.2.2.2.1 x.2.2.2.2.1 x.2.2.2.2.2.2 x.2.2.2.2.2.1 _ _ _ o.out.1 o.out.2.1 o.out.2.2.1 o.out.2.2.2.1 o.out.2.2.2.2.1 o.out.2.2.2.2.2 HR.out HX.out).mono ?_;rintro e w1 ⟨av, cv, rfl, T⟩;obtain ⟨g, j, E⟩ := N.out _ _ T;obtain ⟨v0, J⟩ := g 0 (by decide);obtain ⟨v1, F⟩ := g 1 (by decide);obtain ⟨v2, H⟩ := g 2 (by decide);obtain ⟨v3, y⟩ := g 3 (by decide);obtain ⟨v4, G⟩ := g 4 (by decide);obtain ⟨v5, B⟩ := g 5 (by decide);obtain ⟨v6, I⟩ := g 6 (by decide);have z0 := j (k * 7);have z1 := j (k * 7 + 1);have z2 := j (k * 7 + 2);have z3 := j (k * 7 + 3);have z4 := j (k * 7 + 4);have z5 := j (k * 7 + 5);have z6 := j (k * 7 + 6);rw [show k * msgR.size + 0 = k * 7 from rfl] at J;rw [show k * msgR.size + 1 = k * 7 + 1 from rfl] at F;rw [show k * msgR.size + 2 = k * 7 + 2 from rfl] at H;rw [show k * msgR.size + 3 = k * 7 + 3 from rfl] at y;rw [show k * msgR.size + 4 = k * 7 + 4 from rfl] at G;rw [show k * msgR.size + 5 = k * 7 + 5 from rfl] at B;rw [show k * msgR.size + 6 = k * 7 + 6 from rfl] at I;rw [HP.out] at E;have HF : Hid _ := E;clear E T g j N x0 V x2 x3 O M K;go_wp2;go_roundw
   case rel => exact ⟨k + 1, by omega, by go_num, HF.out⟩
   case measure => simp [intOf]; omega
  ·have s : k = xs.length := by omega
   subst s;rw [List.take_length] at m;have FE := fillR_end m rfl;clear m;go_wp2;go_ret
   exact ⟨_, rfl, FE⟩
theorem eqMsg_rep (f0 f1 f2 f3 f4 f6 : Int) (d : List Int) (a1 a2 : Option Addr) (c1 c2 : Nat) (w : World) (h1 : SlRd intR w a1 d) (h2 : SlRd intR w a2 d) (hm : intsM.bk d ≤ 1152921504606846976) :
    Calls Tryz.prog 102 #[.agg #[nI f0, nI f1, nI f2, nI f3, nI f4, sL a1 d.length c1, nI f6], .agg #[nI f0, nI f1, nI f2, nI f3, nI f4, sL a2 d.length c2, nI f6]] w fun e b => e = .returned (.bool true) ∧ Bl w b := by
 have a : Hid (∀ o o', Bl w ((w.alloc o).alloc o')) := fun o o' => below_step (box_below w o) (box_below _ o');have c : Hid (∀ W, Bl w W → SlRd intR W a1 d) := fun W hb => slrd_keep h1 fun k hk => hb.block k hk;have f : Hid (∀ W, Bl w W → SlRd intR W a2 d) := fun W hb => slrd_keep h2 fun k hk => hb.block k hk;clear h1 h2;go_enter Tryz.func102, Tryz.ntmps102;go_wp2_with fail
 refine (eqInt64S_rep a1 a2 d c1 c2 _ (c.out _ (a.out _ _)) (f.out _ (a.out _ _)) hm).mono ?_;rintro e b ⟨rfl, n, rfl⟩;go_wp2;go_ret
 exact ⟨rfl, be_drewN (a.out _ _) n⟩
theorem eqMsgS_rep (a1 a2 : Option Addr) (xs : List MsgD) (c1 c2 : Nat) (w : World) (h1 : SlRd msgR w a1 xs) (h2 : SlRd msgR w a2 xs) (hm : (slM msgM).bk xs ≤ 1152921504606846976) :
    Calls Tryz.prog 44 #[sL a1 xs.length c1, sL a2 xs.length c2] w fun e w' => e = .returned (.bool true) ∧ Bl w w' := by
 have gA : (slM msgM).bk xs = xs.length + sumbk msgM xs := rfl;have qA : xs.length ≤ 1152921504606846976 := by omega
 have HB : Hid (sumbk msgM xs ≤ 1152921504606846976) := by unfold Hid; omega
 have H1 : Hid (∀ W, Bl w W → SlRd msgR W a1 xs) := fun W hb => slrd_keep h1 fun k hk => hb.block k hk;have H2 : Hid (∀ W, Bl w W → SlRd msgR W a2 xs) := fun W hb => slrd_keep h2 fun k hk => hb.block k hk;clear gA hm h1 h2;go_enter Tryz.func44, Tryz.ntmps44;go_wp2;go_loopw [5] (fun i wr => ∃ k : Nat, k ≤ xs.length ∧ i = nI k ∧ Bl w wr) (fun i _ => xs.length - (intOf i).toNat)
 case atStart => exact ⟨0, Nat.zero_le _, rfl, Below.refl _ _⟩
 case round =>
  obtain ⟨k, hk, rfl, F⟩ := hrel;by_cases iA : k < xs.length
  ·have lA : (k : Int) < (xs.length : Int) := by omega
   obtain ⟨x, hx⟩ : ∃ x, xs[k]? = some x := ⟨_, List.getElem?_eq_getElem iA⟩;have HX : Hid ((msgM).bk x ≤ 1152921504606846976) := by unfold Hid; have := sumbk_ge msgM xs hx; have := HB.out; omega
   obtain ⟨E, b, pA, rfl, D, c⟩ := slrd_at (H1.out _ F) hx;obtain ⟨G, M, rfl, -, -, -, -, -, -, -, -, L⟩ := msg_rd D;have o := c 0 _ rfl;have j := c 1 _ rfl;have q := c 2 _ rfl;have g := c 3 _ rfl;have v := c 4 _ rfl;have B := c 5 _ rfl;have A := c 6 _ rfl;rw [show b + (k * msgR.size + 0) = b + k * 7 from rfl] at o;rw [show b + (k * msgR.size + 1) = b + k * 7 + 1 from rfl] at j;rw [show b + (k * msgR.size + 2) = b + k * 7 + 2 from rfl] at q;rw [show b + (k * msgR.size + 3) = b + k * 7 + 3 from rfl] at g;rw [show b + (k * msgR.size + 4) = b + k * 7 + 4 from rfl] at v;rw [show b + (k * msgR.size + 5) = b + k * 7 + 5 from rfl] at B;rw [show b + (k * msgR.size + 6) = b + k * 7 + 6 from rfl] at A;have fA : Hid (∀ n : Cls (fun wx => Bl wr wx), SlRd intR n.w G x.2.2.2.2.2.1) := fun n => slrd_next L n.h;clear c D L;obtain ⟨f, a, mA, rfl, C, d⟩ := slrd_at (H2.out _ F) hx;obtain ⟨Y, I, rfl, -, -, -, -, -, -, -, -, S⟩ := msg_rd C;have m := d 0 _ rfl;have s := d 1 _ rfl;have z := d 2 _ rfl;have r := d 3 _ rfl;have y := d 4 _ rfl;have p := d 5 _ rfl;have l := d 6 _ rfl;rw [show a + (k * msgR.size + 0) = a + k * 7 from rfl] at m;rw [show a + (k * msgR.size + 1) = a + k * 7 + 1 from rfl] at s;rw [show a + (k * msgR.size + 2) = a + k * 7 + 2 from rfl] at z;rw [show a + (k * msgR.size + 3) = a + k * 7 + 3 from rfl] at r;rw [show a + (k * msgR.size + 4) = a + k * 7 + 4 from rfl] at y;rw [show a + (k * msgR.size + 5) = a + k * 7 + 5 from rfl] at p;rw [show a + (k * msgR.size + 6) = a + k * 7 + 6 from rfl] at l;have kA : Hid (∀ n : Cls (fun wx => Bl wr wx), SlRd intR n.w Y x.2.2.2.2.2.1) := fun n => slrd_next S n.h;clear d C S;have O : ∀ n : Cls (fun wx => Bl wr wx), n.w.cell? ⟨E, b + k * 7, none⟩ = some (nI x.1) := fun n => cell_keep n.h o (cell_lt o);have X : ∀ n : Cls (fun wx => Bl wr wx), n.w.cell? ⟨E, b + k * 7 + 1, none⟩ = some (nI x.2.1) := fun n => cell_keep n.h j (cell_lt j);have Z : ∀ n : Cls (fun wx => Bl wr wx), n.w.cell? ⟨E, b + k * 7 + 2, none⟩ = some (nI x.2.2.1) := fun n => cell_keep n.h q (cell_lt q);have T : ∀ n : Cls (fun wx => Bl wr wx), n.w.cell? ⟨E, b + k * 7 + 3, none⟩ = some (nI x.2.2.2.1) := fun n => cell_keep n.h g (cell_lt g);have bA : ∀ n : Cls (fun wx => Bl wr wx), n.w.cell? ⟨E, b + k * 7 + 4, none⟩ = some (nI x.2.2.2.2.1) := fun n => cell_keep n.h v (cell_lt v);have cA : ∀ n : Cls (fun wx => Bl wr wx), n.w.cell? ⟨E, b + k * 7 + 5, none⟩ = some (sL G x.2.2.2.2.2.1.length M) := fun n => cell_keep n.h B (cell_lt B);have J : ∀ n : Cls (fun wx => Bl wr wx), n.w.cell? ⟨E, b + k * 7 + 6, none⟩ = some (nI x.2.2.2.2.2.2) := fun n => cell_keep n.h A (cell_lt A);have H : ∀ n : Cls (fun wx => Bl wr wx), n.w.cell? ⟨f, a + k * 7, none⟩ = some (nI x.1) := fun n => cell_keep n.h m (cell_lt m);have aA : ∀ n : Cls (fun wx => Bl wr wx), n.w.cell? ⟨f, a + k * 7 + 1, none⟩ = some (nI x.2.1) := fun n => cell_keep n.h s (cell_lt s);have V : ∀ n : Cls (fun wx => Bl wr wx), n.w.cell? ⟨f, a + k * 7 + 2, none⟩ = some (nI x.2.2.1) := fun n => cell_keep n.h z (cell_lt z);have N : ∀ n : Cls (fun wx => Bl wr wx), n.w.cell? ⟨f, a + k * 7 + 3, none⟩ = some (nI x.2.2.2.1) := fun n => cell_keep n.h r (cell_lt r);have U : ∀ n : Cls (fun wx => Bl wr wx), n.w.cell? ⟨f, a + k * 7 + 4, none⟩ = some (nI x.2.2.2.2.1) := fun n => cell_keep n.h y (cell_lt y);have K : ∀ n : Cls (fun wx => Bl wr wx), n.w.cell? ⟨f, a + k * 7 + 5, none⟩ = some (sL Y x.2.2.2.2.2.1.length I) := fun n => cell_keep n.h p (cell_lt p);have R : ∀ n : Cls (fun wx => Bl wr wx), n.w.cell? ⟨f, a + k * 7 + 6, none⟩ = some (nI x.2.2.2.2.2.2) := fun n => cell_keep n.h l (cell_lt l);clear hx o j q g v B A m s z r y p l;go_wp2_with fail
   refine region_class (fun wx => Bl wr wx) (by kernel_rfl) (by kernel_rfl) ((Below.refl _ wr).drew) ?_;intro jA;repeat (quiet_step ((go_at_call 102; exact calls_class (eqMsg_rep x.1 x.2.1 x.2.2.1 x.2.2.2.1 x.2.2.2.2.1 x.2.2.2.2.2.2 x.2.2.2.2.2.1 _ _ _ _ _ (fA.out _) (kA.out _) (by have := HX.out; rw [bk_msg] at this; exact this)) (fun w' hc bb => below_step hc bb))))
   refine wpQuiet_nil ?_;intro wx f;replace F := below_step F f;clear f jA O X Z T bA cA J H aA V N U K R;go_wp2;go_roundw
   case rel => exact ⟨k + 1, by omega, by go_num, F⟩
   case measure => simp [intOf]; omega
  ·go_wp2;go_ret
   exact ⟨rfl, F⟩
end Go.Proofs.YtdamokokcdcedaaGreatDoor
