import Derived.Test.YtdamokokcdcedaaGreatDoorF00Box
import Derived.Test.YtdamokokcdcedaaGreatDoorF03
namespace Go.Proofs.YtdamokokcdcedaaGreatDoor
open Go.ChangeShapes Go.WideShapes Go.ChangeAt Go.RowKit
set_option linter.unusedVariables false
abbrev OpD := Int × Int × Int × Int
abbrev opR : Rep OpD := prodR intR (prodR intR (prodR intR intR))
abbrev opM : Mk OpD := prodM intM (prodM intM (prodM intM intM))
abbrev opsR : Rep (List OpD) := slR 133 opR
abbrev opsM : Mk (List OpD) := slM opM
def In4 (u : OpD) : Prop := In64 u.1 ∧ In64 u.2.1 ∧ In64 u.2.2.1 ∧ In64 u.2.2.2
theorem opens_op : Opens Tryz.prog 118 opR :=
 opens_struct Tryz.underlying118 (by kernel_rfl) (opensF_cons rfl (by kernel_rfl) opens_i64 (opensF_cons rfl (by kernel_rfl) opens_i64 (opensF_cons rfl (by kernel_rfl) opens_i64 (opensF_one rfl (by kernel_rfl) opens_i64))))
theorem opens_ops : Opens Tryz.prog 108 opsR := opens_slice Tryz.underlying108 (by kernel_rfl) (by decide) opens_op
theorem op_rd {w : World} {cs : List Value} {u : OpD} (h : opR.rd w cs u) : cs = [nI u.1, nI u.2.1, nI u.2.2.1, nI u.2.2.2] ∧ In4 u := by
 obtain ⟨c0, e0, rfl, ⟨rfl, d⟩, c1, e1, rfl, ⟨rfl, c⟩, c2, e2, rfl, ⟨rfl, b⟩, ⟨rfl, a⟩⟩ := h;exact ⟨rfl, d, c, b, a⟩
theorem own_op {w : World} {S : Foot} {u : OpD} (h : In4 u) : opR.own w S [nI u.1, nI u.2.1, nI u.2.2.1, nI u.2.2.2] u :=
 ⟨[_], [_, _, _], fun _ => False, S, rfl, ⟨rfl, h.1⟩, ⟨[_], [_, _], fun _ => False, S, rfl, ⟨rfl, h.2.1⟩, ⟨[_], [_], fun _ => False, S, rfl, ⟨rfl, h.2.2.1⟩, ⟨rfl, h.2.2.2⟩, fun _ h => h.elim, Sub.refl _, fun _ h _ => h⟩, fun _ h => h.elim, Sub.refl _, fun _ h _ => h⟩, fun _ h => h.elim, Sub.refl _, fun _ h _ => h⟩
theorem made_op {w w' : World} {u : OpD} (h : In4 u) (hb : Bl w w') : MadeR opR w w' [nI u.1, nI u.2.1, nI u.2.2.1, nI u.2.2.2] u := ⟨own_op h, hb⟩
theorem sumbk_ops (xs : List OpD) : sumbk opM xs = 0 := by
 induction xs with
 | nil => rfl
 | cons x xs ih => simp only [sumbk, List.map_cons, List.sum_cons] at ih ⊢; rw [ih]; rfl
theorem bk_ops (xs : List OpD) : opsM.bk xs = xs.length := by
 have b : opsM.bk xs = xs.length + sumbk opM xs := rfl;rw [b, sumbk_ops]; rfl
theorem op_at {w : World} {a : Option Addr} {xs : List OpD} (h : SlRd opR w a xs) {k : Nat} {x : OpD} (hx : xs[k]? = some x) : ∃ b c, a = some ⟨b, c, none⟩ ∧ w.cell? ⟨b, c + k * 4, none⟩ = some (nI x.1) ∧ w.cell? ⟨b, c + k * 4 + 1, none⟩ = some (nI x.2.1) ∧ w.cell? ⟨b, c + k * 4 + 2, none⟩ = some (nI x.2.2.1) ∧ w.cell? ⟨b, c + k * 4 + 3, none⟩ = some (nI x.2.2.2) ∧ In4 x := by
 obtain ⟨b, c, cs, rfl, f, d⟩ := slrd_at h hx;obtain ⟨rfl, g⟩ := op_rd f;exact ⟨b, c, rfl, d 0 _ rfl, d 1 _ rfl, d 2 _ rfl, d 3 _ rfl, g⟩
theorem szOpS_rep (a : Option Addr) (xs : List OpD) (cap : Nat) (left : Int) (w : World) (h0 : 0 ≤ left) (h1 : left ≤ 1048576) (hm : xs.length ≤ maxLen) :
    Calls Tryz.prog 123 #[sL a xs.length cap, nI left] w fun e w' => e = .returned (nI (szI (opsM.bk xs) left)) ∧ w' = w := by
 have f : xs.length ≤ 9223372036854775807 := hm;rw [bk_ops];by_cases d : (xs.length : Int) ≤ left
 ·have c : Hid (szI xs.length left = _) := szI_yes d;have b : ¬ (left - (xs.length : Int) < 0) := by omega
  go_enter Tryz.func123, Tryz.ntmps123;go_wp2;go_ret
  exact ⟨ret_int c.out.symm, rfl⟩
 ·have c : Hid (szI xs.length left = _) := szI_no d;have b : left - (xs.length : Int) < 0 := by omega
  go_enter Tryz.func123, Tryz.ntmps123;go_wp2;go_ret
  exact ⟨ret_int c.out.symm, rfl⟩
theorem toOp_rep (k a x y : Int) (w : World) :
    Calls Tryz.prog 144 #[.agg #[nI k, nI a, nI x, nI y]] w fun e w' => e = .returned (.agg #[nI k, nI a, nI x, nI y]) ∧ Bl w w' := by
 have b : Hid (∀ o o' o'', Bl w (((w.alloc o).alloc o').alloc o'')) := fun o o' o'' => below_step (below_step (box_below w o) (box_below _ o')) (box_below _ o'');go_enter Tryz.func144, Tryz.ntmps144;go_wp2;refine bodyPost_ret (v := .agg #[nI k, nI a, nI x, nI y]) (by simp [results, Tryz.results144, go_sem]) rfl ⟨rfl, ?_⟩;exact b.out _ _ _
theorem Tryz.infoOp : (Tryz.prog.info? 133).map (fun i => (i.zero, i.size, i.bytes)) = some (some (.agg #[nI 0, nI 0, nI 0, nI 0]), 4, 32) := by kernel_rfl
set_option maxHeartbeats 2000000 in
theorem toOpS_rep (a : Option Addr) (xs : List OpD) (cap : Nat) (w : World) (h : SlRd opR w a xs) (hm : opsM.bk xs ≤ 1048576) :
    Calls Tryz.prog 141 #[sL a xs.length cap] w fun e w' => ∃ v, e = .returned v ∧ MadeR opsR w w' [v] xs := by
 rw [bk_ops] at hm;have D : Hid (SlRd opR w a xs) := h;clear h;have r := run_make_wide (P := Tryz.prog) 96 133 (.agg #[nI 0, nI 0, nI 0, nI 0]) 4 32 Tryz.underlying96 Tryz.infoOp xs.length (by omega) (by omega);go_enter Tryz.func141, Tryz.ntmps141;go_wp2;go_loopw [4] (fun i wr => ∃ k : Nat, k ≤ xs.length ∧ i = nI k ∧ Fill 133 opR w wr xs.length (xs.take k)) (fun i _ => xs.length - (intOf i).toNat)
 case atStart => exact ⟨0, Nat.zero_le _, rfl, by simpa using fillR_start (e := 133) (R := opR) (w0 := w) (n := xs.length) (cs := madeCells #[nI 0, nI 0, nI 0, nI 0] (xs.length * 4)) (by unfold maxLen; omega) (by rw [size_madeCells]; rfl)⟩
 case round =>
  obtain ⟨k, hk, rfl, d⟩ := hrel;by_cases j : k < xs.length
  ·have C : (k : Int) < (xs.length : Int) := by omega
   obtain ⟨x, m⟩ : ∃ x, xs[k]? = some x := ⟨_, List.getElem?_eq_getElem j⟩;obtain ⟨b, J, rfl, G, K, F, I, A⟩ := op_at (slrd_next D.out (fill_below d)) m;have z : Hid (∀ w1 c, MadeR opR wr w1 c x → _) := fun w1 c hm => fillR_step (w1 := w1) (c := c) d (by simp; omega) j hm;have E : Hid (xs.take k ++ [x] = xs.take (k + 1)) := by unfold Hid; rw [List.take_add_one, m]; rfl
   have H : Hid (In4 x) := A;clear m r d A;go_wp2_with fail
   refine (toOp_rep x.1 x.2.1 x.2.2.1 x.2.2.2 _).mono ?_;rintro e w1 ⟨rfl, B⟩;obtain ⟨f, g, y⟩ := z.out _ _ (made_op H.out B);obtain ⟨v0, o⟩ := f 0 (by decide);obtain ⟨v1, q⟩ := f 1 (by decide);obtain ⟨v2, p⟩ := f 2 (by decide);obtain ⟨v3, l⟩ := f 3 (by decide);have z0 := g (k * 4);have z1 := g (k * 4 + 1);have z2 := g (k * 4 + 2);have z3 := g (k * 4 + 3);rw [show k * opR.size + 0 = k * 4 from rfl] at o;rw [show k * opR.size + 1 = k * 4 + 1 from rfl] at q;rw [show k * opR.size + 2 = k * 4 + 2 from rfl] at p;rw [show k * opR.size + 3 = k * 4 + 3 from rfl] at l;rw [E.out] at y;have L : Hid _ := y;clear y B f g z G K F I;go_wp2;go_roundw
   case rel => exact ⟨k + 1, by omega, by go_num, L.out⟩
   case measure => simp [intOf]; omega
  ·have s : k = xs.length := by omega
   subst s;rw [List.take_length] at d;have M := fillR_end d rfl;clear d;go_wp2;go_ret
   exact ⟨_, rfl, M⟩
theorem eqOp_rep (k a x y : Int) (w : World) :
    Calls Tryz.prog 168 #[.agg #[nI k, nI a, nI x, nI y], .agg #[nI k, nI a, nI x, nI y]] w fun e w' => e = .returned (.bool true) ∧ Bl w w' := by
 have b : Hid (∀ o o', Bl w ((w.alloc o).alloc o')) := fun o o' => below_step (box_below w o) (box_below _ o');go_enter Tryz.func168, Tryz.ntmps168;go_wp2;go_ret
 exact ⟨rfl, b.out _ _⟩
set_option maxHeartbeats 2000000 in
theorem eqOpS_rep (a1 a2 : Option Addr) (xs : List OpD) (c1 c2 : Nat) (w : World) (h1 : SlRd opR w a1 xs) (h2 : SlRd opR w a2 xs) (hm : opsM.bk xs ≤ 1152921504606846976) :
    Calls Tryz.prog 165 #[sL a1 xs.length c1, sL a2 xs.length c2] w fun e w' => e = .returned (.bool true) ∧ Bl w w' := by
 rw [bk_ops] at hm;have K : Hid (∀ W, Bl w W → SlRd opR W a1 xs) := fun W hb => slrd_keep h1 fun k E => hb.block k E;have J : Hid (∀ W, Bl w W → SlRd opR W a2 xs) := fun W hb => slrd_keep h2 fun k E => hb.block k E;clear h1 h2;go_enter Tryz.func165, Tryz.ntmps165;go_wp2;go_loopw [5] (fun i wr => ∃ k : Nat, k ≤ xs.length ∧ i = nI k ∧ Bl w wr) (fun i _ => xs.length - (intOf i).toNat)
 case atStart => exact ⟨0, Nat.zero_le _, rfl, Below.refl _ _⟩
 case round =>
  obtain ⟨k, E, rfl, q⟩ := hrel;by_cases H : k < xs.length
  ·have I : (k : Int) < (xs.length : Int) := by omega
   obtain ⟨x, F⟩ : ∃ x, xs[k]? = some x := ⟨_, List.getElem?_eq_getElem H⟩;obtain ⟨D, b, rfl, l, f, g, j, -⟩ := op_at (K.out _ q) F;obtain ⟨o, a, rfl, m, d, p, c, -⟩ := op_at (J.out _ q) F;have s : ∀ n : Cls (fun wx => Bl wr wx), n.w.cell? ⟨D, b + k * 4, none⟩ = some (nI x.1) := fun n => cell_keep n.h l (cell_lt l);have B : ∀ n : Cls (fun wx => Bl wr wx), n.w.cell? ⟨D, b + k * 4 + 1, none⟩ = some (nI x.2.1) := fun n => cell_keep n.h f (cell_lt f);have z : ∀ n : Cls (fun wx => Bl wr wx), n.w.cell? ⟨D, b + k * 4 + 2, none⟩ = some (nI x.2.2.1) := fun n => cell_keep n.h g (cell_lt g);have A : ∀ n : Cls (fun wx => Bl wr wx), n.w.cell? ⟨D, b + k * 4 + 3, none⟩ = some (nI x.2.2.2) := fun n => cell_keep n.h j (cell_lt j);have C : ∀ n : Cls (fun wx => Bl wr wx), n.w.cell? ⟨o, a + k * 4, none⟩ = some (nI x.1) := fun n => cell_keep n.h m (cell_lt m);have v : ∀ n : Cls (fun wx => Bl wr wx), n.w.cell? ⟨o, a + k * 4 + 1, none⟩ = some (nI x.2.1) := fun n => cell_keep n.h d (cell_lt d);have r : ∀ n : Cls (fun wx => Bl wr wx), n.w.cell? ⟨o, a + k * 4 + 2, none⟩ = some (nI x.2.2.1) := fun n => cell_keep n.h p (cell_lt p);have y : ∀ n : Cls (fun wx => Bl wr wx), n.w.cell? ⟨o, a + k * 4 + 3, none⟩ = some (nI x.2.2.2) := fun n => cell_keep n.h c (cell_lt c);clear F l f g j m d p c;go_wp2_with fail
   refine region_class (fun wx => Bl wr wx) (by kernel_rfl) (by kernel_rfl) ((Below.refl _ wr).drew) ?_;intro G;repeat (quiet_step ((go_at_call 168; exact calls_class (eqOp_rep x.1 x.2.1 x.2.2.1 x.2.2.2 _) (fun w' hc bb => below_step hc bb))))
   refine wpQuiet_nil ?_;intro wx o;replace q := below_step q o;clear o G s C B v z r A y;go_wp2;go_roundw
   case rel => exact ⟨k + 1, by omega, by go_num, q⟩
   case measure => simp [intOf]; omega
  ·go_wp2;go_ret
   exact ⟨rfl, q⟩
abbrev CfgD := Int × Int × Int × Int
abbrev cfgR : Rep CfgD := prodR intR (prodR intR (prodR intR intR))
theorem opens_cfg : Opens Tryz.prog 23 cfgR :=
 opens_struct Tryz.underlying23 (by kernel_rfl) (opensF_cons rfl (by kernel_rfl) opens_i64 (opensF_cons rfl (by kernel_rfl) opens_i64 (opensF_cons rfl (by kernel_rfl) opens_i64 (opensF_one rfl (by kernel_rfl) opens_i64))))
theorem cfg_rd {w : World} {cs : List Value} {u : CfgD} (h : cfgR.rd w cs u) : cs = [nI u.1, nI u.2.1, nI u.2.2.1, nI u.2.2.2] ∧ In64 u.1 ∧ In64 u.2.1 ∧ In64 u.2.2.1 ∧ In64 u.2.2.2 := by
 obtain ⟨c0, e0, rfl, ⟨rfl, d⟩, c1, e1, rfl, ⟨rfl, c⟩, c2, e2, rfl, ⟨rfl, b⟩, ⟨rfl, a⟩⟩ := h;exact ⟨rfl, d, c, b, a⟩
abbrev cfgM : Mk CfgD := prodM intM (prodM intM (prodM intM intM))
theorem op_rd4 {w : World} {cs : List Value} {u : OpD} (h : opR.rd w cs u) : cs = [nI u.1, nI u.2.1, nI u.2.2.1, nI u.2.2.2] ∧ True := ⟨(op_rd h).1, trivial⟩
theorem cfg_rd4 {w : World} {cs : List Value} {u : CfgD} (h : cfgR.rd w cs u) : cs = [nI u.1, nI u.2.1, nI u.2.2.1, nI u.2.2.2] ∧ True := ⟨(cfg_rd h).1, trivial⟩
theorem own_cfg {w : World} {S : Foot} {u : CfgD} (i0 : In64 u.1) (i1 : In64 u.2.1) (i2 : In64 u.2.2.1) (i3 : In64 u.2.2.2) : cfgR.own w S [nI u.1, nI u.2.1, nI u.2.2.1, nI u.2.2.2] u := own_op (u := u) ⟨i0, i1, i2, i3⟩
theorem toOp_u : ToC 144 opR opM aggV := by
 intro cs x w h hm;obtain ⟨rfl, a⟩ := op_rd h;refine (toOp_rep x.1 x.2.1 x.2.2.1 x.2.2.2 w).mono ?_;rintro e w' ⟨rfl, b⟩;exact ⟨[_, _, _, _], rfl, own_op a, b⟩
theorem eqOp_u : EqC 168 opR opM aggV := by
 intro cs ds x w h k hm;obtain ⟨rfl, -⟩ := op_rd h;obtain ⟨rfl, -⟩ := op_rd k;exact eqOp_rep x.1 x.2.1 x.2.2.1 x.2.2.2 w
set_option maxHeartbeats 400000 in
theorem toConfig_rep (k a x y : Int) (w : World) :
    Calls Tryz.prog 26 #[.agg #[nI k, nI a, nI x, nI y]] w fun e w' => e = .returned (.agg #[nI k, nI a, nI x, nI y]) ∧ Bl w w' := by
 have b : Hid (∀ o o' o'', Bl w (((w.alloc o).alloc o').alloc o'')) := fun o o' o'' => below_step (below_step (box_below w o) (box_below _ o')) (box_below _ o'');go_enter Tryz.func26, Tryz.ntmps26;go_wp2;refine bodyPost_ret (v := .agg #[nI k, nI a, nI x, nI y]) (by simp [results, Tryz.results26, go_sem]) rfl ⟨rfl, ?_⟩;exact b.out _ _ _
theorem toConfig_u : ToC 26 cfgR cfgM aggV := by
 intro cs x w h hm;obtain ⟨rfl, a, c, f, d⟩ := cfg_rd h;refine (toConfig_rep x.1 x.2.1 x.2.2.1 x.2.2.2 w).mono ?_;rintro e w' ⟨rfl, b⟩;exact ⟨[_, _, _, _], rfl, own_cfg a c f d, b⟩
theorem eqConfig_rep (k a x y : Int) (w : World) :
    Calls Tryz.prog 40 #[.agg #[nI k, nI a, nI x, nI y], .agg #[nI k, nI a, nI x, nI y]] w fun e w' => e = .returned (.bool true) ∧ Bl w w' := by
 have b : Hid (∀ o o', Bl w ((w.alloc o).alloc o')) := fun o o' => below_step (box_below w o) (box_below _ o');go_enter Tryz.func40, Tryz.ntmps40;go_wp2;go_ret
 exact ⟨rfl, b.out _ _⟩
theorem eqConfig_u : EqC 40 cfgR cfgM aggV := by
 intro cs ds x w h k hm;obtain ⟨rfl, -⟩ := cfg_rd h;obtain ⟨rfl, -⟩ := cfg_rd k;exact eqConfig_rep x.1 x.2.1 x.2.2.1 x.2.2.2 w
end Go.Proofs.YtdamokokcdcedaaGreatDoor
