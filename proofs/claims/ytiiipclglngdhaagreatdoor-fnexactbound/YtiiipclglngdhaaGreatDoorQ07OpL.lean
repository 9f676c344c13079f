import Derived.Test.YtiiipclglngdhaaGreatDoorQ00Box
import Derived.Test.YtiiipclglngdhaaGreatDoorQ03Bits
namespace Go.Proofs.YtiiipclglngdhaaGreatDoor
open Go.ChangeShapes Go.WideShapes Go.ChangeAt Go.RowKit
set_option linter.unusedVariables false
abbrev OpD := Int × Int × Int × Int
abbrev opR : Rep OpD := prodR intR (prodR intR (prodR intR intR))
abbrev opM : Mk OpD := prodM intM (prodM intM (prodM intM intM))
abbrev opsR : Rep (List OpD) := slR 117 opR
abbrev opsM : Mk (List OpD) := slM opM
def In4 (u : OpD) : Prop := In64 u.1 ∧ In64 u.2.1 ∧ In64 u.2.2.1 ∧ In64 u.2.2.2
theorem opens_op : Opens Tryz.prog 100 opR :=
 opens_struct Tryz.underlying100 (by kernel_rfl) (opensF_cons rfl (by kernel_rfl) opens_i64 (opensF_cons rfl (by kernel_rfl) opens_i64 (opensF_cons rfl (by kernel_rfl) opens_i64 (opensF_one rfl (by kernel_rfl) opens_i64))))
theorem opens_ops : Opens Tryz.prog 90 opsR := opens_slice Tryz.underlying90 (by kernel_rfl) (by decide) opens_op
theorem op_rd {w : World} {cs : List Value} {u : OpD} (h : opR.rd w cs u) : cs = [.int .i64 u.1, .int .i64 u.2.1, .int .i64 u.2.2.1, .int .i64 u.2.2.2] ∧ In4 u := by
 obtain ⟨c0, e0, rfl, ⟨rfl, i0⟩, c1, e1, rfl, ⟨rfl, i1⟩, c2, e2, rfl, ⟨rfl, i2⟩, ⟨rfl, i3⟩⟩ := h
 exact ⟨rfl, i0, i1, i2, i3⟩
theorem own_op {w : World} {S : Foot} {u : OpD} (h : In4 u) : opR.own w S [.int .i64 u.1, .int .i64 u.2.1, .int .i64 u.2.2.1, .int .i64 u.2.2.2] u :=
 ⟨[_], [_, _, _], fun _ => False, S, rfl, ⟨rfl, h.1⟩, ⟨[_], [_, _], fun _ => False, S, rfl, ⟨rfl, h.2.1⟩, ⟨[_], [_], fun _ => False, S, rfl, ⟨rfl, h.2.2.1⟩, ⟨rfl, h.2.2.2⟩, fun _ h => h.elim, Sub.refl _, fun _ h _ => h⟩, fun _ h => h.elim, Sub.refl _, fun _ h _ => h⟩, fun _ h => h.elim, Sub.refl _, fun _ h _ => h⟩
theorem made_op {w w' : World} {u : OpD} (h : In4 u) (hb : Below w.heap.size w w') : MadeR opR w w' [.int .i64 u.1, .int .i64 u.2.1, .int .i64 u.2.2.1, .int .i64 u.2.2.2] u := ⟨own_op h, hb⟩
theorem sumbk_ops (xs : List OpD) : sumbk opM xs = 0 := by
 induction xs with
 | nil => rfl
 | cons x xs ih => simp only [sumbk, List.map_cons, List.sum_cons] at ih ⊢; rw [ih]; rfl
theorem bk_ops (xs : List OpD) : opsM.bk xs = xs.length := by
 have h1 : opsM.bk xs = xs.length + sumbk opM xs := rfl
 rw [h1, sumbk_ops]; rfl
theorem op_at {w : World} {a : Option Addr} {xs : List OpD} (h : SlRd opR w a xs) {k : Nat} {x : OpD} (hx : xs[k]? = some x) : ∃ b off, a = some ⟨b, off, none⟩ ∧ w.cell? ⟨b, off + k * 4, none⟩ = some (.int .i64 x.1) ∧ w.cell? ⟨b, off + k * 4 + 1, none⟩ = some (.int .i64 x.2.1) ∧ w.cell? ⟨b, off + k * 4 + 2, none⟩ = some (.int .i64 x.2.2.1) ∧ w.cell? ⟨b, off + k * 4 + 3, none⟩ = some (.int .i64 x.2.2.2) ∧ In4 x := by
 obtain ⟨b, off, cs, rfl, hrd, hc⟩ := slrd_at h hx
 obtain ⟨rfl, h4⟩ := op_rd hrd
 exact ⟨b, off, rfl, hc 0 _ rfl, hc 1 _ rfl, hc 2 _ rfl, hc 3 _ rfl, h4⟩
theorem szOpS_rep (a : Option Addr) (xs : List OpD) (cap : Nat) (left : Int) (w : World) (h0 : 0 ≤ left) (h1 : left ≤ 1048576) (hm : xs.length ≤ maxLen) :
    Calls Tryz.prog 75 #[.slice a xs.length cap, .int .i64 left] w fun e w' => e = .returned (.int .i64 (szI (opsM.bk xs) left)) ∧ w' = w := by
 have hm' : xs.length ≤ 9223372036854775807 := hm
 rw [bk_ops]
 by_cases hl : (xs.length : Int) ≤ left
 ·have HS : Hid (szI xs.length left = _) := szI_yes hl
  have hl' : ¬ (left - (xs.length : Int) < 0) := by omega
  go_enter Tryz.func75, Tryz.ntmps75
  go_wp2
  go_ret
  exact ⟨ret_int HS.out.symm, rfl⟩
 ·have HS : Hid (szI xs.length left = _) := szI_no hl
  have hl' : left - (xs.length : Int) < 0 := by omega
  go_enter Tryz.func75, Tryz.ntmps75
  go_wp2
  go_ret
  exact ⟨ret_int HS.out.symm, rfl⟩
theorem toOp_rep (k a x y : Int) (w : World) :
    Calls Tryz.prog 97 #[.agg #[.int .i64 k, .int .i64 a, .int .i64 x, .int .i64 y]] w fun e w' => e = .returned (.agg #[.int .i64 k, .int .i64 a, .int .i64 x, .int .i64 y]) ∧ Below w.heap.size w w' := by
 have HB : Hid (∀ o o' o'', Below w.heap.size w (((w.alloc o).alloc o').alloc o'')) := fun o o' o'' => below_step (below_step (box_below w o) (box_below _ o')) (box_below _ o'')
 go_enter Tryz.func97, Tryz.ntmps97
 go_wp2
 refine bodyPost_ret (v := .agg #[.int .i64 k, .int .i64 a, .int .i64 x, .int .i64 y]) (by simp [results, Tryz.results97, go_sem]) rfl ⟨rfl, ?_⟩
 exact HB.out _ _ _
theorem Tryz.infoOp : (Tryz.prog.info? 117).map (fun i => (i.zero, i.size, i.bytes)) = some (some (.agg #[.int .i64 0, .int .i64 0, .int .i64 0, .int .i64 0]), 4, 32) := by kernel_rfl
set_option maxHeartbeats 2000000 in
theorem toOpS_rep (a : Option Addr) (xs : List OpD) (cap : Nat) (w : World) (h : SlRd opR w a xs) (hm : opsM.bk xs ≤ 1048576) :
    Calls Tryz.prog 94 #[.slice a xs.length cap] w fun e w' => ∃ v, e = .returned v ∧ MadeR opsR w w' [v] xs := by
 rw [bk_ops] at hm
 have H0 : Hid (SlRd opR w a xs) := h
 clear h
 have hmk := run_make_wide (P := Tryz.prog) 76 117 (.agg #[.int .i64 0, .int .i64 0, .int .i64 0, .int .i64 0]) 4 32 Tryz.underlying76 Tryz.infoOp xs.length (by omega) (by omega)
 go_enter Tryz.func94, Tryz.ntmps94
 go_wp2
 go_loopw [4] (fun i wr => ∃ k : Nat, k ≤ xs.length ∧ i = .int .i64 k ∧ Fill 117 opR w wr xs.length (xs.take k)) (fun i _ => xs.length - (intOf i).toNat)
 case atStart => exact ⟨0, Nat.zero_le _, rfl, by simpa using fillR_start (e := 117) (R := opR) (w0 := w) (n := xs.length) (cs := madeCells #[.int .i64 0, .int .i64 0, .int .i64 0, .int .i64 0] (xs.length * 4)) (by unfold maxLen; omega) (by rw [size_madeCells]; rfl)⟩
 case round =>
  obtain ⟨k, hk, rfl, hF⟩ := hrel
  by_cases hlt : k < xs.length
  ·have hlt' : (k : Int) < (xs.length : Int) := by omega
   obtain ⟨x, hx⟩ : ∃ x, xs[k]? = some x := ⟨_, List.getElem?_eq_getElem hlt⟩
   obtain ⟨b, off, rfl, x0, x1, x2, x3, h4⟩ := op_at (slrd_next H0.out (fill_below hF)) hx
   have FS : Hid (∀ w1 c, MadeR opR wr w1 c x → _) := fun w1 c hm => fillR_step (w1 := w1) (c := c) hF (by simp; omega) hlt hm
   have HP : Hid (xs.take k ++ [x] = xs.take (k + 1)) := by unfold Hid; rw [List.take_add_one, hx]; rfl
   have H4 : Hid (In4 x) := h4
   clear hx hmk hF h4
   go_wp2_with fail
   refine (toOp_rep x.1 x.2.1 x.2.2.1 x.2.2.2 _).mono ?_
   rintro e w1 ⟨rfl, bb⟩
   obtain ⟨q1, q2, F1⟩ := FS.out _ _ (made_op H4.out bb)
   obtain ⟨v0, hv0⟩ := q1 0 (by decide)
   obtain ⟨v1, hv1⟩ := q1 1 (by decide)
   obtain ⟨v2, hv2⟩ := q1 2 (by decide)
   obtain ⟨v3, hv3⟩ := q1 3 (by decide)
   have z0 := q2 (k * 4)
   have z1 := q2 (k * 4 + 1)
   have z2 := q2 (k * 4 + 2)
   have z3 := q2 (k * 4 + 3)
   rw [show k * opR.size + 0 = k * 4 from rfl] at hv0
   rw [show k * opR.size + 1 = k * 4 + 1 from rfl] at hv1
   rw [show k * opR.size + 2 = k * 4 + 2 from rfl] at hv2
   rw [show k * opR.size + 3 = k * 4 + 3 from rfl] at hv3
   rw [HP.out] at F1
   have HF : Hid _ := F1
   clear F1 bb q1 q2 FS x0 x1 x2 x3
   go_wp2
   go_roundw
   case rel => exact ⟨k + 1, by omega, by go_num, HF.out⟩
   case measure => simp [intOf]; omega
  ·have hkl : k = xs.length := by omega
   subst hkl
   rw [List.take_length] at hF
   have FE := fillR_end hF rfl
   clear hF
   go_wp2
   go_ret
   exact ⟨_, rfl, FE⟩
theorem eqOp_rep (k a x y : Int) (w : World) :
    Calls Tryz.prog 118 #[.agg #[.int .i64 k, .int .i64 a, .int .i64 x, .int .i64 y], .agg #[.int .i64 k, .int .i64 a, .int .i64 x, .int .i64 y]] w fun e w' => e = .returned (.bool true) ∧ Below w.heap.size w w' := by
 have HB : Hid (∀ o o', Below w.heap.size w ((w.alloc o).alloc o')) := fun o o' => below_step (box_below w o) (box_below _ o')
 go_enter Tryz.func118, Tryz.ntmps118
 go_wp2
 go_ret
 exact ⟨rfl, HB.out _ _⟩
set_option maxHeartbeats 2000000 in
theorem eqOpS_rep (a1 a2 : Option Addr) (xs : List OpD) (c1 c2 : Nat) (w : World) (h1 : SlRd opR w a1 xs) (h2 : SlRd opR w a2 xs) (hm : opsM.bk xs ≤ 1152921504606846976) :
    Calls Tryz.prog 115 #[.slice a1 xs.length c1, .slice a2 xs.length c2] w fun e w' => e = .returned (.bool true) ∧ Below w.heap.size w w' := by
 rw [bk_ops] at hm
 have H1 : Hid (∀ W, Below w.heap.size w W → SlRd opR W a1 xs) := fun W hb => slrd_keep h1 fun k hk => hb.block k hk
 have H2 : Hid (∀ W, Below w.heap.size w W → SlRd opR W a2 xs) := fun W hb => slrd_keep h2 fun k hk => hb.block k hk
 clear h1 h2
 go_enter Tryz.func115, Tryz.ntmps115
 go_wp2
 go_loopw [5] (fun i wr => ∃ k : Nat, k ≤ xs.length ∧ i = .int .i64 k ∧ Below w.heap.size w wr) (fun i _ => xs.length - (intOf i).toNat)
 case atStart => exact ⟨0, Nat.zero_le _, rfl, Below.refl _ _⟩
 case round =>
  obtain ⟨k, hk, rfl, BB⟩ := hrel
  by_cases hlt : k < xs.length
  ·have hlt' : (k : Int) < (xs.length : Int) := by omega
   obtain ⟨x, hx⟩ : ∃ x, xs[k]? = some x := ⟨_, List.getElem?_eq_getElem hlt⟩
   obtain ⟨b1, off1, rfl, x10, x11, x12, x13, -⟩ := op_at (H1.out _ BB) hx
   obtain ⟨b2, off2, rfl, x20, x21, x22, x23, -⟩ := op_at (H2.out _ BB) hx
   have x10c : ∀ n : Cls (fun wx => Below wr.heap.size wr wx), n.w.cell? ⟨b1, off1 + k * 4, none⟩ = some (.int .i64 x.1) := fun n => cell_keep n.h x10 (cell_lt x10)
   have x11c : ∀ n : Cls (fun wx => Below wr.heap.size wr wx), n.w.cell? ⟨b1, off1 + k * 4 + 1, none⟩ = some (.int .i64 x.2.1) := fun n => cell_keep n.h x11 (cell_lt x11)
   have x12c : ∀ n : Cls (fun wx => Below wr.heap.size wr wx), n.w.cell? ⟨b1, off1 + k * 4 + 2, none⟩ = some (.int .i64 x.2.2.1) := fun n => cell_keep n.h x12 (cell_lt x12)
   have x13c : ∀ n : Cls (fun wx => Below wr.heap.size wr wx), n.w.cell? ⟨b1, off1 + k * 4 + 3, none⟩ = some (.int .i64 x.2.2.2) := fun n => cell_keep n.h x13 (cell_lt x13)
   have x20c : ∀ n : Cls (fun wx => Below wr.heap.size wr wx), n.w.cell? ⟨b2, off2 + k * 4, none⟩ = some (.int .i64 x.1) := fun n => cell_keep n.h x20 (cell_lt x20)
   have x21c : ∀ n : Cls (fun wx => Below wr.heap.size wr wx), n.w.cell? ⟨b2, off2 + k * 4 + 1, none⟩ = some (.int .i64 x.2.1) := fun n => cell_keep n.h x21 (cell_lt x21)
   have x22c : ∀ n : Cls (fun wx => Below wr.heap.size wr wx), n.w.cell? ⟨b2, off2 + k * 4 + 2, none⟩ = some (.int .i64 x.2.2.1) := fun n => cell_keep n.h x22 (cell_lt x22)
   have x23c : ∀ n : Cls (fun wx => Below wr.heap.size wr wx), n.w.cell? ⟨b2, off2 + k * 4 + 3, none⟩ = some (.int .i64 x.2.2.2) := fun n => cell_keep n.h x23 (cell_lt x23)
   clear hx x10 x11 x12 x13 x20 x21 x22 x23
   go_wp2_with fail
   refine region_class (fun wx => Below wr.heap.size wr wx) (by kernel_rfl) (by kernel_rfl) ((Below.refl _ wr).drew) ?_
   intro hne
   repeat (quiet_step ((go_at_call 118; exact calls_class (eqOp_rep x.1 x.2.1 x.2.2.1 x.2.2.2 _) (fun w' hc bb => below_step hc bb))))
   refine wpQuiet_nil ?_
   intro wx b2
   replace BB := below_step BB b2
   clear b2 hne x10c x20c x11c x21c x12c x22c x13c x23c
   go_wp2
   go_roundw
   case rel => exact ⟨k + 1, by omega, by go_num, BB⟩
   case measure => simp [intOf]; omega
  ·go_wp2
   go_ret
   exact ⟨rfl, BB⟩
abbrev CfgD := Int × Int × Int × Int
abbrev cfgR : Rep CfgD := prodR intR (prodR intR (prodR intR intR))
theorem opens_cfg : Opens Tryz.prog 23 cfgR :=
 opens_struct Tryz.underlying23 (by kernel_rfl) (opensF_cons rfl (by kernel_rfl) opens_i64 (opensF_cons rfl (by kernel_rfl) opens_i64 (opensF_cons rfl (by kernel_rfl) opens_i64 (opensF_one rfl (by kernel_rfl) opens_i64))))
theorem cfg_rd {w : World} {cs : List Value} {u : CfgD} (h : cfgR.rd w cs u) : cs = [.int .i64 u.1, .int .i64 u.2.1, .int .i64 u.2.2.1, .int .i64 u.2.2.2] ∧ In64 u.1 ∧ In64 u.2.1 ∧ In64 u.2.2.1 ∧ In64 u.2.2.2 := by
 obtain ⟨c0, e0, rfl, ⟨rfl, i0⟩, c1, e1, rfl, ⟨rfl, i1⟩, c2, e2, rfl, ⟨rfl, i2⟩, ⟨rfl, i3⟩⟩ := h
 exact ⟨rfl, i0, i1, i2, i3⟩
abbrev cfgM : Mk CfgD := prodM intM (prodM intM (prodM intM intM))
theorem op_rd4 {w : World} {cs : List Value} {u : OpD} (h : opR.rd w cs u) : cs = [.int .i64 u.1, .int .i64 u.2.1, .int .i64 u.2.2.1, .int .i64 u.2.2.2] ∧ True := ⟨(op_rd h).1, trivial⟩
theorem cfg_rd4 {w : World} {cs : List Value} {u : CfgD} (h : cfgR.rd w cs u) : cs = [.int .i64 u.1, .int .i64 u.2.1, .int .i64 u.2.2.1, .int .i64 u.2.2.2] ∧ True := ⟨(cfg_rd h).1, trivial⟩
theorem own_cfg {w : World} {S : Foot} {u : CfgD} (i0 : In64 u.1) (i1 : In64 u.2.1) (i2 : In64 u.2.2.1) (i3 : In64 u.2.2.2) : cfgR.own w S [.int .i64 u.1, .int .i64 u.2.1, .int .i64 u.2.2.1, .int .i64 u.2.2.2] u := own_op (u := u) ⟨i0, i1, i2, i3⟩
theorem toOp_u : ToC 97 opR opM aggV := by
 intro cs x w h hm
 obtain ⟨rfl, h4⟩ := op_rd h
 refine (toOp_rep x.1 x.2.1 x.2.2.1 x.2.2.2 w).mono ?_
 rintro e w' ⟨rfl, b⟩
 exact ⟨[_, _, _, _], rfl, own_op h4, b⟩
theorem eqOp_u : EqC 118 opR opM aggV := by
 intro cs ds x w h k hm
 obtain ⟨rfl, -⟩ := op_rd h
 obtain ⟨rfl, -⟩ := op_rd k
 exact eqOp_rep x.1 x.2.1 x.2.2.1 x.2.2.2 w
set_option maxHeartbeats 400000 in
theorem toConfig_rep (k a x y : Int) (w : World) :
    Calls Tryz.prog 19 #[.agg #[.int .i64 k, .int .i64 a, .int .i64 x, .int .i64 y]] w fun e w' => e = .returned (.agg #[.int .i64 k, .int .i64 a, .int .i64 x, .int .i64 y]) ∧ Below w.heap.size w w' := by
 have HB : Hid (∀ o o' o'', Below w.heap.size w (((w.alloc o).alloc o').alloc o'')) := fun o o' o'' => below_step (below_step (box_below w o) (box_below _ o')) (box_below _ o'')
 go_enter Tryz.func19, Tryz.ntmps19
 go_wp2
 refine bodyPost_ret (v := .agg #[.int .i64 k, .int .i64 a, .int .i64 x, .int .i64 y]) (by simp [results, Tryz.results19, go_sem]) rfl ⟨rfl, ?_⟩
 exact HB.out _ _ _
theorem toConfig_u : ToC 19 cfgR cfgM aggV := by
 intro cs x w h hm
 obtain ⟨rfl, i0, i1, i2, i3⟩ := cfg_rd h
 refine (toConfig_rep x.1 x.2.1 x.2.2.1 x.2.2.2 w).mono ?_
 rintro e w' ⟨rfl, b⟩
 exact ⟨[_, _, _, _], rfl, own_cfg i0 i1 i2 i3, b⟩
theorem eqConfig_rep (k a x y : Int) (w : World) :
    Calls Tryz.prog 27 #[.agg #[.int .i64 k, .int .i64 a, .int .i64 x, .int .i64 y], .agg #[.int .i64 k, .int .i64 a, .int .i64 x, .int .i64 y]] w fun e w' => e = .returned (.bool true) ∧ Below w.heap.size w w' := by
 have HB : Hid (∀ o o', Below w.heap.size w ((w.alloc o).alloc o')) := fun o o' => below_step (box_below w o) (box_below _ o')
 go_enter Tryz.func27, Tryz.ntmps27
 go_wp2
 go_ret
 exact ⟨rfl, HB.out _ _⟩
theorem eqConfig_u : EqC 27 cfgR cfgM aggV := by
 intro cs ds x w h k hm
 obtain ⟨rfl, -⟩ := cfg_rd h
 obtain ⟨rfl, -⟩ := cfg_rd k
 exact eqConfig_rep x.1 x.2.1 x.2.2.1 x.2.2.2 w
end Go.Proofs.YtiiipclglngdhaaGreatDoor
