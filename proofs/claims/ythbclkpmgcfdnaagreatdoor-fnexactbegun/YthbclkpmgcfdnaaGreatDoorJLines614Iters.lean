
/- Lines6, OpL, MarkOp, HeldOp, Owned, PutL, Spread, ToldApp, UBase, UPair, GxKit, StoreC, Ways, Iters. -/
import Derived.Test.YthbclkpmgcfdnaaGreatDoorJOwn516Lines4
import Derived.LoopN
import Derived.Deep.Cut
import Derived.Deep.DeepCutAuto
import Derived.Deep.RegionWith
import Derived.RangeFuncCalls
import Derived.Shelf.RegionOpen
import Derived.OwnWalkIn
import Derived.TacticsInMore
import Derived.LoopNIn
import Derived.LoopIn
import Derived.Test.YthbclkpmgcfdnaaGreatDoorJLists8CacheFacts
/- The contracts of lines, of the specification: what LineOk, WordAt, Put and Masked answer; lists are new memory. Conditions: lists of at most 2^20 numbers. -/
namespace Go.Proofs.YthbclkpmgcfdnaaGreatDoor
open Go.ChangeShapes Go.WideShapes Go.ChangeAt Go.RowKit

set_option maxHeartbeats 400000 in
theorem l3Word_any (k : Int) (w : World) : Calls Tryz.prog 135 #[.int .i64 k] w fun e w' => e = .returned (.bool (okW k)) ∧ w' = w := by
  go_enter Tryz.func135, Tryz.ntmps135
  go_wp2_with (go_at_call 54; refine (l1In_any _ _ _ _).mono ?_; rintro e w' ⟨rfl, rfl⟩)
  go_ret
  exact ⟨rfl, rfl⟩

set_option maxHeartbeats 400000 in
theorem specLineOk_not (a : Option Addr) (n cap : Nat) (w : World) (hn : n ≠ 2) :
    Calls Tryz.prog 136 #[.slice a n cap] w fun e w' => e = .returned (.bool false) ∧ w' = w := by
  have hn' : ((n : Int) == 2) = false := by simp; omega
  go_enter Tryz.func136, Tryz.ntmps136
  go_wp2
  go_ret
  exact ⟨rfl, rfl⟩

set_option maxHeartbeats 400000 in
theorem specLineOk_two (a : Option Addr) (x y : Int) (cap : Nat) (w : World) (h : Reads w a [x, y]) :
    Calls Tryz.prog 136 #[.slice a 2 cap] w fun e w' => e = .returned (.bool (okW x && okW y)) ∧ w' = w := by
  obtain ⟨b, off, rfl, c0, c1⟩ := reads_two h
  clear h
  cases hx : okW x <;> cases hy : okW y
  all_goals
    go_enter Tryz.func136, Tryz.ntmps136
    go_wp2_with (go_at_call 135; refine (l3Word_any _ _).mono ?_; rintro e w' ⟨rfl, rfl⟩)
    go_ret
    exact ⟨rfl, rfl⟩

theorem specLineOk_any (a : Option Addr) (xs : List Int) (cap : Nat) (w : World) (h : Reads w a xs) :
    Calls Tryz.prog 136 #[.slice a xs.length cap] w fun e w' => e = .returned (.bool (isL xs)) ∧ w' = w := by
  match xs with
  | [x, y] => exact specLineOk_two a x y cap w h
  | [] => exact specLineOk_not a 0 cap w (by simp)
  | [_] => exact specLineOk_not a 1 cap w (by simp)
  | _ :: _ :: _ :: r => exact specLineOk_not a (r.length + 1 + 1 + 1) cap w (by omega)


end Go.Proofs.YthbclkpmgcfdnaaGreatDoor
/- Ops and lists of ops as they lie in memory; the contracts of the laws' own helpers over them: how great, a copy, alike, marks. Conditions: lengths that a machine can hold. -/
namespace Go.Proofs.YthbclkpmgcfdnaaGreatDoor
open Go.ChangeShapes Go.WideShapes Go.ChangeAt Go.RowKit
set_option linter.unusedVariables false
abbrev OpD := Int × Int × Int × Int
abbrev opR : Rep OpD := prodR intR (prodR intR (prodR intR intR))
abbrev opM : Mk OpD := prodM intM (prodM intM (prodM intM intM))
abbrev opsR : Rep (List OpD) := slR 54 opR
abbrev opsM : Mk (List OpD) := slM opM
def In4 (u : OpD) : Prop := In64 u.1 ∧ In64 u.2.1 ∧ In64 u.2.2.1 ∧ In64 u.2.2.2
theorem opens_op : Opens Tryz.prog 160 opR :=
  opens_struct Tryz.underlying160 (by kernel_rfl) (opensF_cons rfl (by kernel_rfl) opens_i64 (opensF_cons rfl (by kernel_rfl) opens_i64 (opensF_cons rfl (by kernel_rfl) opens_i64 (opensF_one rfl (by kernel_rfl) opens_i64))))
theorem opens_ops : Opens Tryz.prog 62 opsR := opens_slice Tryz.underlying62 (by kernel_rfl) (by decide) opens_op
theorem op_rd {w : World} {cs : List Value} {u : OpD} (h : opR.rd w cs u) : cs = [.int .i64 u.1, .int .i64 u.2.1, .int .i64 u.2.2.1, .int .i64 u.2.2.2] ∧ In4 u := by
  obtain ⟨c0, e0, rfl, ⟨rfl, i0⟩, c1, e1, rfl, ⟨rfl, i1⟩, c2, e2, rfl, ⟨rfl, i2⟩, ⟨rfl, i3⟩⟩ := h
  exact ⟨rfl, i0, i1, i2, i3⟩
theorem own_op {w : World} {S : Foot} {u : OpD} (h : In4 u) : opR.own w S [.int .i64 u.1, .int .i64 u.2.1, .int .i64 u.2.2.1, .int .i64 u.2.2.2] u :=
  ⟨[_], [_, _, _], fun _ => False, S, rfl, ⟨rfl, h.1⟩, ⟨[_], [_, _], fun _ => False, S, rfl, ⟨rfl, h.2.1⟩, ⟨[_], [_], fun _ => False, S, rfl, ⟨rfl, h.2.2.1⟩, ⟨rfl, h.2.2.2⟩, fun _ h => h.elim, Sub.refl _, fun _ h _ => h⟩, fun _ h => h.elim, Sub.refl _, fun _ h _ => h⟩, fun _ h => h.elim, Sub.refl _, fun _ h _ => h⟩
theorem made_op {w w' : World} {u : OpD} (h : In4 u) (hb : Below w.heap.size w w') : MadeR opR w w' [.int .i64 u.1, .int .i64 u.2.1, .int .i64 u.2.2.1, .int .i64 u.2.2.2] u := ⟨own_op h, hb⟩
theorem sumbk_ops (xs : List OpD) : sumbk opM xs = 0 := by
  induction xs with
  | nil => rfl
  | cons x xs ih => simp only [sumbk, List.map_cons, List.sum_cons] at ih ⊢; rw [ih]; rfl
theorem bk_ops (xs : List OpD) : opsM.bk xs = xs.length := by
  have h1 : opsM.bk xs = xs.length + sumbk opM xs := rfl
  rw [h1, sumbk_ops]; rfl
theorem cnt_ops (xs : List OpD) : slcnt opM xs = 4 * xs.length := by
  induction xs with
  | nil => rfl
  | cons x xs ih =>
    simp only [slcnt, List.map_cons, List.sum_cons, List.length_cons] at ih ⊢
    rw [ih]
    show 1 + (1 + (1 + 1)) + _ = _
    omega
/-- The cells of op number k of a list. -/
theorem op_at {w : World} {a : Option Addr} {xs : List OpD} (h : SlRd opR w a xs) {k : Nat} {x : OpD} (hx : xs[k]? = some x) : ∃ b off, a = some ⟨b, off, none⟩ ∧ w.cell? ⟨b, off + k * 4, none⟩ = some (.int .i64 x.1) ∧ w.cell? ⟨b, off + k * 4 + 1, none⟩ = some (.int .i64 x.2.1) ∧ w.cell? ⟨b, off + k * 4 + 2, none⟩ = some (.int .i64 x.2.2.1) ∧ w.cell? ⟨b, off + k * 4 + 3, none⟩ = some (.int .i64 x.2.2.2) ∧ In4 x := by
  obtain ⟨b, off, cs, rfl, hrd, hc⟩ := slrd_at h hx
  obtain ⟨rfl, h4⟩ := op_rd hrd
  exact ⟨b, off, rfl, hc 0 _ rfl, hc 1 _ rfl, hc 2 _ rfl, hc 3 _ rfl, h4⟩

theorem szOpS_rep (a : Option Addr) (xs : List OpD) (cap : Nat) (left : Int) (w : World) (h0 : 0 ≤ left) (h1 : left ≤ 1048576) (hm : xs.length ≤ maxLen) :
    Calls Tryz.prog 82 #[.slice a xs.length cap, .int .i64 left] w fun e w' => e = .returned (.int .i64 (szI (opsM.bk xs) left)) ∧ w' = w := by
  have hm' : xs.length ≤ 9223372036854775807 := hm
  rw [bk_ops]
  by_cases hl : (xs.length : Int) ≤ left
  · have HS : Hid (szI xs.length left = _) := szI_yes hl
    have hl' : ¬ (left - (xs.length : Int) < 0) := by omega
    go_enter Tryz.func82, Tryz.ntmps82
    go_wp2
    go_ret
    exact ⟨ret_int HS.out.symm, rfl⟩
  · have HS : Hid (szI xs.length left = _) := szI_no hl
    have hl' : left - (xs.length : Int) < 0 := by omega
    go_enter Tryz.func82, Tryz.ntmps82
    go_wp2
    go_ret
    exact ⟨ret_int HS.out.symm, rfl⟩
theorem toOp_rep (k a x y : Int) (w : World) :
    Calls Tryz.prog 145 #[.agg #[.int .i64 k, .int .i64 a, .int .i64 x, .int .i64 y]] w fun e w' => e = .returned (.agg #[.int .i64 k, .int .i64 a, .int .i64 x, .int .i64 y]) ∧ Below w.heap.size w w' := by
  have HB : Hid (∀ o o' o'', Below w.heap.size w (((w.alloc o).alloc o').alloc o'')) := fun o o' o'' => below_step (below_step (box_below w o) (box_below _ o')) (box_below _ o'')
  go_enter Tryz.func145, Tryz.ntmps145
  go_wp2
  refine bodyPost_ret (v := .agg #[.int .i64 k, .int .i64 a, .int .i64 x, .int .i64 y]) (by simp [results, Tryz.results145, go_sem]) rfl ⟨rfl, ?_⟩
  exact HB.out _ _ _

theorem Tryz.infoOp : (Tryz.prog.info? 54).map (fun i => (i.zero, i.size, i.bytes)) = some (some (.agg #[.int .i64 0, .int .i64 0, .int .i64 0, .int .i64 0]), 4, 32) := by kernel_rfl
set_option maxHeartbeats 2000000 in
theorem toOpS_rep (a : Option Addr) (xs : List OpD) (cap : Nat) (w : World) (h : SlRd opR w a xs) (hm : opsM.bk xs ≤ 1048576) :
    Calls Tryz.prog 86 #[.slice a xs.length cap] w fun e w' => ∃ v, e = .returned v ∧ MadeR opsR w w' [v] xs := by
  rw [bk_ops] at hm
  have H0 : Hid (SlRd opR w a xs) := h
  clear h
  have hmk := run_make_wide (P := Tryz.prog) 28 54 (.agg #[.int .i64 0, .int .i64 0, .int .i64 0, .int .i64 0]) 4 32 Tryz.underlying28 Tryz.infoOp xs.length (by omega) (by omega)
  go_enter Tryz.func86, Tryz.ntmps86
  go_wp2
  go_loopw [4] (fun i wr => ∃ k : Nat, k ≤ xs.length ∧ i = .int .i64 k ∧ Fill 54 opR w wr xs.length (xs.take k)) (fun i _ => xs.length - (intOf i).toNat)
  case atStart => exact ⟨0, Nat.zero_le _, rfl, by simpa using fillR_start (e := 54) (R := opR) (w0 := w) (n := xs.length) (cs := madeCells #[.int .i64 0, .int .i64 0, .int .i64 0, .int .i64 0] (xs.length * 4)) (by unfold maxLen; omega) (by rw [size_madeCells]; rfl)⟩
  case round =>
    obtain ⟨k, hk, rfl, hF⟩ := hrel
    by_cases hlt : k < xs.length
    · have hlt' : (k : Int) < (xs.length : Int) := by omega
      obtain ⟨x, hx⟩ : ∃ x, xs[k]? = some x := ⟨_, List.getElem?_eq_getElem hlt⟩
      obtain ⟨b, off, rfl, x0, x1, x2, x3, h4⟩ := op_at (slrd_next H0.out (fill_below hF)) hx
      have FS : Hid (∀ w1 c, MadeR opR wr w1 c x → _) := fun w1 c hm => fillR_step (w1 := w1) (c := c) hF (by simp; omega) hlt hm
      have HP : Hid (xs.take k ++ [x] = xs.take (k + 1)) := by unfold Hid; rw [List.take_add_one, hx]; rfl
      have H4 : Hid (In4 x) := h4
      clear hx hmk hF h4
      go_wp2_with fail
      refine (toOp_rep x.1 x.2.1 x.2.2.1 x.2.2.2 _).mono ?_
      rintro e w1 ⟨rfl, bb⟩
      obtain ⟨q1, q2, F1⟩ := FS.out _ _ (made_op H4.out bb)
      obtain ⟨v0, hv0⟩ := q1 0 (by decide)
      obtain ⟨v1, hv1⟩ := q1 1 (by decide)
      obtain ⟨v2, hv2⟩ := q1 2 (by decide)
      obtain ⟨v3, hv3⟩ := q1 3 (by decide)
      have z0 := q2 (k * 4)
      have z1 := q2 (k * 4 + 1)
      have z2 := q2 (k * 4 + 2)
      have z3 := q2 (k * 4 + 3)
      rw [show k * opR.size + 0 = k * 4 from rfl] at hv0
      rw [show k * opR.size + 1 = k * 4 + 1 from rfl] at hv1
      rw [show k * opR.size + 2 = k * 4 + 2 from rfl] at hv2
      rw [show k * opR.size + 3 = k * 4 + 3 from rfl] at hv3
      rw [HP.out] at F1
      have HF : Hid _ := F1
      clear F1 bb q1 q2 FS x0 x1 x2 x3
      go_wp2
      go_roundw
      case rel => exact ⟨k + 1, by omega, by go_num, HF.out⟩
      case measure => simp [intOf]; omega
    · have hkl : k = xs.length := by omega
      subst hkl
      rw [List.take_length] at hF
      have FE := fillR_end hF rfl
      clear hF
      go_wp2
      go_ret
      exact ⟨_, rfl, FE⟩
theorem eqOp_rep (k a x y : Int) (w : World) :
    Calls Tryz.prog 147 #[.agg #[.int .i64 k, .int .i64 a, .int .i64 x, .int .i64 y], .agg #[.int .i64 k, .int .i64 a, .int .i64 x, .int .i64 y]] w fun e w' => e = .returned (.bool true) ∧ Below w.heap.size w w' := by
  have HB : Hid (∀ o o', Below w.heap.size w ((w.alloc o).alloc o')) := fun o o' => below_step (box_below w o) (box_below _ o')
  go_enter Tryz.func147, Tryz.ntmps147
  go_wp2
  go_ret
  exact ⟨rfl, HB.out _ _⟩

set_option maxHeartbeats 2000000 in
theorem eqOpS_rep (a1 a2 : Option Addr) (xs : List OpD) (c1 c2 : Nat) (w : World) (h1 : SlRd opR w a1 xs) (h2 : SlRd opR w a2 xs) (hm : opsM.bk xs ≤ 1152921504606846976) :
    Calls Tryz.prog 90 #[.slice a1 xs.length c1, .slice a2 xs.length c2] w fun e w' => e = .returned (.bool true) ∧ Below w.heap.size w w' := by
  rw [bk_ops] at hm
  have H1 : Hid (∀ W, Below w.heap.size w W → SlRd opR W a1 xs) := fun W hb => slrd_keep h1 fun k hk => hb.block k hk
  have H2 : Hid (∀ W, Below w.heap.size w W → SlRd opR W a2 xs) := fun W hb => slrd_keep h2 fun k hk => hb.block k hk
  clear h1 h2
  go_enter Tryz.func90, Tryz.ntmps90
  go_wp2
  go_loopw [5] (fun i wr => ∃ k : Nat, k ≤ xs.length ∧ i = .int .i64 k ∧ Below w.heap.size w wr) (fun i _ => xs.length - (intOf i).toNat)
  case atStart => exact ⟨0, Nat.zero_le _, rfl, Below.refl _ _⟩
  case round =>
    obtain ⟨k, hk, rfl, BB⟩ := hrel
    by_cases hlt : k < xs.length
    · have hlt' : (k : Int) < (xs.length : Int) := by omega
      obtain ⟨x, hx⟩ : ∃ x, xs[k]? = some x := ⟨_, List.getElem?_eq_getElem hlt⟩
      obtain ⟨b1, off1, rfl, x10, x11, x12, x13, -⟩ := op_at (H1.out _ BB) hx
      obtain ⟨b2, off2, rfl, x20, x21, x22, x23, -⟩ := op_at (H2.out _ BB) hx
      have x10c : ∀ n : Cls (fun wx => Below wr.heap.size wr wx), n.w.cell? ⟨b1, off1 + k * 4, none⟩ = some (.int .i64 x.1) := fun n => cell_keep n.h x10 (cell_lt x10)
      have x11c : ∀ n : Cls (fun wx => Below wr.heap.size wr wx), n.w.cell? ⟨b1, off1 + k * 4 + 1, none⟩ = some (.int .i64 x.2.1) := fun n => cell_keep n.h x11 (cell_lt x11)
      have x12c : ∀ n : Cls (fun wx => Below wr.heap.size wr wx), n.w.cell? ⟨b1, off1 + k * 4 + 2, none⟩ = some (.int .i64 x.2.2.1) := fun n => cell_keep n.h x12 (cell_lt x12)
      have x13c : ∀ n : Cls (fun wx => Below wr.heap.size wr wx), n.w.cell? ⟨b1, off1 + k * 4 + 3, none⟩ = some (.int .i64 x.2.2.2) := fun n => cell_keep n.h x13 (cell_lt x13)
      have x20c : ∀ n : Cls (fun wx => Below wr.heap.size wr wx), n.w.cell? ⟨b2, off2 + k * 4, none⟩ = some (.int .i64 x.1) := fun n => cell_keep n.h x20 (cell_lt x20)
      have x21c : ∀ n : Cls (fun wx => Below wr.heap.size wr wx), n.w.cell? ⟨b2, off2 + k * 4 + 1, none⟩ = some (.int .i64 x.2.1) := fun n => cell_keep n.h x21 (cell_lt x21)
      have x22c : ∀ n : Cls (fun wx => Below wr.heap.size wr wx), n.w.cell? ⟨b2, off2 + k * 4 + 2, none⟩ = some (.int .i64 x.2.2.1) := fun n => cell_keep n.h x22 (cell_lt x22)
      have x23c : ∀ n : Cls (fun wx => Below wr.heap.size wr wx), n.w.cell? ⟨b2, off2 + k * 4 + 3, none⟩ = some (.int .i64 x.2.2.2) := fun n => cell_keep n.h x23 (cell_lt x23)
      clear hx x10 x11 x12 x13 x20 x21 x22 x23
      go_wp2_with fail
      refine region_class (fun wx => Below wr.heap.size wr wx) (by kernel_rfl) (by kernel_rfl) ((Below.refl _ wr).drew) ?_
      intro hne
      repeat (quiet_step ((go_at_call 147; exact calls_class (eqOp_rep x.1 x.2.1 x.2.2.1 x.2.2.2 _) (fun w' hc bb => below_step hc bb))))
      refine wpQuiet_nil ?_
      intro wx b2
      replace BB := below_step BB b2
      clear b2 hne x10c x20c x11c x21c x12c x22c x13c x23c
      go_wp2
      go_roundw
      case rel => exact ⟨k + 1, by omega, by go_num, BB⟩
      case measure => simp [intOf]; omega
    · go_wp2
      go_ret
      exact ⟨rfl, BB⟩
end Go.Proofs.YthbclkpmgcfdnaaGreatDoor
/- Marks of lists of ops, of the laws' own helper. Conditions: lengths that a machine can hold. -/
namespace Go.Proofs.YthbclkpmgcfdnaaGreatDoor
open Go.ChangeShapes Go.WideShapes Go.ChangeAt Go.RowKit
set_option linter.unusedVariables false
theorem op_own4 {w : World} {S : Foot} {c : List Value} {u : OpD} (h : opR.own w S c u) : c = [.int .i64 u.1, .int .i64 u.2.1, .int .i64 u.2.2.1, .int .i64 u.2.2.2] ∧ In4 u := op_rd (opR.own_rd h)
theorem op_set0 {w : World} {c : List Value} {x : OpD} {y : Int} (hy : In64 y) (hr : opR.rd w c x) : ∀ W T, opR.own W T c x → opR.own W T (c.set 0 (.int .i64 y)) (y, x.2) := by
  intro W T ho
  obtain ⟨rfl, h⟩ := op_own4 ho
  exact own_op (u := (y, x.2)) ⟨hy, h.2.1, h.2.2.1, h.2.2.2⟩
theorem op_set1 {w : World} {c : List Value} {x : OpD} {y : Int} (hy : In64 y) (hr : opR.rd w c x) : ∀ W T, opR.own W T c x → opR.own W T (c.set 1 (.int .i64 y)) (x.1, y, x.2.2) := by
  intro W T ho
  obtain ⟨rfl, h⟩ := op_own4 ho
  exact own_op (u := (x.1, y, x.2.2)) ⟨h.1, hy, h.2.2.1, h.2.2.2⟩
theorem op_set2 {w : World} {c : List Value} {x : OpD} {y : Int} (hy : In64 y) (hr : opR.rd w c x) : ∀ W T, opR.own W T c x → opR.own W T (c.set 2 (.int .i64 y)) (x.1, x.2.1, y, x.2.2.2) := by
  intro W T ho
  obtain ⟨rfl, h⟩ := op_own4 ho
  exact own_op (u := (x.1, x.2.1, y, x.2.2.2)) ⟨h.1, h.2.1, hy, h.2.2.2⟩
theorem op_set3 {w : World} {c : List Value} {x : OpD} {y : Int} (hy : In64 y) (hr : opR.rd w c x) : ∀ W T, opR.own W T c x → opR.own W T (c.set 3 (.int .i64 y)) (x.1, x.2.1, x.2.2.1, y) := by
  intro W T ho
  obtain ⟨rfl, h⟩ := op_own4 ho
  exact own_op (u := (x.1, x.2.1, x.2.2.1, y)) ⟨h.1, h.2.1, h.2.2.1, hy⟩
theorem in64_k {k : Int} (h0 : 0 ≤ k) (h1 : k ≤ 1152921504606846976) : In64 k := by constructor <;> omega
theorem get_set {α : Type} {xs : List α} {j : Nat} {x a : α} (h : xs[j]? = some x) : (xs.set j a)[j]? = some a := by
  rw [List.getElem?_set_self (List.getElem?_eq_some_iff.1 h).1]

theorem markOpS_nil (k : Int) (w : World) :
    Calls Tryz.prog 94 #[.slice none 0 0, .int .i64 k] w fun e' w' => e' = .returned (.int .i64 k) ∧ w' = w := by
  go_enter Tryz.func94, Tryz.ntmps94
  go_wp2
  refine wp_loop_rounds 1 ?_
  rw [rounds_succ]
  go_wp2
  go_ret
  exact ⟨rfl, rfl⟩
/-- The four stores of one round. -/
theorem markOp_round {S : Foot} {G n cap j : Nat} {w : World} {xs : List OpD} {x : OpD} {kk : Int} (h0 : 0 ≤ kk) (h1 : kk ≤ 1152921504606846970) (h : opsR.own w S [.slice (some ⟨G, 0, none⟩) n cap] xs) (hx : xs[j]? = some x) :
    opsR.own ((((w.setCell ⟨G, j * 4, none⟩ (.int .i64 kk)).setCell ⟨G, j * 4 + 1, none⟩ (.int .i64 (kk + 1))).setCell ⟨G, j * 4 + 2, none⟩ (.int .i64 (kk + 1 + 1))).setCell ⟨G, j * 4 + 3, none⟩ (.int .i64 (kk + 1 + 1 + 1))) S [.slice (some ⟨G, 0, none⟩) n cap] (xs.set j (kk, kk + 1, kk + 1 + 1, kk + 1 + 1 + 1)) ∧
    Chg (fun k => k = G) w ((((w.setCell ⟨G, j * 4, none⟩ (.int .i64 kk)).setCell ⟨G, j * 4 + 1, none⟩ (.int .i64 (kk + 1))).setCell ⟨G, j * 4 + 2, none⟩ (.int .i64 (kk + 1 + 1))).setCell ⟨G, j * 4 + 3, none⟩ (.int .i64 (kk + 1 + 1 + 1))) := by
  have a1 := elem_set (i := 0) (v := .int .i64 kk) h hx (by decide) (fun c hr => op_set0 (in64_k (by omega) (by omega)) hr)
  have a2 := elem_set (i := 1) (v := .int .i64 (kk + 1)) a1 (get_set hx) (by decide) (fun c hr => op_set1 (in64_k (by omega) (by omega)) hr)
  rw [List.set_set] at a2
  have a3 := elem_set (i := 2) (v := .int .i64 (kk + 1 + 1)) a2 (get_set hx) (by decide) (fun c hr => op_set2 (in64_k (by omega) (by omega)) hr)
  rw [List.set_set] at a3
  have a4 := elem_set (i := 3) (v := .int .i64 (kk + 1 + 1 + 1)) a3 (get_set hx) (by decide) (fun c hr => op_set3 (in64_k (by omega) (by omega)) hr)
  rw [List.set_set] at a4
  exact ⟨a4, ((chg_set.trans chg_set).trans chg_set).trans chg_set⟩
set_option maxHeartbeats 2000000 in
theorem markOpS_rep (S : Foot) (v : Value) (k : Int) (xs : List OpD) (w : World) (h0 : 0 ≤ k) (h1 : k ≤ 288230376151711744) (hm : slcnt opM xs ≤ 288230376151711744) (h : opsR.own w S [v] xs) :
    Calls Tryz.prog 94 #[v, .int .i64 k] w fun e' w' => e' = .returned (.int .i64 (k + slcnt opM xs)) ∧ opsR.own w' S [v] (slmark opM k xs) ∧ Chg S w w' := by
  rcases slown_form h with ⟨rfl, rfl⟩ | ⟨G, cap, rfl, hG⟩
  · exact (markOpS_nil k w).mono fun e w' ⟨e1, e2⟩ => ⟨by simpa [slcnt] using e1, by rw [e2]; exact h, by rw [e2]; exact Chg.refl _ _⟩
  have hcn := cnt_ops xs
  have H : Hid _ := h
  clear h
  go_enter Tryz.func94, Tryz.ntmps94
  go_wp2
  go_loopw [1, 5] (fun q i wr => ∃ j : Nat, j ≤ xs.length ∧ i = .int .i64 j ∧ q = .int .i64 (k + slcnt opM (xs.take j)) ∧ opsR.own wr S [.slice (some ⟨G, 0, none⟩) xs.length cap] (pmark opM k xs j) ∧ Chg S w wr) (fun _ i _ => xs.length - (intOf i).toNat)
  case atStart => exact ⟨0, Nat.zero_le _, rfl, by simp [slcnt], by rw [pmark_zero]; exact H.out, Chg.refl _ _⟩
  case round =>
    obtain ⟨j, hj, rfl, rfl, ho, hs⟩ := hrel
    by_cases hlt : j < xs.length
    · have hlt' : (j : Int) < (xs.length : Int) := by omega
      obtain ⟨x, hx⟩ : ∃ x, xs[j]? = some x := ⟨_, List.getElem?_eq_getElem hlt⟩
      have HT : Hid (slcnt opM (xs.take (j + 1)) = slcnt opM (xs.take j) + 4) := slcnt_step (M := opM) hx
      have hT : slcnt opM (xs.take j) + 4 ≤ slcnt opM xs := slcnt_get (M := opM) hx
      have HPS := pmark_step (M := opM) (k := k) hx
      obtain ⟨G1, cap1, Sj, Tj, cj, hv, -, ob, -⟩ := elem_focus ho (pmark_at hx)
      simp only [Value.slice.injEq, Option.some.injEq, Addr.mk.injEq, and_true] at hv
      obtain ⟨rfl, -, rfl⟩ := hv
      obtain ⟨rfl, -⟩ := op_own4 ob.own
      have y0 := at_cell0 ob.lies
      have y1 := at_cell ob.lies 1 rfl
      have y2 := at_cell ob.lies 2 rfl
      have y3 := at_cell ob.lies 3 rfl
      have t0 := at_froz0 ob.lies
      have t1 := at_froz ob.lies 1
      have t2 := at_froz ob.lies 2
      have t3 := at_froz ob.lies 3
      rw [show j * opR.size = j * 4 from rfl] at y0 y1 y2 y3 t0 t1 t2 t3
      generalize hkk : k + (slcnt opM (xs.take j) : Int) = kk at HPS ⊢
      have hk0 : 0 ≤ kk ∧ kk ≤ 576460752303423488 := by omega
      obtain ⟨O2, C2⟩ := markOp_round (kk := kk) hk0.1 (by omega) ho (pmark_at hx)
      rw [show (kk, kk + 1, kk + 1 + 1, kk + 1 + 1 + 1) = opM.mE kk x from rfl, HPS] at O2
      have HF : Hid _ := And.intro O2 (hs.trans (C2.mono (fun b hb => by rw [hb]; exact hG)))
      clear O2 C2 ob ho hs HPS hx
      generalize slcnt opM (xs.take j) = TT at HT hT hkk
      go_wp2
      go_roundw
      case rel => exact ⟨j + 1, by omega, by go_num, by rw [HT.out]; congr 1; omega, HF.out.1, HF.out.2⟩
      case measure => simp [intOf]; omega
    · have hjn : j = xs.length := by omega
      subst hjn
      rw [List.take_length]
      rw [pmark_all] at ho
      have HF : Hid _ := And.intro ho hs
      clear ho hs
      go_wp2
      go_ret
      exact ⟨rfl, HF.out.1, HF.out.2⟩
end Go.Proofs.YthbclkpmgcfdnaaGreatDoor
/- A list of ops is held as it was marked. -/
namespace Go.Proofs.YthbclkpmgcfdnaaGreatDoor
open Go.ChangeShapes Go.WideShapes Go.ChangeAt Go.RowKit
set_option linter.unusedVariables false
set_option maxHeartbeats 2000000 in
theorem heldOpS_rep (a : Option Addr) (cap : Nat) (k : Int) (xs : List OpD) (w : World) (h0 : 0 ≤ k) (h1 : k ≤ 288230376151711744) (hm : slcnt opM xs ≤ 288230376151711744) (h : SlRd opR w a (slmark opM k xs)) :
    Calls Tryz.prog 98 #[.slice a xs.length cap, .int .i64 k] w fun e' w' => e' = .returned (.int .i64 (k + slcnt opM xs)) ∧ w' = w := by
  have hln := cnt_ops xs
  go_enter Tryz.func98, Tryz.ntmps98
  go_wp2
  go_loop [1, 5] (fun q i => ∃ j : Nat, j ≤ xs.length ∧ i = .int .i64 j ∧ q = .int .i64 (k + slcnt opM (xs.take j))) (fun _ i => xs.length - (intOf i).toNat)
  case atStart => exact ⟨0, Nat.zero_le _, rfl, by simp [slcnt]⟩
  case round =>
    obtain ⟨j, hj, rfl, rfl⟩ := hrel
    by_cases hlt : j < xs.length
    · have hlt' : (j : Int) < (xs.length : Int) := by omega
      obtain ⟨x, hx⟩ : ∃ x, xs[j]? = some x := ⟨_, List.getElem?_eq_getElem hlt⟩
      obtain ⟨b, off, rfl, x0, x1, x2, x3, -⟩ := op_at h (slmark_at (M := opM) (k := k) hx)
      have y0 : w.cell? ⟨b, off + j * 4, none⟩ = some (.int .i64 (k + slcnt opM (xs.take j))) := x0
      have y1 : w.cell? ⟨b, off + j * 4 + 1, none⟩ = some (.int .i64 (k + slcnt opM (xs.take j) + 1)) := x1
      have y2 : w.cell? ⟨b, off + j * 4 + 2, none⟩ = some (.int .i64 (k + slcnt opM (xs.take j) + 1 + 1)) := x2
      have y3 : w.cell? ⟨b, off + j * 4 + 3, none⟩ = some (.int .i64 (k + slcnt opM (xs.take j) + 1 + 1 + 1)) := x3
      have HT : Hid (slcnt opM (xs.take (j + 1)) = slcnt opM (xs.take j) + 4) := slcnt_step (M := opM) hx
      have hT : slcnt opM (xs.take j) + 4 ≤ slcnt opM xs := slcnt_get (M := opM) hx
      clear hx h x0 x1 x2 x3
      generalize hkk : k + (slcnt opM (xs.take j) : Int) = kk at y0 y1 y2 y3 ⊢
      generalize slcnt opM (xs.take j) = TT at HT hT hkk
      have hk0 : 0 ≤ kk ∧ kk ≤ 576460752303423488 := by omega
      go_wp2
      go_round
      case rel => exact ⟨j + 1, by omega, by go_num, by rw [HT.out]; congr 1; omega⟩
      case measure => simp [intOf]; omega
    · have hjn : j = xs.length := by omega
      subst hjn
      rw [List.take_length]
      go_wp2
      go_ret
      exact ⟨rfl, rfl⟩
end Go.Proofs.YthbclkpmgcfdnaaGreatDoor
/- What a call owns, in an interval of blocks, from world to world. No program here. -/
namespace Go.Proofs.YthbclkpmgcfdnaaGreatDoor
open Go.ChangeShapes Go.WideShapes Go.ChangeAt Go.RowKit
set_option linter.unusedVariables false
variable {α : Type}
def Owned (R : Rep α) (lo hi : Nat) (w : World) (cs : List Value) (x : α) : Prop := R.own w (rng lo hi) cs x ∧ hi ≤ w.heap.size
theorem owned_next {R : Rep α} {lo hi : Nat} {w w' : World} {cs : List Value} {x : α} (h : Owned R lo hi w cs x) (hb : Below w.heap.size w w') : Owned R lo hi w' cs x :=
  ⟨own_stay h.1 hb h.2, Nat.le_trans h.2 hb.size⟩
theorem owned_chg {R : Rep α} {lo hi lo' hi' : Nat} {w w' : World} {cs : List Value} {x : α} (h : Owned R lo hi w cs x) (hc : Chg (rng lo' hi') w w') (hd : hi ≤ lo' ∨ hi' ≤ lo) : Owned R lo hi w' cs x :=
  ⟨own_chg h.1 hc (rng_dis hd), Nat.le_trans h.2 hc.size⟩
theorem owned_made {R : Rep α} {w w1 : World} {cs : List Value} {x : α} (h : MadeR R w w1 cs x) : Owned R w.heap.size w1.heap.size w1 cs x := ⟨h.1, Nat.le_refl _⟩
theorem owned_drew {R : Rep α} {lo hi : Nat} {w : World} {cs : List Value} {x : α} (h : Owned R lo hi w cs x) : Owned R lo hi w.drew cs x := ⟨R.own_keep h.1 fun _ _ _ => rfl, h.2⟩
theorem row_chg {w w' : World} {k lo hi : Nat} {o : Obj} (h : w.heap[k]? = some o) (hc : Chg (rng lo hi) w w') (hk : k < lo ∨ hi ≤ k) : w'.heap[k]? = some o :=
  (hc.block k (Array.getElem?_eq_some_iff.1 h).1 fun x => by have := x.1; have := x.2; omega).trans h
theorem chg_b0 {w0 w w' : World} {lo hi : Nat} (hb : Below w0.heap.size w0 w) (hc : Chg (rng lo hi) w w') (hl : w0.heap.size ≤ lo) : Below w0.heap.size w0 w' :=
  hc.below hb (fun k hk => by have := hk.1; omega) hb.size
theorem bk_ints7 (d : List Int) : intsM.bk d = d.length := by
  have h1 : intsM.bk d = d.length + sumbk intM d := rfl
  have h2 : sumbk intM d = 0 := by
    induction d with
    | nil => rfl
    | cons x xs ih => simp only [sumbk, List.map_cons, List.sum_cons] at ih ⊢; rw [ih rfl]; rfl
  omega
theorem chg_from_box {w w' : World} {S : Foot} {o : Obj} (h : Chg S (w.alloc o) w') : Chg S w w' :=
  ⟨h.os, h.tape, h.output, Nat.le_trans (by simp) h.size, fun k hk hn => (h.block k (by simp; omega) hn).trans (Below.heap_alloc w o k hk)⟩
end Go.Proofs.YthbclkpmgcfdnaaGreatDoor
/- A number put into a rising list, by the specification. Conditions: lists of at most 2^20 numbers. -/
namespace Go.Proofs.YthbclkpmgcfdnaaGreatDoor
open Go.ChangeShapes Go.WideShapes Go.ChangeAt Go.RowKit
set_option linter.unusedVariables false
end Go.Proofs.YthbclkpmgcfdnaaGreatDoor
/- append(x, y...): a list that is only read, behind a row of the call's own: the law at a region's walk ('go_region_held_law'). No program in it. -/
namespace Go.Proofs.YthbclkpmgcfdnaaGreatDoor
open Go.ChangeShapes Go.WideShapes Go.ChangeAt Go.RowKit
set_option linter.unusedVariables false
/-- The cells of a list that reads. -/
theorem slrd_rows {α : Type} {R : Rep α} {w : World} {ad : Addr} {xs : List α} (h : SlRd R w (some ad) xs) : ∃ rows, lrd R w rows xs ∧ ∀ j u, rows[j]? = some u → w.cell? (ad.add j) = some u := by
  rcases h with rfl | ⟨b, off, rows, ha, hr, hc⟩
  · exact ⟨[], rfl, by simp⟩
  · simp only [Option.some.injEq] at ha
    subst ha
    exact ⟨rows, hr, fun j u hj => by rw [show (⟨b, off, none⟩ : Addr).add j = ⟨b, off + j, none⟩ from by simp [Addr.add]]; exact hc j u hj⟩
end Go.Proofs.YthbclkpmgcfdnaaGreatDoor
/- append of one number to a list that is owned: where it lies behind it. -/
namespace Go.Proofs.YthbclkpmgcfdnaaGreatDoor
open Go.ChangeShapes Go.WideShapes Go.ChangeAt Go.RowKit
set_option linter.unusedVariables false
theorem wpList_told {w : World} {ops : Array Oper} {rest : List Oper} {o : Oper} {a : Act} {Q : Exit → Act → World → Prop} (hgd : o.guard = none) (s x : Operand)
    (ho : o.op = .call { callee := .builtin .append, args := #[s, x], argTypes := #[25, 25] }) (S : Foot) (v : Value) (xs : List Int) (y : Int) (hy : In64 y) (hs : a.eval s = v) (qb cc : Nat) (hx : a.eval x = .slice (some ⟨qb, 0, none⟩) 1 cc) (hq : qb = w.heap.size)
    (h : intsR.own w S [v] xs) (hlen : xs.length ≤ 1000)
    (k : ∀ g' cap' w2, intsR.own w2 (fun k => Old w S k ∨ (w.heap.size ≤ k ∧ k < w2.heap.size)) [.slice (some ⟨g', 0, none⟩) (xs.length + 1) cap'] (xs ++ [y]) → Chg (Old w S) w w2 → wpList Tryz.prog ops Q rest (a.put o.dst (.slice (some ⟨g', 0, none⟩) (xs.length + 1) cap')) w2) :
    wpList Tryz.prog ops Q (o :: rest) a (w.alloc (.cells #[.int .i64 y] 2)) := by
  subst hq
  obtain ⟨v0, rows0, S', hv0, hr0, -⟩ := own_old h
  simp only [List.cons.injEq, and_true] at hv0
  subst hv0
  have hrA : (w.alloc (.cells #[.int .i64 y] 2)).ownsRow 0 2 1 v xs.length rows0 := orow_keep hr0 fun g hgb => by
    obtain ⟨cur', hh⟩ := row_block hr0 hgb
    have hl := (Array.getElem?_eq_some_iff.1 hh).1
    rw [Below.heap_alloc _ _ _ hl]
  have MM : MadeR intR w w [.int .i64 y] y := ⟨⟨rfl, hy⟩, Below.refl _ w⟩
  obtain ⟨i0, hi, hz0, hz1, hz2⟩ := info_parts Tryz.infoI
  obtain ⟨v', w2, hrun, hown', hgrow, _, hblk⟩ := run_append_own_at (P := Tryz.prog) (w.alloc (.cells #[.int .i64 y] 2)) 0 25 o.type 2 i0 _ 1 8 Tryz.underlying25 hi hz0 hz1 hz2 rfl (by decide) _ _ _ hrA ⟨w.heap.size, 0, none⟩ 1 cc [.int .i64 y] rfl (cells_news w [.int .i64 y] 2) (by
    intro u hu
    simp only [List.mem_singleton] at hu
    subst hu
    rfl) (by unfold maxLen; omega) (by omega) (Nat.zero_le _)
  obtain ⟨NO, NC⟩ := appR_any (e := 2) (R := intR) (by decide) h MM (fun rows hr' => by rw [rows_unique hr' hr0]; exact hown') hgrow (hblk.imp id fun h => ⟨_, h, by simp⟩)
  obtain ⟨g', cap', rfl⟩ := owns_shape hown'
  have NO2 := intsR.own_mono (own_old NO) (T := fun k => Old w S k ∨ (w.heap.size ≤ k ∧ k < w2.heap.size)) (fun k hk => hk.1.imp id (fun h => ⟨h, hk.2⟩))
  refine wpList_plain hgd fun K hK => ?_
  unfold Oper.wp
  simp [execOp, ho, resolve, invoke, builtin, hs, hx, hrun, Result.andThen]
  exact hK _ _ (k _ _ _ NO2 NC)
end Go.Proofs.YthbclkpmgcfdnaaGreatDoor
/- What the laws' helpers do (how much, a copy, alike, marked, held), in one form for every type: by what cells read as, or own. -/
namespace Go.Proofs.YthbclkpmgcfdnaaGreatDoor
open Go.ChangeShapes Go.WideShapes Go.ChangeAt Go.RowKit
set_option linter.unusedVariables false
section
variable {α : Type}
def cell1 : List Value → Value
  | [v] => v
  | _ => undef
def aggV (cs : List Value) : Value := .agg cs.toArray
abbrev lot : Nat := 4398046511104
def SzC (f : Nat) (R : Rep α) (M : Mk α) (V : List Value → Value) : Prop := ∀ (cs : List Value) (x : α) (left : Int) (w : World), R.rd w cs x → 0 ≤ left → left ≤ 1048576 →
  Calls Tryz.prog f #[V cs, .int .i64 left] w fun e w' => e = .returned (.int .i64 (szI (M.bk x) left)) ∧ Below w.heap.size w w'
def ToC (f : Nat) (R : Rep α) (M : Mk α) (V : List Value → Value) : Prop := ∀ (cs : List Value) (x : α) (w : World), R.rd w cs x → M.bk x ≤ 1048576 →
  Calls Tryz.prog f #[V cs] w fun e w' => ∃ ds, e = .returned (V ds) ∧ MadeR R w w' ds x
def EqC (f : Nat) (R : Rep α) (M : Mk α) (V : List Value → Value) : Prop := ∀ (cs ds : List Value) (x : α) (w : World), R.rd w cs x → R.rd w ds x → M.bk x ≤ lot →
  Calls Tryz.prog f #[V cs, V ds] w fun e w' => e = .returned (.bool true) ∧ Below w.heap.size w w'
def MkC (f : Nat) (R : Rep α) (M : Mk α) (V : List Value → Value) : Prop := ∀ (S : Foot) (cs : List Value) (x : α) (k : Int) (w : World), R.own w S cs x → 0 ≤ k → k + (M.cV x : Int) ≤ (lot : Int) → M.bk x ≤ lot →
  Calls Tryz.prog f #[V cs, .int .i64 k] w fun e w' => e = .returned (.int .i64 (k + (M.cV x : Int))) ∧ R.own w' S cs (M.mV k x) ∧ Chg S w w'
def HdC (f : Nat) (R : Rep α) (M : Mk α) (V : List Value → Value) : Prop := ∀ (cs : List Value) (x : α) (k : Int) (w : World), R.rd w cs (M.mV k x) → 0 ≤ k → k + (M.cV x : Int) ≤ (lot : Int) → M.bk x ≤ lot →
  Calls Tryz.prog f #[V cs, .int .i64 k] w fun e w' => e = .returned (.int .i64 (k + (M.cV x : Int))) ∧ Below w.heap.size w w'
end
theorem own_cell {α : Type} {e : TypeId} {R : Rep α} {w : World} {S : Foot} {cs : List Value} {x : List α} (h : (slR e R).own w S cs x) : ∃ v, cs = [v] := List.length_eq_one_iff.1 ((slR e R).rd_len ((slR e R).own_rd h))
theorem be_eq {w w' : World} (h : w' = w) : Below w.heap.size w w' := by rw [h]; exact Below.refl _ _
theorem szInts_u : SzC 84 intsR intsM cell1 := by
  rintro cs x left w ⟨a, cap, rfl, l1, l2, l3⟩ h0 h1
  exact (szInt64S_rep a x cap left w h0 h1 (Nat.le_trans l1 l2)).mono fun e w' ⟨q, r⟩ => ⟨q, be_eq r⟩
theorem toInts_u : ToC 88 intsR intsM cell1 := by
  rintro cs x w ⟨a, cap, rfl, l1, l2, l3⟩ hm
  refine (toInt64S_rep a x cap w l3 hm).mono ?_
  rintro e w' ⟨v, rfl, mm⟩
  exact ⟨[v], rfl, mm⟩
theorem eqInts_u : EqC 92 intsR intsM cell1 := by
  rintro cs ds x w ⟨a, cap, rfl, l1, l2, l3⟩ ⟨b, cp, rfl, k1, k2, k3⟩ hm
  refine (eqInt64S_rep a b x cap cp w l3 k3 (by have : lot = 4398046511104 := rfl; omega)).mono ?_
  rintro e w' ⟨q, n, rfl⟩
  exact ⟨q, be_drewN (Below.refl _ _) n⟩
theorem mkInts_u : MkC 96 intsR intsM cell1 := by
  intro S cs x k w h h0 hm hb
  obtain ⟨v, rfl⟩ := own_cell h
  have e : lot = 4398046511104 := rfl
  have e2 : intsM.cV x = slcnt intM x := rfl
  exact markInt64S_rep S v k x w h0 (by omega) (by omega) h
theorem hdInts_u : HdC 100 intsR intsM cell1 := by
  rintro cs x k w ⟨a, cap, rfl, l1, l2, l3⟩ h0 hm hb
  have e : lot = 4398046511104 := rfl
  have e2 : intsM.cV x = slcnt intM x := rfl
  have := heldInt64S_rep a cap k x w h0 (by omega) (by omega) l3
  rw [show x.length = (intsM.mV k x).length from (slmark_len _ _ _).symm] at this
  exact this.mono fun e w' ⟨q, r⟩ => ⟨q, be_eq r⟩
end Go.Proofs.YthbclkpmgcfdnaaGreatDoor
/- Two answers that are owned side by side, and data that is only read from world to world. No program here. -/
namespace Go.Proofs.YthbclkpmgcfdnaaGreatDoor
open Go.ChangeShapes Go.WideShapes Go.ChangeAt Go.RowKit
set_option linter.unusedVariables false
variable {α β : Type}
theorem pair_open {R : Rep α} {Q : Rep β} {w : World} {S : Foot} {cs ds : List Value} {x : α} {y : β} (h : (prodR R Q).own w S (cs ++ ds) (x, y)) (hl : cs.length = R.size) :
    ∃ S1 S2, R.own w S1 cs x ∧ Q.own w S2 ds y ∧ Sub S1 S ∧ Sub S2 S ∧ Dis S1 S2 := by
  obtain ⟨c1, c2, S1, S2, e, h1, h2, a1, a2, d⟩ := h
  obtain ⟨rfl, rfl⟩ := List.append_inj e (hl.trans (R.rd_len (R.own_rd h1)).symm)
  exact ⟨S1, S2, h1, h2, a1, a2, d⟩
theorem pair_rd {R : Rep α} {Q : Rep β} {w : World} {cs ds : List Value} {x : α} {y : β} (h : (prodR R Q).rd w (cs ++ ds) (x, y)) (hl : cs.length = R.size) : R.rd w cs x ∧ Q.rd w ds y := by
  obtain ⟨c1, c2, e, h1, h2⟩ := h
  obtain ⟨rfl, rfl⟩ := List.append_inj e (hl.trans (R.rd_len h1).symm)
  exact ⟨h1, h2⟩
theorem pair_own {R : Rep α} {Q : Rep β} {w : World} {S S1 S2 : Foot} {cs ds : List Value} {x : α} {y : β} (h1 : R.own w S1 cs x) (h2 : Q.own w S2 ds y) (a1 : Sub S1 S) (a2 : Sub S2 S) (d : Dis S1 S2) : (prodR R Q).own w S (cs ++ ds) (x, y) :=
  ⟨cs, ds, S1, S2, rfl, h1, h2, a1, a2, d⟩
theorem mk_fst {f : Nat} {R : Rep α} {M : Mk α} {V : List Value → Value} {Q : Rep β} (H : MkC f R M V) (S : Foot) (cs ds : List Value) (x : α) (y : β) (k : Int) (w : World) (h : (prodR R Q).own w S (cs ++ ds) (x, y)) (hl : cs.length = R.size) (h0 : 0 ≤ k) (h1 : k + (M.cV x : Int) ≤ (lot : Int)) (h2 : M.bk x ≤ lot) :
    Calls Tryz.prog f #[V cs, .int .i64 k] w fun e w' => e = .returned (.int .i64 (k + (M.cV x : Int))) ∧ (prodR R Q).own w' S (cs ++ ds) (M.mV k x, y) ∧ Chg S w w' := by
  obtain ⟨S1, S2, o1, o2, a1, a2, d⟩ := pair_open h hl
  refine (H S1 cs x k w o1 h0 h1 h2).mono ?_
  rintro e w' ⟨rfl, q, c⟩
  exact ⟨rfl, pair_own q (own_chg o2 c fun k p r => d k r p) a1 a2 d, c.mono a1⟩
theorem mk_snd {f : Nat} {Q : Rep β} {M : Mk β} {V : List Value → Value} {R : Rep α} (H : MkC f Q M V) (S : Foot) (cs ds : List Value) (x : α) (y : β) (k : Int) (w : World) (h : (prodR R Q).own w S (cs ++ ds) (x, y)) (hl : cs.length = R.size) (h0 : 0 ≤ k) (h1 : k + (M.cV y : Int) ≤ (lot : Int)) (h2 : M.bk y ≤ lot) :
    Calls Tryz.prog f #[V ds, .int .i64 k] w fun e w' => e = .returned (.int .i64 (k + (M.cV y : Int))) ∧ (prodR R Q).own w' S (cs ++ ds) (x, M.mV k y) ∧ Chg S w w' := by
  obtain ⟨S1, S2, o1, o2, a1, a2, d⟩ := pair_open h hl
  refine (H S2 ds y k w o2 h0 h1 h2).mono ?_
  rintro e w' ⟨rfl, q, c⟩
  exact ⟨rfl, pair_own (own_chg o1 c d) q a1 a2 d, c.mono a2⟩
/-- Data that lies below block n and is only read. -/
def Sight (R : Rep α) (n : Nat) (w : World) (cs : List Value) (x : α) : Prop := ∃ w0 : World, R.rd w0 cs x ∧ w0.heap.size = n ∧ n ≤ w.heap.size ∧ ∀ k, k < n → w.heap[k]? = w0.heap[k]?
theorem sight_of {R : Rep α} {w : World} {cs : List Value} {x : α} (h : R.rd w cs x) : Sight R w.heap.size w cs x := ⟨w, h, rfl, Nat.le_refl _, fun _ _ => rfl⟩
theorem sight_rd {R : Rep α} {n : Nat} {w : World} {cs : List Value} {x : α} (h : Sight R n w cs x) : R.rd w cs x := by
  obtain ⟨w0, h1, h2, h3, h4⟩ := h
  exact R.rd_keep h1 fun k hk => h4 k (h2 ▸ hk)
theorem sight_next {R : Rep α} {n : Nat} {w w' : World} {cs : List Value} {x : α} (h : Sight R n w cs x) (hb : Below w.heap.size w w') : Sight R n w' cs x := by
  obtain ⟨w0, h1, h2, h3, h4⟩ := h
  exact ⟨w0, h1, h2, Nat.le_trans h3 hb.size, fun k hk => (hb.block k (Nat.lt_of_lt_of_le hk h3)).trans (h4 k hk)⟩
theorem sight_chg {R : Rep α} {n lo hi : Nat} {w w' : World} {cs : List Value} {x : α} (h : Sight R n w cs x) (hc : Chg (rng lo hi) w w') (hl : n ≤ lo) : Sight R n w' cs x := by
  obtain ⟨w0, h1, h2, h3, h4⟩ := h
  exact ⟨w0, h1, h2, Nat.le_trans h3 hc.size, fun k hk => (hc.block k (Nat.lt_of_lt_of_le hk h3) fun p => by have := p.1; omega).trans (h4 k hk)⟩
theorem sight_drew {R : Rep α} {n : Nat} {w : World} {cs : List Value} {x : α} (h : Sight R n w cs x) : Sight R n w.drew cs x := h
theorem sight_lt {R : Rep α} {n : Nat} {w : World} {cs : List Value} {x : α} (h : Sight R n w cs x) : n ≤ w.heap.size := by
  obtain ⟨w0, h1, h2, h3, h4⟩ := h
  exact h3
end Go.Proofs.YthbclkpmgcfdnaaGreatDoor
/- What every exact law's walk wants: bounds on marks, and the kit's own parts. No program here. -/
namespace Go.Proofs.YthbclkpmgcfdnaaGreatDoor
open Go.ChangeShapes Go.WideShapes Go.ChangeAt Go.RowKit
set_option linter.unusedVariables false
section
variable {α β : Type}
def Bv (M : Mk α) (K : Nat) : Prop := ∀ x, M.cV x ≤ K * M.bk x
theorem bv_int : Bv intM 0 := fun _ => by simp [intM]
theorem bv_prod {M : Mk α} {N : Mk β} {K L : Nat} (h : Bv M K) (k : Bv N L) : Bv (prodM M N) (K + L) := fun x => by
  have h1 := h x.1
  have h2 := k x.2
  show M.cV x.1 + N.cV x.2 ≤ (K + L) * (M.bk x.1 + N.bk x.2)
  have e1 : K * M.bk x.1 ≤ K * (M.bk x.1 + N.bk x.2) := Nat.mul_le_mul_left _ (by omega)
  have e2 : L * N.bk x.2 ≤ L * (M.bk x.1 + N.bk x.2) := Nat.mul_le_mul_left _ (by omega)
  rw [Nat.add_mul]
  omega
theorem bv_sl {M : Mk α} {K : Nat} (h : Bd M K) : Bv (slM M) K := slcnt_bd h
theorem bv_ints : Bv intsM 1 := bv_sl bd_int
end
end Go.Proofs.YthbclkpmgcfdnaaGreatDoor
/- Several cells of one block stored one behind the other. No program here. -/
namespace Go.Proofs.YthbclkpmgcfdnaaGreatDoor
open Go.ChangeShapes Go.WideShapes Go.ChangeAt Go.RowKit
set_option linter.unusedVariables false
variable {α : Type}
def setCs (w : World) (g : Nat) : Nat → List Value → World
  | _, [] => w
  | o, v :: vs => setCs (w.setCell ⟨g, o, none⟩ v) g (o + 1) vs
def putA (cs : Array Value) : Nat → List Value → Array Value
  | _, [] => cs
  | o, v :: vs => putA (cs.setIfInBounds o v) (o + 1) vs
theorem row_setCs {g : Nat} {t : TypeId} : ∀ (vs : List Value) (o : Nat) {w : World} {cs : Array Value}, w.heap[g]? = some (.cells cs t (0, 0)) → (setCs w g o vs).heap[g]? = some (.cells (putA cs o vs) t (0, 0))
  | [], _, _, _, h => h
  | v :: vs, o, w, cs, h => row_setCs vs (o + 1) (heap_setCell_same w g o cs t v h)
theorem chg_setCs {g : Nat} : ∀ (vs : List Value) (o : Nat) (w : World), Chg (fun k => k = g) w (setCs w g o vs)
  | [], _, w => Chg.refl _ w
  | v :: vs, o, w => (show Chg (fun k => k = g) w (w.setCell ⟨g, o, none⟩ v) from ⟨rfl, rfl, rfl, by simp, fun k hk hn => heap_setCell_other w ⟨g, o, none⟩ k v hn⟩).trans (chg_setCs vs (o + 1) _)
theorem setCs_size {g : Nat} : ∀ (vs : List Value) (o : Nat) (w : World), (setCs w g o vs).heap.size = w.heap.size
  | [], _, _ => rfl
  | v :: vs, o, w => (setCs_size vs (o + 1) _).trans (by simp)
theorem below_setCs {a w : World} {B g o : Nat} {vs : List Value} (h : Below B a w) (hB : B ≤ w.heap.size) (hg : B ≤ g) : Below B a (setCs w g o vs) :=
  (chg_setCs vs o w).below h (fun k hk => by have : k = g := hk; omega) hB
theorem below_setCs0 {a w : World} {g o : Nat} {vs : List Value} (h : Below a.heap.size a w) (hg : a.heap.size ≤ g) : Below a.heap.size a (setCs w g o vs) := below_setCs h h.size hg
theorem row_otherCs {w : World} {k g o : Nat} {vs : List Value} {ob : Obj} (h : w.heap[k]? = some ob) (hn : k ≠ g) : (setCs w g o vs).heap[k]? = some ob :=
  ((chg_setCs vs o w).block k (Array.getElem?_eq_some_iff.1 h).1 hn).trans h
theorem own_setCs {R : Rep α} {w : World} {S : Foot} {cs : List Value} {x : α} {g o : Nat} {vs : List Value} (h : R.own w S cs x) (hg : ¬ S g) : R.own (setCs w g o vs) S cs x :=
  own_chg h (chg_setCs vs o w) fun k hk e => by have e' : k = g := e; subst e'; exact hg hk
theorem owned_setCs {R : Rep α} {w : World} {lo hi : Nat} {cs : List Value} {x : α} {g o : Nat} {vs : List Value} (h : Owned R lo hi w cs x) (hg : g < lo ∨ hi ≤ g) : Owned R lo hi (setCs w g o vs) cs x :=
  ⟨own_setCs h.1 fun hk => by have := hk.1; have := hk.2; omega, by rw [setCs_size]; exact h.2⟩
/-- A list of one, laid anew. -/
theorem own_one {e : TypeId} {R : Rep α} {w : World} {S : Foot} {cs : List Value} {x : α} (hs : 0 < R.size) (h : R.own w S cs x) (hS : ∀ k, S k → k < w.heap.size) : (slR e R).own (w.alloc (.cells cs.toArray e)) (fun k => S k ∨ k = w.heap.size) [.slice (some ⟨w.heap.size, 0, none⟩) 1 1] [x] := by
  have hl := R.rd_len (R.own_rd h)
  refine ⟨_, cs, S, rfl, World.ownsRow_lit w cs.toArray 1 (Nat.zero_le _) (by decide) (by simp [hl]), fun g hg => ?_, fun k hk => .inl hk, ⟨cs, [], S, fun _ => False, by simp, own_box _ h, rfl, Sub.refl _, fun _ h => h.elim, fun _ _ h => h⟩⟩
  simp [Value.ownBlock] at hg
  subst hg
  exact ⟨.inr rfl, fun hk => Nat.lt_irrefl _ (hS _ hk)⟩
theorem rd_nothing {e : TypeId} {R : Rep α} (w : World) (b : Nat) : (slR e R).rd w [.slice (some ⟨b, 0, none⟩) 0 0] [] := ⟨_, 0, rfl, by simp, by decide, .inl rfl⟩
theorem own_nil {e : TypeId} {R : Rep α} (w : World) : (slR e R).own (w.alloc (.cells #[] e)) (fun k => k = w.heap.size) [.slice (some ⟨w.heap.size, 0, none⟩) 0 0] [] := by
  refine ⟨_, [], fun _ => False, rfl, World.ownsRow_lit w #[] 0 (Nat.zero_le _) (by decide) (by simp), fun g hg => ?_, fun _ h => h.elim, rfl⟩
  simp [Value.ownBlock] at hg
  subst hg
  exact ⟨rfl, fun h => h⟩
end Go.Proofs.YthbclkpmgcfdnaaGreatDoor
/- Ways (a number, a state, a list) as they lie in memory; the contracts of the laws' own helpers over one Way. Conditions: lengths that a machine can hold. -/
namespace Go.Proofs.YthbclkpmgcfdnaaGreatDoor
open Go.ChangeShapes Go.WideShapes Go.ChangeAt Go.RowKit
set_option linter.unusedVariables false
abbrev wayR : Rep (Int × Int × List Int) := prodR intR (prodR intR intsR)
abbrev wayM : Mk (Int × Int × List Int) := prodM intM (prodM intM intsM)
abbrev waysR : Rep (List (Int × Int × List Int)) := slR 30 wayR
abbrev waysM : Mk (List (Int × Int × List Int)) := slM wayM
abbrev setsR : Rep (List (List (Int × Int × List Int))) := slR 107 waysR
abbrev setsM : Mk (List (List (Int × Int × List Int))) := slM waysM
abbrev cacheR : Rep (List (List (Int × Int × List Int)) × List Int) := prodR setsR intsR
abbrev cacheM : Mk (List (List (Int × Int × List Int)) × List Int) := prodM setsM intsM
theorem opens_way : Opens Tryz.prog 63 wayR :=
  opens_struct Tryz.underlying63 (by kernel_rfl) (opensF_cons rfl (by kernel_rfl) opens_i64 (opensF_cons rfl (by kernel_rfl) opens_i64 (opensF_one rfl (by kernel_rfl) opens_ints)))
theorem opens_ways : Opens Tryz.prog 189 waysR := opens_slice Tryz.underlying189 (by kernel_rfl) (by decide) opens_way
theorem opens_sets : Opens Tryz.prog 59 setsR := opens_slice Tryz.underlying59 (by kernel_rfl) (by decide) opens_ways
theorem opens_cache : Opens Tryz.prog 61 cacheR :=
  opens_struct Tryz.underlying61 (by kernel_rfl) (opensF_cons rfl (by kernel_rfl) opens_sets (opensF_one rfl (by kernel_rfl) opens_ints))
theorem way_rd {w : World} {cs : List Value} {u : Int × Int × List Int} (h : wayR.rd w cs u) :
    ∃ a cap, cs = [.int .i64 u.1, .int .i64 u.2.1, .slice a u.2.2.length cap] ∧ In64 u.1 ∧ In64 u.2.1 ∧ u.2.2.length ≤ cap ∧ cap ≤ maxLen ∧ SlRd intR w a u.2.2 := by
  obtain ⟨c1, c2, rfl, ⟨rfl, i1⟩, c3, c4, rfl, ⟨rfl, i2⟩, a, cap, rfl, h1, h2, h3⟩ := h
  exact ⟨a, cap, rfl, i1, i2, h1, h2, h3⟩
theorem rd_way {w : World} {l s : Int} {d : List Int} {a : Option Addr} {cap : Nat} (i1 : In64 l) (i2 : In64 s) (h1 : d.length ≤ cap) (h2 : cap ≤ maxLen) (h3 : SlRd intR w a d) :
    wayR.rd w [.int .i64 l, .int .i64 s, .slice a d.length cap] (l, s, d) := ⟨[_], [_, _], rfl, ⟨rfl, i1⟩, [_], [_], rfl, ⟨rfl, i2⟩, a, cap, rfl, h1, h2, h3⟩
theorem cache_rd {w : World} {cs : List Value} {c : List (List (Int × Int × List Int)) × List Int} (h : cacheR.rd w cs c) :
    ∃ a cap b cp, cs = [.slice a c.1.length cap, .slice b c.2.length cp] ∧ c.1.length ≤ cap ∧ cap ≤ maxLen ∧ c.2.length ≤ cp ∧ cp ≤ maxLen ∧ SlRd waysR w a c.1 ∧ SlRd intR w b c.2 := by
  obtain ⟨c1, c2, rfl, ⟨a, cap, rfl, h1, h2, h3⟩, b, cp, rfl, k1, k2, k3⟩ := h
  exact ⟨a, cap, b, cp, rfl, h1, h2, k1, k2, h3, k3⟩
theorem way_own {w : World} {S : Foot} {cs : List Value} {u : Int × Int × List Int} (h : wayR.own w S cs u) :
    ∃ v, cs = [.int .i64 u.1, .int .i64 u.2.1, v] ∧ In64 u.1 ∧ In64 u.2.1 ∧ intsR.own w S [v] u.2.2 := by
  obtain ⟨c1, c2, S1, S2, rfl, ⟨rfl, i1⟩, ⟨c3, c4, S3, S4, rfl, ⟨rfl, i2⟩, h3, a3, a4, d2⟩, a1, a2, d⟩ := h
  have hl := intsR.rd_len (intsR.own_rd h3)
  obtain ⟨v, rfl⟩ : ∃ v, c4 = [v] := List.length_eq_one_iff.1 hl
  exact ⟨v, rfl, i1, i2, intsR.own_mono h3 (a4.trans a2)⟩
theorem own_way {w : World} {S : Foot} {l s : Int} {d : List Int} {v : Value} (i1 : In64 l) (i2 : In64 s) (h : intsR.own w S [v] d) : wayR.own w S [.int .i64 l, .int .i64 s, v] (l, s, d) :=
  ⟨[_], [_, _], fun _ => False, S, rfl, ⟨rfl, i1⟩, ⟨[_], [_], fun _ => False, S, rfl, ⟨rfl, i2⟩, h, fun _ h => h.elim, Sub.refl _, fun _ h _ => h⟩, fun _ h => h.elim, Sub.refl _, fun _ h _ => h⟩

set_option maxHeartbeats 400000 in
theorem szWay_rep (l s : Int) (d : List Int) (a : Option Addr) (cap : Nat) (left : Int) (w : World) (h0 : 0 ≤ left) (h1 : left ≤ 1048576) (hm : d.length ≤ maxLen) :
    Calls Tryz.prog 83 #[.agg #[.int .i64 l, .int .i64 s, .slice a d.length cap], .int .i64 left] w fun e w' => e = .returned (.int .i64 (szI (wayM.bk (l, s, d)) left)) ∧ Below w.heap.size w w' := by
  have hb : wayM.bk (l, s, d) = intsM.bk d := by show 0 + (0 + intsM.bk d) = _; omega
  rw [hb]
  by_cases hl : (intsM.bk d : Int) ≤ left
  · have HS : Hid (szI (intsM.bk d) left = _) := szI_yes hl
    have hl' : ¬ (left - (intsM.bk d : Int) < 0) := by omega
    go_enter Tryz.func83, Tryz.ntmps83
    go_wp2_with (go_at_call 84; refine (szInt64S_rep _ d _ _ _ h0 h1 hm).mono ?_; rintro e w' ⟨rfl, rfl⟩; rw [HS.out])
    go_ret
    exact ⟨ret_int HS.out.symm, box_below w _⟩
  · have HS : Hid (szI (intsM.bk d) left = _) := szI_no hl
    go_enter Tryz.func83, Tryz.ntmps83
    go_wp2_with (go_at_call 84; refine (szInt64S_rep _ d _ _ _ h0 h1 hm).mono ?_; rintro e w' ⟨rfl, rfl⟩; rw [HS.out])
    go_ret
    exact ⟨ret_int HS.out.symm, box_below w _⟩
end Go.Proofs.YthbclkpmgcfdnaaGreatDoor
/- The iterators of the program: the ways of one set, and of all sets. Conditions: sets that are there. -/
namespace Go.Proofs.YthbclkpmgcfdnaaGreatDoor
open Go.ChangeShapes Go.WideShapes Go.ChangeAt Go.RowKit Go.Shelf
set_option linter.unusedVariables false
attribute [local go_sem] Oper.semAt_some
/-- A row of n ways in memory, by its cells. -/
structure WCells where
  line : Int
  state : Int
  addr : Option Addr
  len : Nat
  cap : Nat
abbrev WCells.agg (c : WCells) : Value := .agg #[.int .i64 c.line, .int .i64 c.state, .slice c.addr c.len c.cap]
def RowAt (W : World) (b off n : Nat) (c : Nat → WCells) : Prop :=
  ∀ k, k < n → W.cell? ⟨b, off + k * 3, none⟩ = some (.int .i64 (c k).line) ∧ W.cell? ⟨b, off + k * 3 + 1, none⟩ = some (.int .i64 (c k).state) ∧ W.cell? ⟨b, off + k * 3 + 2, none⟩ = some (.slice (c k).addr (c k).len (c k).cap)
set_option maxHeartbeats 1000000 in
theorem waysOf1_iter (Bs b off n cap : Nat) (c : Nat → WCells) (hn : n ≤ 1048576) :
    Iter Tryz.prog 206 #[.pointer (some ⟨Bs, 0, none⟩)] (fun k => #[.int .i64 k, (c k).agg]) n
      (fun W => W.cell? ⟨Bs, 0, none⟩ = some (.slice (some ⟨b, off, none⟩) n cap) ∧ RowAt W b off n c) := by
  intro l J Jx W hJ hJx hR hY h0
  obtain ⟨r0, _⟩ := hR 0 W h0
  refine callsIn_of_wp Tryz.func206 rfl trivial ?_ rfl
  simp only [Tryz.ntmps206, List.size_toArray, List.length_cons, List.length_nil, Nat.reduceAdd, Nat.reduceSub, Array.replicate_succ, Array.replicate_zero, List.push_toArray, List.append_toArray, List.nil_append, List.cons_append]
  gi_wp2
  gi_loopw [7] (fun p wr => ∃ k : Nat, k ≤ n ∧ p = .int .i64 k ∧ J k wr) (fun p _ => n - (intOf p).toNat)
  case atStart => exact ⟨0, Nat.zero_le _, rfl, h0⟩
  case round =>
    obtain ⟨k, hk, rfl, hj⟩ := hrel
    by_cases hlt : k < n
    · have hlt' : (k : Int) < (n : Int) := by omega
      obtain ⟨q0, q1⟩ := hR k wr hj
      obtain ⟨c0, c1, c2⟩ := q1 k hlt
      obtain ⟨fn, tmps, assign, body, hy, hrd⟩ := hY k (wr.alloc (.cells #[.int .i64 (c k).line, .int .i64 (c k).state, .slice (c k).addr (c k).len (c k).cap] 30)) hlt (hJ.alloc _ hj)
      gi_wp2
      refine ⟨rfl, hrd.mono ?_⟩
      rintro e W3 ⟨_, ⟨rfl, hj3⟩ | ⟨rfl, hx3⟩⟩
      · gi_wp2
        go_roundw
        case rel => exact ⟨k + 1, by omega, by go_num, hj3⟩
        case measure => simp [intOf]; omega
      · gi_wp2
        refine bodyPost_ret (results_none rfl _ _ _) rfl ?_
        exact ⟨⟨_, rfl⟩, .inr ⟨k, hlt, hx3⟩⟩
    · gi_wp2
      go_end0
      exact ⟨⟨_, rfl⟩, .inl (by have : k = n := by omega
                                subst this; exact hj)⟩
end Go.Proofs.YthbclkpmgcfdnaaGreatDoor
/- The first way with a line, of one set: by the iterator of its ways. Condition: a set that is there. -/
namespace Go.Proofs.YthbclkpmgcfdnaaGreatDoor
open Go.ChangeShapes Go.WideShapes Go.ChangeAt Go.RowKit Go.Shelf
set_option linter.unusedVariables false
attribute [local go_sem] Oper.semAt_some
theorem rowAt_of {w : World} {a : Option Addr} {row : List WayD} (h : SlRd wayR w a row) (hne : row ≠ []) :
    ∃ b off c, a = some ⟨b, off, none⟩ ∧ RowAt w b off row.length c ∧ ∀ k u, row[k]? = some u → (c k).line = u.1 ∧ (c k).state = u.2.1 ∧ (c k).len = u.2.2.length ∧ u.2.2.length ≤ (c k).cap ∧ (c k).cap ≤ maxLen ∧ SlRd intR w (c k).addr u.2.2 := by
  have h' := h
  rcases h' with h' | ⟨b, off, rows, rfl, _, _⟩
  · exact absurd h' hne
  have each : ∀ k : Nat, ∃ x : WCells, ∀ u, row[k]? = some u → (w.cell? ⟨b, off + k * 3, none⟩ = some (.int .i64 x.line) ∧ w.cell? ⟨b, off + k * 3 + 1, none⟩ = some (.int .i64 x.state) ∧ w.cell? ⟨b, off + k * 3 + 2, none⟩ = some (.slice x.addr x.len x.cap)) ∧
      x.line = u.1 ∧ x.state = u.2.1 ∧ x.len = u.2.2.length ∧ u.2.2.length ≤ x.cap ∧ x.cap ≤ maxLen ∧ SlRd intR w x.addr u.2.2 := by
    intro k
    cases hk : row[k]? with
    | none => exact ⟨⟨0, 0, none, 0, 0⟩, fun u hu => by cases hu⟩
    | some u =>
      obtain ⟨b', off', cs, hb, hrd, hcell⟩ := slrd_at h hk
      cases hb
      obtain ⟨ad, cap, rfl, i1, i2, h1, h2, h3⟩ := way_rd hrd
      refine ⟨⟨u.1, u.2.1, ad, u.2.2.length, cap⟩, fun u' hu => ?_⟩
      cases hu
      exact ⟨⟨hcell 0 _ rfl, hcell 1 _ rfl, hcell 2 _ rfl⟩, rfl, rfl, rfl, h1, h2, h3⟩
  obtain ⟨c, hc⟩ := Classical.axiomOfChoice each
  refine ⟨b, off, c, rfl, fun k hk => (hc k _ (List.getElem?_eq_getElem hk)).1, fun k u hu => (hc k u hu).2⟩
theorem rowAt_below {w w' : World} {b off n D : Nat} {c : Nat → WCells} (h : RowAt w b off n c) (hb : Below D w w') (hD : ∀ k, k < n → b < D) : RowAt w' b off n c := fun k hk => by
  obtain ⟨h0, h1, h2⟩ := h k hk
  have := hb.block b (hD k hk)
  exact ⟨(World.cell?_of_block (w := w) (a := ⟨b, _, none⟩) this).trans h0, (World.cell?_of_block (w := w) (a := ⟨b, _, none⟩) this).trans h1, (World.cell?_of_block (w := w) (a := ⟨b, _, none⟩) this).trans h2⟩
theorem rowAt_lt {w : World} {b off n : Nat} {c : Nat → WCells} (h : RowAt w b off n c) (hn : 0 < n) : b < w.heap.size := World.block_lt_of_cell? w _ (h 0 hn).1
def firstI (row : List WayD) (line : Int) : Int := match row.findIdx? fun u => u.1 == line with
  | some i => (i : Int)
  | none => -1
theorem firstI_some {row : List WayD} {line : Int} {c : Nat → WCells} {k : Nat} {u : WayD} (hu : row[k]? = some u) (hl : u.1 = line) (hno : ∀ j u, j < k → row[j]? = some u → u.1 ≠ line) : firstI row line = k := by
  have hk := (List.getElem?_eq_some_iff.1 hu).1
  have : row.findIdx? (fun u => u.1 == line) = some k := by
    rw [List.findIdx?_eq_some_iff_getElem]
    refine ⟨hk, ?_, fun j hj => ?_⟩
    · rw [List.getElem?_eq_getElem hk] at hu
      cases hu
      simpa using hl
    · simpa using hno j _ hj (List.getElem?_eq_getElem (by omega))
  unfold firstI
  rw [this]
theorem firstI_none {row : List WayD} {line : Int} (hno : ∀ (j : Nat) (u : WayD), row[j]? = some u → u.1 ≠ line) : firstI row line = -1 := by
  have : row.findIdx? (fun u => u.1 == line) = none := by
    rw [List.findIdx?_eq_none_iff]
    intro u hu
    obtain ⟨j, hj⟩ := List.mem_iff_getElem?.1 hu
    simpa using hno j u hj
  unfold firstI
  rw [this]
set_option maxHeartbeats 400000 in
theorem waysOf_any (v : Value) (a : Option Addr) (n cap : Nat) (hv : v = .slice a n cap) (w : World) :
    Calls Tryz.prog 187 #[v] w fun e w' => e = .returned (.func (.func 206) #[] #[.pointer (some ⟨w.heap.size, 0, none⟩)]) ∧ w' = w.alloc (.cells #[v] 107) := by
  subst hv
  go_enter Tryz.func187, Tryz.ntmps187
  go_wp2
  go_ret
  exact ⟨rfl, rfl⟩
set_option maxHeartbeats 2000000 in
theorem firstWith_any (a : Option Addr) (row : List WayD) (cap : Nat) (line : Int) (w : World) (h : SlRd wayR w a row) (hne : row ≠ []) (hm : row.length ≤ 1048576) :
    Calls Tryz.prog 176 #[.slice a row.length cap, .int .i64 line] w fun e w' => e = .returned (.int .i64 (firstI row line)) ∧ Below w.heap.size w w' := by
  obtain ⟨b, off, c, rfl, hrow, hc⟩ := rowAt_of h hne
  have hpos : 0 < row.length := List.length_pos_iff.2 hne
  have hblt := rowAt_lt hrow hpos
  have HC : Hid (∀ (k : Nat) (u : WayD), row[k]? = some u → (c k).line = u.1) := fun k u hu => (hc k u hu).1
  clear h hc
  refine (callsIn_wide (n := 0)).1 ?_
  refine callsIn_of_wp_marks Tryz.func176 rfl trivial ?_ rfl
  simp only [Tryz.ntmps176, List.size_toArray, List.length_cons, List.length_nil, Nat.reduceAdd, Nat.reduceSub, Array.replicate_succ, Array.replicate_zero, List.push_toArray, List.append_toArray, List.nil_append, List.cons_append]
  gi_wp2
  refine ⟨trivial, rfl, (callsIn_wide.2 (waysOf_any _ _ _ _ rfl _)).mono ?_⟩
  rintro e w' ⟨rfl, rfl⟩
  gi_wp2
  have e1 : (w.alloc (.cells #[.int .i64 line] 2)).heap.size = w.heap.size + 1 := by simp
  have e2 : ((w.alloc (.cells #[.int .i64 line] 2)).alloc (.cells #[.int .i64 0] 2)).heap.size = w.heap.size + 1 + 1 := by simp
  have k0 := heap_at w (.cells #[.int .i64 line] 2)
  have k1 := heap_at (w.alloc (.cells #[.int .i64 line] 2)) (.cells #[.int .i64 0] 2)
  have k2 := heap_at ((w.alloc (.cells #[.int .i64 line] 2)).alloc (.cells #[.int .i64 0] 2)) (.cells #[.slice (some ⟨b, off, none⟩) row.length cap] 107)
  rw [e1] at k1
  rw [e2] at k2
  have k0' := heap_on (.cells #[.slice (some ⟨b, off, none⟩) row.length cap] 107) (heap_on (.cells #[.int .i64 0] 2) k0)
  have k1' := heap_on (.cells #[.slice (some ⟨b, off, none⟩) row.length cap] 107) k1
  have hB0 : Below w.heap.size w (((w.alloc (.cells #[.int .i64 line] 2)).alloc (.cells #[.int .i64 0] 2)).alloc (.cells #[.slice (some ⟨b, off, none⟩) row.length cap] 107)) :=
    (((Below.refl _ w).alloc (Nat.le_refl _) _).alloc (by simp) _).alloc (by simp; omega) _
  clear k0 k1
  have e3 : (((w.alloc (.cells #[.int .i64 line] 2)).alloc (.cells #[.int .i64 0] 2)).alloc (.cells #[.slice (some ⟨b, off, none⟩) row.length cap] 107)).heap.size = w.heap.size + 1 + 1 + 1 := by simp
  generalize (((w.alloc (.cells #[.int .i64 line] 2)).alloc (.cells #[.int .i64 0] 2)).alloc (.cells #[.slice (some ⟨b, off, none⟩) row.length cap] 107)) = W0 at k0' k1' k2 hB0 e3 ⊢
  clear e1 e2
  refine range_iter (N := row.length) (lb := #[.pointer (some ⟨w.heap.size + 1 + 1, 0, none⟩)]) (gf := 206) rfl (enters_of Tryz.func206 (by kernel_rfl) rfl)
    (waysOf1_iter (w.heap.size + 1 + 1) b off row.length cap c hm) (fun _ => rfl)
    (fun k W => (∀ j u, j < k → row[j]? = some u → u.1 ≠ line) ∧ W.heap[w.heap.size]? = some (.cells #[.int .i64 line] 2 (0, 0)) ∧ W.heap[w.heap.size + 1]? = some (.cells #[.int .i64 0] 2 (0, 0)) ∧ W.heap[w.heap.size + 1 + 1]? = some (.cells #[.slice (some ⟨b, off, none⟩) row.length cap] 107 (0, 0)) ∧ Below w.heap.size w W)
    (fun x k W => x = .ret ∧ firstI row line = k ∧ W.heap[w.heap.size + 1]? = some (.cells #[.int .i64 k] 2 (0, 0)) ∧ Below w.heap.size w W)
    ?hI ?hIx ?hR ?h0
    (fun k a' W => ∃ B, W0.heap.size < B ∧ W.heap[B]? = some (.cells #[.int .i64 (c k).line, .int .i64 (c k).state, .slice (c k).addr (c k).len (c k).cap] 30 (0, 0)) ∧ (∀ j u, j < k → row[j]? = some u → u.1 ≠ line) ∧ W.heap[w.heap.size]? = some (.cells #[.int .i64 line] 2 (0, 0)) ∧ W.heap[w.heap.size + 1]? = some (.cells #[.int .i64 0] 2 (0, 0)) ∧ W.heap[w.heap.size + 1 + 1]? = some (.cells #[.slice (some ⟨b, off, none⟩) row.length cap] 107 (0, 0)) ∧ Below w.heap.size w W ∧
      a' = { tmps := #[.slice (some ⟨b, off, none⟩) row.length cap, .int .i64 line, undef, .pointer (some ⟨w.heap.size, 0, none⟩), .pointer (some ⟨w.heap.size + 1, 0, none⟩), .int .i64 k, .pointer (some ⟨B, 0, none⟩), .slice (some ⟨b, off, none⟩) row.length cap, .func (.func 206) #[] #[.pointer (some ⟨w.heap.size + 1 + 1, 0, none⟩)], .int .i64 k, (c k).agg, undef, undef, undef, undef, undef], defers := [] })
    ?hA ?hassign ?hbody ?hdone ?hstop
  case hI => exact OwnFrom.and (ownFrom_pure _ _) (OwnFrom.and (own_heap _ _ _ _) (OwnFrom.and (own_heap _ _ _ _) (OwnFrom.and (own_heap _ _ _ _) (ownFrom_below (Nat.le_refl _) (by omega)))))
  case hIx => exact fun x => OwnFrom.and (ownFrom_pure _ _) (OwnFrom.and (ownFrom_pure _ _) (OwnFrom.and (fun k X Y row' hs hg hr => own_heap (β := Unit) _ _ _ _ () X Y row' hs hg hr) (ownFrom_below (Nat.le_refl _) (by omega))))
  case hR =>
    rintro k W ⟨_, _, _, h3, hB⟩
    exact ⟨by rw [cell_of_row W _ 0 _ _ (0, 0) h3]; rfl, rowAt_below hrow hB (fun _ _ => hblt)⟩
  case h0 => exact ⟨fun j u hj => by omega, k0', k1', k2, hB0⟩
  case hA =>
    rintro k a' ⟨⟩ X Y row' ⟨B, g1, g2, g3, g4, g5, g6, g7, rfl⟩ hg hr
    exact ⟨B, g1, own_heap (β := Unit) _ _ _ _ () X Y row' g2 hg hr, g3, own_heap (β := Unit) _ _ _ _ () X Y row' g4 hg hr, own_heap (β := Unit) _ _ _ _ () X Y row' g5 hg hr, own_heap (β := Unit) _ _ _ _ () X Y row' g6 hg hr, ownFrom_below (β := Unit) (Nat.le_refl _) (by omega) () X Y row' g7 hg hr, rfl⟩
  case hassign =>
    rintro k W K hk ⟨g3, g4, g5, g6, g7⟩ hlt hK
    gi_wp2
    refine hK _ _ (Kept.alloc _ _ _) ⟨W.heap.size, by omega, heap_at _ _, g3, heap_on _ g4, heap_on _ g5, heap_on _ g6, g7.alloc (by omega) _, rfl⟩
  case hbody =>
    rintro k a' W hk ⟨B, g1, g2, g3, g4, g5, g6, g7, rfl⟩ hlt _ _
    have q0 : W.cell? ⟨B, 0, none⟩ = some (.int .i64 (c k).line) := by rw [cell_of_row W _ 0 _ _ (0, 0) g2]; rfl
    have q1 : W.cell? ⟨w.heap.size, 0, none⟩ = some (.int .i64 line) := by rw [cell_of_row W _ 0 _ _ (0, 0) g4]; rfl
    have q2 : W.cell? ⟨w.heap.size + 1, 0, none⟩ = some (.int .i64 0) := by rw [cell_of_row W _ 0 _ _ (0, 0) g5]; rfl
    have q3 : W.frozen? ⟨w.heap.size + 1, 0, none⟩ = false := frozen_of_row W _ 0 _ _ g5
    have hu : row[k]? = some row[k] := List.getElem?_eq_getElem hk
    have hl := HC.out k _ hu
    generalize row[k] = u at hu hl
    have HU : Hid (row[k]? = some u) := hu
    have HL : Hid ((c k).line = u.1) := hl
    clear hu hl
    by_cases hx : ((c k).line == line) = true
    · gi_wp2
      have hx' : u.1 = line := by have := HL.out; simp at hx; omega
      refine ⟨Kept.chg (S := fun j => j = w.heap.size + 1) (chg_grown (grownBy_setCell' W (w.heap.size + 1) _) rfl) (fun j e => by omega), rfl, firstI_some (c := c) HU.out hx' g3, ?_, g7.setCell (p := ⟨w.heap.size + 1, 0, none⟩) (by simp) _⟩
      exact heap_setCell_same W _ 0 _ _ _ g5
    · simp only [Bool.not_eq_true] at hx
      gi_wp2
      refine ⟨Kept.refl _ _, fun j v hj hv => ?_, g4, g5, g6, g7⟩
      by_cases he : j < k
      · exact g3 j v he hv
      · have : j = k := by omega
        subst this
        rw [HU.out] at hv
        cases hv
        have := HL.out
        simp at hx
        omega
  case hdone =>
    rintro W ⟨g3, g4, g5, g6, g7⟩ hK
    have q2 : W.cell? ⟨w.heap.size + 1, 0, none⟩ = some (.int .i64 0) := by rw [cell_of_row W _ 0 _ _ (0, 0) g5]; rfl
    have q3 : W.frozen? ⟨w.heap.size + 1, 0, none⟩ = false := frozen_of_row W _ 0 _ _ g5
    gi_wp2
    have g8 := heap_setCell_same W (w.heap.size + 1) 0 _ _ (.int .i64 (-1)) g5
    have hK' : (W.setCell ⟨w.heap.size + 1, 0, none⟩ (.int .i64 (-1))).heap[W0.heap.size]? = some (.deferred (some [])) := (heap_setCell_other W ⟨w.heap.size + 1, 0, none⟩ _ _ (by simp; omega)).trans hK
    refine ⟨by simp, .inl ⟨_, _, rfl, run_takeDeferred hK', ?_⟩⟩
    have g9 := (World.putObj_heap_other (o := .deferred none) (show w.heap.size + 1 ≠ W0.heap.size by omega)).trans g8
    have hc5 := cell_of_row _ _ 0 _ _ (0, 0) g9
    refine ⟨.int .i64 (-1), ?_, ret_int (firstI_none fun j u hu => g3 j u (List.getElem?_eq_some_iff.1 hu).1 hu).symm, (g7.setCell (p := ⟨w.heap.size + 1, 0, none⟩) (by simp) _).trans ((Below.refl _ _).grown (grownBy_putObj' _ _ _) (by have := (Array.getElem?_eq_some_iff.1 hK').1; omega) (fun k e => by cases e; omega))⟩
    simp at hc5
    simp [results, Tryz.results176, go_sem, hc5]
  case hstop =>
    rintro x k W hk ⟨rfl, hf, g5, g7⟩ hK
    gi_wp2
    refine ⟨by simp, .inl ⟨_, _, rfl, run_takeDeferred hK, ?_⟩⟩
    have g9 := (World.putObj_heap_other (o := .deferred none) (show w.heap.size + 1 ≠ W0.heap.size by omega)).trans g5
    have hc5 := cell_of_row _ _ 0 _ _ (0, 0) g9
    refine ⟨.int .i64 k, ?_, ret_int hf.symm, g7.trans ((Below.refl _ _).grown (grownBy_putObj' _ _ _) (by have := (Array.getElem?_eq_some_iff.1 hK).1; omega) (fun k e => by cases e; omega))⟩
    simp at hc5
    simp [results, Tryz.results176, go_sem, hc5]
end Go.Proofs.YthbclkpmgcfdnaaGreatDoor
/- The iterator over all ways of a store: set by set. Condition: sets that are there, all of one length. -/
namespace Go.Proofs.YthbclkpmgcfdnaaGreatDoor
open Go.ChangeShapes Go.WideShapes Go.ChangeAt Go.RowKit Go.Shelf
set_option linter.unusedVariables false
attribute [local go_sem] Oper.semAt_some
/-- A store's sets in memory, by their cells: s sets of m ways. -/
structure SCells where
  b : Nat
  off : Nat
  cap : Nat
  way : Nat → WCells
def SetsAt (W : World) (b0 off0 s m : Nat) (c : Nat → SCells) : Prop :=
  ∀ i, i < s → W.cell? ⟨b0, off0 + i, none⟩ = some (.slice (some ⟨(c i).b, (c i).off, none⟩) m (c i).cap) ∧ RowAt W (c i).b (c i).off m (c i).way
theorem setsAt_keep {W W' : World} {b0 off0 s m : Nat} {c : Nat → SCells} (h : SetsAt W b0 off0 s m c) (h0 : W'.heap[b0]? = W.heap[b0]?) (h1 : ∀ i, i < s → W'.heap[(c i).b]? = W.heap[(c i).b]?) : SetsAt W' b0 off0 s m c := fun i hi => by
  obtain ⟨a1, a2⟩ := h i hi
  refine ⟨(World.cell?_of_block (w := W) (a := ⟨b0, _, none⟩) h0).trans a1, fun k hk => ?_⟩
  obtain ⟨q0, q1, q2⟩ := a2 k hk
  have := h1 i hi
  exact ⟨(World.cell?_of_block (w := W) (a := ⟨(c i).b, _, none⟩) this).trans q0, (World.cell?_of_block (w := W) (a := ⟨(c i).b, _, none⟩) this).trans q1, (World.cell?_of_block (w := W) (a := ⟨(c i).b, _, none⟩) this).trans q2⟩
theorem own_blk {β : Type} {B k : Nat} {o : Obj} (h : k < B) : OwnFrom B (fun (_ : β) W => W.heap[k]? = some o) := fun s X Y row hs hg hr =>
  (hg.block k (Array.getElem?_eq_some_iff.1 hs).1 fun e => by have := (hr k e.symm).1; omega).trans hs
abbrev mark (D : Nat) : Deferred := { target := .collected D, args := #[] }
/-- A function with marks among its deferred calls leaves: each block is shut. -/
theorem leaves_marks {fn : Func} {tmps : Array Value} {R : Ending → World → Prop} (H : World → Prop) : ∀ (Ds : List Nat) (w : World), Ds.Nodup → (∀ D ∈ Ds, w.heap[D]? = some (.deferred (some []))) →
    (∀ D ∈ Ds, ∀ w, H w → w.heap[D]? = some (.deferred (some [])) → H (w.putObj D (.deferred none))) → H w → (∀ w, H w → LeavesInM Fence.wide 0 Tryz.prog fn tmps R [] .returning w) → LeavesInM Fence.wide 0 Tryz.prog fn tmps R (Ds.map mark) .returning w
  | [], w, _, _, _, hw, hend => hend w hw
  | D :: Ds, w, hn, hd, hH, hw, hend => by
    refine ⟨by simp, .inl ⟨D, _, rfl, run_takeDeferred (hd D (by simp)), ?_⟩⟩
    obtain ⟨n1, n2⟩ := List.nodup_cons.1 hn
    refine leaves_marks H Ds _ n2 (fun E hE => ?_) (fun E hE => hH E (by simp [hE])) (hH D (by simp) w hw (hd D (by simp))) hend
    rw [World.putObj_heap_other (fun e => n1 (by rw [← e]; exact hE))]
    exact hd E (by simp [hE])
set_option maxHeartbeats 4000000 in
theorem everyWay1_iter (Bc b0 off0 s m cap0 : Nat) (c : Nat → SCells) (hs : s ≤ 4) (hm : m ≤ 4) (hs0 : 0 < s) (hm0 : 0 < m) :
    Iter Tryz.prog 186 #[.pointer (some ⟨Bc, 0, none⟩)] (fun k => #[.agg #[.int .i64 (k / m : Nat), .int .i64 (k % m : Nat)], ((c (k / m)).way (k % m)).agg]) (s * m)
      (fun W => W.cell? ⟨Bc, 0, none⟩ = some (.slice (some ⟨b0, off0, none⟩) s cap0) ∧ SetsAt W b0 off0 s m c) := by
  intro l J Jx W hJ hJx hR hY h0
  obtain ⟨r0, _⟩ := hR 0 W h0
  have r1 := World.block_lt_of_cell? W _ r0
  simp only at r1
  have by0 := heap_at W (.cells #[.func (.yield l) #[] #[]] 193)
  refine callsIn_of_wp_marks Tryz.func186 rfl trivial ?_ rfl
  simp only [Tryz.ntmps186, List.size_toArray, List.length_cons, List.length_nil, Nat.reduceAdd, Nat.reduceSub, Array.replicate_succ, Array.replicate_zero, List.push_toArray, List.append_toArray, List.nil_append, List.cons_append]
  gi_wp2
  have j0 : J 0 (W.alloc (.cells #[.func (.yield l) #[] #[]] 193)) := hJ.alloc _ h0
  have sz0 : W.heap.size < (W.alloc (.cells #[.func (.yield l) #[] #[]] 193)).heap.size := by simp
  generalize W.alloc (.cells #[.func (.yield l) #[] #[]] 193) = W1 at by0 j0 sz0 ⊢
  refine wpIn_loop (fun a wr => ∃ (i : Nat) (Ds : List Nat) (u3 u4 u5 u6 u7 u11 u12 u13 u14 u15 u16 u17 u18 u19 u20 u21 u22 u23 u24 u25 u26 : Value), i ≤ s ∧ Ds.Nodup ∧ (∀ D ∈ Ds, W.heap.size ≤ D ∧ wr.heap[D]? = some (.deferred (some []))) ∧ J (i * m) wr ∧ wr.heap[W.heap.size]? = some (.cells #[.func (.yield l) #[] #[]] 193 (0, 0)) ∧
      a = { tmps := #[.func (.yield l) #[] #[], .pointer (some ⟨Bc, 0, none⟩), .pointer (some ⟨W.heap.size, 0, none⟩), u3, u4, u5, u6, u7, .slice (some ⟨b0, off0, none⟩) s cap0, .int .i64 s, .int .i64 i, u11, u12, u13, u14, u15, u16, u17, u18, u19, u20, u21, u22, u23, u24, u25, u26], defers := Ds.map mark })
    (fun a _ => s - (intOf (a.tmps.getD 10 undef)).toNat) ⟨0, [], _, _, _, _, _, _, _, _, _, _, _, _, _, _, _, _, _, _, _, _, _, Nat.zero_le _, List.nodup_nil, by simp, by simpa using j0, by0, rfl⟩ ?_
  clear by0 j0 sz0 r0 h0
  rintro a wr ⟨i, Ds, u3, u4, u5, u6, u7, u11, u12, u13, u14, u15, u16, u17, u18, u19, u20, u21, u22, u23, u24, u25, u26, hi, hnd, hDs, hj, hby, rfl⟩
  by_cases hlt : i < s
  · have hlt' : (i : Int) < (s : Int) := by omega
    obtain ⟨q0, q1⟩ := hR _ wr hj
    obtain ⟨q2, q3⟩ := q1 i hlt
    have q4 := World.block_lt_of_cell? wr _ q2
    simp only at q4
    clear q1
    have HJ : Hid _ := hj
    clear hj
    gi_wp2
    refine ⟨trivial, rfl, (callsIn_wide.2 (waysOf_any _ _ _ _ rfl _)).mono ?_⟩
    rintro e w' ⟨rfl, rfl⟩
    gi_wp2
    have f0 := heap_at wr (.cells #[.int .i64 i] 3)
    have f1 := heap_at (wr.alloc (.cells #[.int .i64 i] 3)) (.cells #[.slice (some ⟨(c i).b, (c i).off, none⟩) m (c i).cap] 107)
    rw [World.size_alloc] at f1
    have f0' := heap_on (.cells #[.slice (some ⟨(c i).b, (c i).off, none⟩) m (c i).cap] 107) f0
    have hby' := heap_on (.cells #[.slice (some ⟨(c i).b, (c i).off, none⟩) m (c i).cap] 107) (heap_on (.cells #[.int .i64 i] 3) hby)
    have hDs' : ∀ D ∈ Ds, W.heap.size ≤ D ∧ D < wr.heap.size ∧ ((wr.alloc (.cells #[.int .i64 i] 3)).alloc (.cells #[.slice (some ⟨(c i).b, (c i).off, none⟩) m (c i).cap] 107)).heap[D]? = some (.deferred (some [])) := fun D hD => ⟨(hDs D hD).1, (Array.getElem?_eq_some_iff.1 (hDs D hD).2).1, heap_on _ (heap_on _ (hDs D hD).2)⟩
    have hj' : J (i * m) ((wr.alloc (.cells #[.int .i64 i] 3)).alloc (.cells #[.slice (some ⟨(c i).b, (c i).off, none⟩) m (c i).cap] 107)) := hJ.alloc _ (hJ.alloc _ HJ.out)
    have sz : ((wr.alloc (.cells #[.int .i64 i] 3)).alloc (.cells #[.slice (some ⟨(c i).b, (c i).off, none⟩) m (c i).cap] 107)).heap.size = wr.heap.size + 1 + 1 := by simp
    have hwr : W.heap.size < wr.heap.size := (Array.getElem?_eq_some_iff.1 hby).1
    generalize (wr.alloc (.cells #[.int .i64 i] 3)).alloc (.cells #[.slice (some ⟨(c i).b, (c i).off, none⟩) m (c i).cap] 107) = W2 at f0' f1 hby' hDs' hj' sz ⊢
    clear f0 hby hDs HJ q0 q2 q3 q4
    have NO : ∀ (V : World) (D : Nat), (∀ E ∈ Ds, W.heap.size ≤ E ∧ E < wr.heap.size ∧ V.heap[E]? = some (.deferred (some []))) → W2.heap.size ≤ D → V.heap[D]? = some (.deferred (some [])) → (D :: Ds).Nodup ∧ ∀ E ∈ D :: Ds, W.heap.size ≤ E ∧ V.heap[E]? = some (.deferred (some [])) := by
      intro V D h1 h2 h3
      refine ⟨List.nodup_cons.2 ⟨fun h => by have := (h1 D h).2.1; omega, hnd⟩, fun E hE => ?_⟩
      rcases List.mem_cons.1 hE with rfl | hE
      · exact ⟨by omega, h3⟩
      · exact ⟨(h1 E hE).1, (h1 E hE).2.2⟩
    have HNO : Hid _ := NO
    clear NO hnd
    refine range_iter (N := m) (lb := #[.pointer (some ⟨wr.heap.size + 1, 0, none⟩)]) (gf := 206) rfl (enters_of Tryz.func206 (by kernel_rfl) rfl)
      (waysOf1_iter (wr.heap.size + 1) (c i).b (c i).off m (c i).cap (c i).way (by omega)) (fun _ => rfl)
      (fun j V => J (i * m + j) V ∧ V.heap[W.heap.size]? = some (.cells #[.func (.yield l) #[] #[]] 193 (0, 0)) ∧ V.heap[wr.heap.size]? = some (.cells #[.int .i64 i] 3 (0, 0)) ∧ V.heap[wr.heap.size + 1]? = some (.cells #[.slice (some ⟨(c i).b, (c i).off, none⟩) m (c i).cap] 107 (0, 0)) ∧ ∀ D ∈ Ds, W.heap.size ≤ D ∧ D < wr.heap.size ∧ V.heap[D]? = some (.deferred (some [])))
      (fun x j V => x = .ret ∧ Jx (i * m + j) V ∧ ∀ D ∈ Ds, W.heap.size ≤ D ∧ D < wr.heap.size ∧ V.heap[D]? = some (.deferred (some [])))
      ?hI ?hIx ?hR ?h0
      (fun j a' V => ∃ B, W2.heap.size < B ∧ V.heap[B]? = some (.cells #[.int .i64 ((c i).way j).line, .int .i64 ((c i).way j).state, .slice ((c i).way j).addr ((c i).way j).len ((c i).way j).cap] 30 (0, 0)) ∧ J (i * m + j) V ∧ V.heap[W.heap.size]? = some (.cells #[.func (.yield l) #[] #[]] 193 (0, 0)) ∧ V.heap[wr.heap.size]? = some (.cells #[.int .i64 i] 3 (0, 0)) ∧ V.heap[wr.heap.size + 1]? = some (.cells #[.slice (some ⟨(c i).b, (c i).off, none⟩) m (c i).cap] 107 (0, 0)) ∧ (∀ D ∈ Ds, W.heap.size ≤ D ∧ D < wr.heap.size ∧ V.heap[D]? = some (.deferred (some []))) ∧
        a' = { tmps := #[.func (.yield l) #[] #[], .pointer (some ⟨Bc, 0, none⟩), .pointer (some ⟨W.heap.size, 0, none⟩), .pointer (some ⟨wr.heap.size, 0, none⟩), .slice (some ⟨(c i).b, (c i).off, none⟩) m (c i).cap, .int .i64 j, .pointer (some ⟨B, 0, none⟩), u7, .slice (some ⟨b0, off0, none⟩) s cap0, .int .i64 s, .int .i64 i, .bool true, .int .i64 i, .pointer (some ⟨b0, off0 + i, none⟩), .slice (some ⟨(c i).b, (c i).off, none⟩) m (c i).cap, .slice (some ⟨(c i).b, (c i).off, none⟩) m (c i).cap, .func (.func 206) #[] #[.pointer (some ⟨wr.heap.size + 1, 0, none⟩)], .int .i64 j, ((c i).way j).agg, u19, u20, u21, u22, u23, u24, u25, u26], defers := [] })
      ?hA ?hassign ?hbody ?hdone ?hstop
    case hI =>
      rintro j X Y row ⟨g1, g2, g3, g4, g5⟩ hg hr
      exact ⟨own_later hJ (by omega) _ X Y row g1 hg hr, own_heap (β := Unit) _ _ _ _ () X Y row g2 hg hr, own_heap (β := Unit) _ _ _ _ () X Y row g3 hg hr, own_heap (β := Unit) _ _ _ _ () X Y row g4 hg hr,
        fun D hD => ⟨(g5 D hD).1, (g5 D hD).2.1, own_blk (β := Unit) (by have := (g5 D hD).2.1; omega) () X Y row (g5 D hD).2.2 hg hr⟩⟩
    case hIx =>
      rintro x j X Y row ⟨g0, g1, g5⟩ hg hr
      exact ⟨g0, own_later hJx (by omega) _ X Y row g1 hg hr, fun D hD => ⟨(g5 D hD).1, (g5 D hD).2.1, own_blk (β := Unit) (by have := (g5 D hD).2.1; omega) () X Y row (g5 D hD).2.2 hg hr⟩⟩
    case hR =>
      rintro j V ⟨g1, _, _, g4, _⟩
      exact ⟨by rw [cell_of_row V _ 0 _ _ (0, 0) g4]; rfl, ((hR _ V g1).2 i hlt).2⟩
    case h0 => exact ⟨hj', hby', f0', f1, hDs'⟩
    case hA =>
      rintro j a' ⟨⟩ X Y row ⟨B, g0, g6, g1, g2, g3, g4, g5, rfl⟩ hg hr
      exact ⟨B, g0, own_heap (β := Unit) _ _ _ _ () X Y row g6 hg hr, own_later hJ (by omega) _ X Y row g1 hg hr, own_heap (β := Unit) _ _ _ _ () X Y row g2 hg hr, own_heap (β := Unit) _ _ _ _ () X Y row g3 hg hr, own_heap (β := Unit) _ _ _ _ () X Y row g4 hg hr,
        fun D hD => ⟨(g5 D hD).1, (g5 D hD).2.1, own_blk (β := Unit) (by have := (g5 D hD).2.1; omega) () X Y row (g5 D hD).2.2 hg hr⟩, rfl⟩
    case hassign =>
      rintro j V K hjm ⟨g1, g2, g3, g4, g5⟩ hv hK
      gi_wp2
      exact hK _ _ (Kept.alloc _ _ _) ⟨V.heap.size, by omega, heap_at _ _, hJ.alloc _ g1, heap_on _ g2, heap_on _ g3, heap_on _ g4, fun D hD => ⟨(g5 D hD).1, (g5 D hD).2.1, heap_on _ (g5 D hD).2.2⟩, rfl⟩
    case hbody =>
      rintro j a' V hjm ⟨B, g0, g6, g1, g2, g3, g4, g5, rfl⟩ hv _ _
      have y0 : V.cell? ⟨W.heap.size, 0, none⟩ = some (.func (.yield l) #[] #[]) := by rw [cell_of_row V _ 0 _ _ (0, 0) g2]; rfl
      have y1 : V.cell? ⟨wr.heap.size, 0, none⟩ = some (.int .i64 i) := by rw [cell_of_row V _ 0 _ _ (0, 0) g3]; rfl
      have y2 : V.cell? ⟨B, 0, none⟩ = some (.int .i64 ((c i).way j).line) := by rw [cell_of_row V _ 0 _ _ (0, 0) g6]; rfl
      have y3 : V.cell? ⟨B, 1, none⟩ = some (.int .i64 ((c i).way j).state) := by rw [cell_of_row V _ 1 _ _ (0, 0) g6]; rfl
      have y4 : V.cell? ⟨B, 2, none⟩ = some (.slice ((c i).way j).addr ((c i).way j).len ((c i).way j).cap) := by rw [cell_of_row V _ 2 _ _ (0, 0) g6]; rfl
      have d1 : (i * m + j) / m = i := by rw [Nat.mul_comm, Nat.mul_add_div hm0, Nat.div_eq_of_lt hjm, Nat.add_zero]
      have d2 : (i * m + j) % m = j := by rw [Nat.mul_comm, Nat.mul_add_mod, Nat.mod_eq_of_lt hjm]
      have d3 : i * m + j < s * m := by
        have : (i + 1) * m ≤ s * m := Nat.mul_le_mul_right _ hlt
        rw [Nat.add_one_mul] at this
        omega
      obtain ⟨fn, tmps, assign, body, hy, hrd⟩ := hY (i * m + j) V d3 g1
      rw [d1, d2] at hy
      clear d1 d2
      have bw : W.heap.size < V.heap.size := (Array.getElem?_eq_some_iff.1 g2).1
      have HG : Hid _ := And.intro g2 (And.intro g3 (And.intro g4 g5))
      clear g1 g2 g3 g4 g5 g6 d3
      gi_wp2
      refine ⟨rfl, hrd.mono ?_⟩
      rintro e W3 ⟨hkk, ⟨rfl, hj3⟩ | ⟨rfl, hx3⟩⟩
      · gi_wp2
        obtain ⟨g2, g3, g4, g5⟩ := HG.out
        refine ⟨hkk.mono (by omega), hj3, (hkk.2 _ (Nat.le_refl _) bw).trans g2, (hkk.2 _ (by omega) (by omega)).trans g3, (hkk.2 _ (by omega) (by omega)).trans g4, fun D hD => ⟨(g5 D hD).1, (g5 D hD).2.1, (hkk.2 _ (g5 D hD).1 (by have := (g5 D hD).2.1; omega)).trans (g5 D hD).2.2⟩⟩
      · gi_wp2
        obtain ⟨g2, g3, g4, g5⟩ := HG.out
        refine ⟨hkk.mono (by omega), rfl, hx3, fun D hD => ⟨(g5 D hD).1, (g5 D hD).2.1, (hkk.2 _ (g5 D hD).1 (by have := (g5 D hD).2.1; omega)).trans (g5 D hD).2.2⟩⟩
    case hdone =>
      rintro V ⟨g1, g2, g3, g4, g5⟩ hK
      obtain ⟨n1, n2⟩ := HNO.out V _ g5 (Nat.le_refl _) hK
      gi_wp2
      refine ⟨⟨i + 1, W2.heap.size :: Ds, _, _, _, _, _, _, _, _, _, _, _, _, _, _, _, _, _, _, _, _, _, hlt, n1, n2, by rw [Nat.add_one_mul]; exact g1, g2, rfl⟩, ?_⟩
      simp [intOf]
      omega
    case hstop =>
      rintro x j V hjm ⟨rfl, g1, g5⟩ hK
      obtain ⟨n1, n2⟩ := HNO.out V _ g5 (Nat.le_refl _) hK
      have d3 : i * m + j < s * m := by
        have : (i + 1) * m ≤ s * m := Nat.mul_le_mul_right _ hlt
        rw [Nat.add_one_mul] at this
        omega
      gi_wp2
      refine leaves_marks (fun V => Jx (i * m + j) V) (W2.heap.size :: Ds) V n1 (fun D hD => (n2 D hD).2) (fun D hD V' h hd => hJx.putObj _ h (n2 D hD).1 hd rfl) g1 ?_
      intro V' h'
      exact ⟨_, results_none rfl _ _ _, ⟨_, rfl⟩, .inr ⟨_, d3, h'⟩⟩
  · have his : i = s := by omega
    subst his
    gi_wp2
    refine leaves_marks (fun V => J (i * m) V) Ds wr hnd (fun D hD => (hDs D hD).2) (fun D hD V' h hd => hJ.putObj _ h (hDs D hD).1 hd rfl) hj ?_
    intro V' h'
    exact ⟨_, results_none rfl _ _ _, ⟨_, rfl⟩, .inl h'⟩
end Go.Proofs.YthbclkpmgcfdnaaGreatDoor
