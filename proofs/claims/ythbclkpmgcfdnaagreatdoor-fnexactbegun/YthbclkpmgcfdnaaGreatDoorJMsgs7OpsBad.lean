
/- Msgs, LetterOk, MsgMarks, UMsg, Ops, Prog11, OpsBad. -/
import Derived.Test.YthbclkpmgcfdnaaGreatDoorJOwn516Lines4
import Derived.Test.YthbclkpmgcfdnaaGreatDoorJLines614Iters
import Derived.Test.YthbclkpmgcfdnaaGreatDoorJChange8Own
import Derived.Below
import Derived.Laws.EntriesVeiled
import Derived.Deep.QuietTactic
import Derived.Deep.Cut
import Derived.Deep.WholeRow
import Derived.BigQuiet
import Derived.Test.YthbclkpmgcfdnaaGreatDoorJLists8CacheFacts
/- Msgs (numbers and one list) as they lie in memory; the contracts of the laws' own helpers over one and over lists of them: how great, a copy, alike. Conditions: lengths that a machine can hold. -/
namespace Go.Proofs.YthbclkpmgcfdnaaGreatDoor
open Go.ChangeShapes Go.WideShapes Go.ChangeAt Go.RowKit
set_option linter.unusedVariables false
abbrev MsgD := Int × Int × Int × Int × Int × List Int × Int
abbrev msgR : Rep MsgD := prodR intR (prodR intR (prodR intR (prodR intR (prodR intR (prodR intsR intR)))))
abbrev msgM : Mk MsgD := prodM intM (prodM intM (prodM intM (prodM intM (prodM intM (prodM intsM intM)))))
abbrev msgsR : Rep (List MsgD) := slR 50 msgR
abbrev msgsM : Mk (List MsgD) := slM msgM
theorem opens_msg : Opens Tryz.prog 71 msgR :=
  opens_struct Tryz.underlying71 (by kernel_rfl) (opensF_cons rfl (by kernel_rfl) opens_i64 (opensF_cons rfl (by kernel_rfl) opens_i64 (opensF_cons rfl (by kernel_rfl) opens_i64 (opensF_cons rfl (by kernel_rfl) opens_i64 (opensF_cons rfl (by kernel_rfl) opens_i64 (opensF_cons rfl (by kernel_rfl) opens_ints (opensF_one rfl (by kernel_rfl) opens_i64)))))))
theorem msg_rd {w : World} {cs : List Value} {u : MsgD} (h : msgR.rd w cs u) :
    ∃ a cap, cs = [.int .i64 u.1, .int .i64 u.2.1, .int .i64 u.2.2.1, .int .i64 u.2.2.2.1, .int .i64 u.2.2.2.2.1, .slice a u.2.2.2.2.2.1.length cap, .int .i64 u.2.2.2.2.2.2] ∧ In64 u.1 ∧ In64 u.2.1 ∧ In64 u.2.2.1 ∧ In64 u.2.2.2.1 ∧ In64 u.2.2.2.2.1 ∧ In64 u.2.2.2.2.2.2 ∧ u.2.2.2.2.2.1.length ≤ cap ∧ cap ≤ maxLen ∧ SlRd intR w a u.2.2.2.2.2.1 := by
  obtain ⟨c0, e0, rfl, ⟨rfl, i0⟩, c1, e1, rfl, ⟨rfl, i1⟩, c2, e2, rfl, ⟨rfl, i2⟩, c3, e3, rfl, ⟨rfl, i3⟩, c4, e4, rfl, ⟨rfl, i4⟩, c5, e5, rfl, ⟨a, cap, rfl, h1, h2, h3⟩, ⟨rfl, i6⟩⟩ := h
  exact ⟨a, cap, rfl, i0, i1, i2, i3, i4, i6, h1, h2, h3⟩
theorem msg_own {w : World} {S : Foot} {cs : List Value} {u : MsgD} (h : msgR.own w S cs u) :
    ∃ v, cs = [.int .i64 u.1, .int .i64 u.2.1, .int .i64 u.2.2.1, .int .i64 u.2.2.2.1, .int .i64 u.2.2.2.2.1, v, .int .i64 u.2.2.2.2.2.2] ∧ In64 u.1 ∧ In64 u.2.1 ∧ In64 u.2.2.1 ∧ In64 u.2.2.2.1 ∧ In64 u.2.2.2.2.1 ∧ In64 u.2.2.2.2.2.2 ∧ intsR.own w S [v] u.2.2.2.2.2.1 := by
  obtain ⟨c0, e0, S0, T0, rfl, ⟨rfl, i0⟩, ⟨c1, e1, S1, T1, rfl, ⟨rfl, i1⟩, ⟨c2, e2, S2, T2, rfl, ⟨rfl, i2⟩, ⟨c3, e3, S3, T3, rfl, ⟨rfl, i3⟩, ⟨c4, e4, S4, T4, rfl, ⟨rfl, i4⟩, ⟨c5, e5, S5, T5, rfl, h9, ⟨rfl, i6⟩, p5, q5, d5⟩, p4, q4, d4⟩, p3, q3, d3⟩, p2, q2, d2⟩, p1, q1, d1⟩, p0, q0, d0⟩ := h
  have hl := intsR.rd_len (intsR.own_rd h9)
  obtain ⟨v, rfl⟩ : ∃ v, c5 = [v] := List.length_eq_one_iff.1 hl
  exact ⟨v, rfl, i0, i1, i2, i3, i4, i6, intsR.own_mono h9 ((((((p5).trans q4).trans q3).trans q2).trans q1).trans q0)⟩
theorem own_msg {w : World} {S : Foot} {f0 f1 f2 f3 f4 f6 : Int} {d : List Int} {v : Value} (i0 : In64 f0) (i1 : In64 f1) (i2 : In64 f2) (i3 : In64 f3) (i4 : In64 f4) (i6 : In64 f6) (h : intsR.own w S [v] d) : msgR.own w S [.int .i64 f0, .int .i64 f1, .int .i64 f2, .int .i64 f3, .int .i64 f4, v, .int .i64 f6] (f0, f1, f2, f3, f4, d, f6) :=
  ⟨[_], [_, _, _, _, _, _], fun _ => False, S, rfl, ⟨rfl, i0⟩, ⟨[_], [_, _, _, _, _], fun _ => False, S, rfl, ⟨rfl, i1⟩, ⟨[_], [_, _, _, _], fun _ => False, S, rfl, ⟨rfl, i2⟩, ⟨[_], [_, _, _], fun _ => False, S, rfl, ⟨rfl, i3⟩, ⟨[_], [_, _], fun _ => False, S, rfl, ⟨rfl, i4⟩, ⟨[_], [_], S, fun _ => False, rfl, h, ⟨rfl, i6⟩, Sub.refl _, fun _ h => h.elim, fun _ _ h => h⟩, fun _ h => h.elim, Sub.refl _, fun _ h _ => h⟩, fun _ h => h.elim, Sub.refl _, fun _ h _ => h⟩, fun _ h => h.elim, Sub.refl _, fun _ h _ => h⟩, fun _ h => h.elim, Sub.refl _, fun _ h _ => h⟩, fun _ h => h.elim, Sub.refl _, fun _ h _ => h⟩
theorem bk_msg (u : MsgD) : msgM.bk u = intsM.bk u.2.2.2.2.2.1 := by
  show 0 + (0 + (0 + (0 + (0 + (intsM.bk u.2.2.2.2.2.1 + 0))))) = _
  omega
theorem cells_7 {w : World} {g : Nat} {x0 x1 x2 x3 x4 x5 x6 : Value} {t : TypeId} (h : w.heap[g]? = some (.cells #[x0, x1, x2, x3, x4, x5, x6] t (0, 0))) :
    w.cell? ⟨g, 0, none⟩ = some x0 ∧ w.cell? ⟨g, 1, none⟩ = some x1 ∧ w.cell? ⟨g, 2, none⟩ = some x2 ∧ w.cell? ⟨g, 3, none⟩ = some x3 ∧ w.cell? ⟨g, 4, none⟩ = some x4 ∧ w.cell? ⟨g, 5, none⟩ = some x5 ∧ w.cell? ⟨g, 6, none⟩ = some x6 :=
  ⟨by rw [cell_of_row w g 0 _ t (0, 0) h]; rfl, by rw [cell_of_row w g 1 _ t (0, 0) h]; rfl, by rw [cell_of_row w g 2 _ t (0, 0) h]; rfl, by rw [cell_of_row w g 3 _ t (0, 0) h]; rfl, by rw [cell_of_row w g 4 _ t (0, 0) h]; rfl, by rw [cell_of_row w g 5 _ t (0, 0) h]; rfl, by rw [cell_of_row w g 6 _ t (0, 0) h]; rfl⟩
theorem froz_7 {w : World} {g : Nat} {cs : Array Value} {t : TypeId} (h : w.heap[g]? = some (.cells cs t (0, 0))) : w.frozen? ⟨g, 0, none⟩ = false ∧ w.frozen? ⟨g, 1, none⟩ = false ∧ w.frozen? ⟨g, 2, none⟩ = false ∧ w.frozen? ⟨g, 3, none⟩ = false ∧ w.frozen? ⟨g, 4, none⟩ = false ∧ w.frozen? ⟨g, 5, none⟩ = false ∧ w.frozen? ⟨g, 6, none⟩ = false :=
  ⟨frozen_of_row w g 0 _ t h, frozen_of_row w g 1 _ t h, frozen_of_row w g 2 _ t h, frozen_of_row w g 3 _ t h, frozen_of_row w g 4 _ t h, frozen_of_row w g 5 _ t h, frozen_of_row w g 6 _ t h⟩
theorem put_7 {w : World} {g : Nat} {x0 y0 x1 y1 x2 y2 x3 y3 x4 y4 x5 y5 x6 y6 : Value} {t : TypeId} (h : w.heap[g]? = some (.cells #[x0, x1, x2, x3, x4, x5, x6] t (0, 0))) :
    (((((((w.setCell ⟨g, 0, none⟩ y0).setCell ⟨g, 1, none⟩ y1).setCell ⟨g, 2, none⟩ y2).setCell ⟨g, 3, none⟩ y3).setCell ⟨g, 4, none⟩ y4).setCell ⟨g, 5, none⟩ y5).setCell ⟨g, 6, none⟩ y6).heap[g]? = some (.cells #[y0, y1, y2, y3, y4, y5, y6] t (0, 0)) := by
  have h0 : (w.setCell ⟨g, 0, none⟩ y0).heap[g]? = some (.cells #[y0, x1, x2, x3, x4, x5, x6] t (0, 0)) := heap_setCell_same _ g 0 _ t y0 h
  have h1 : ((w.setCell ⟨g, 0, none⟩ y0).setCell ⟨g, 1, none⟩ y1).heap[g]? = some (.cells #[y0, y1, x2, x3, x4, x5, x6] t (0, 0)) := heap_setCell_same _ g 1 _ t y1 h0
  have h2 : (((w.setCell ⟨g, 0, none⟩ y0).setCell ⟨g, 1, none⟩ y1).setCell ⟨g, 2, none⟩ y2).heap[g]? = some (.cells #[y0, y1, y2, x3, x4, x5, x6] t (0, 0)) := heap_setCell_same _ g 2 _ t y2 h1
  have h3 : ((((w.setCell ⟨g, 0, none⟩ y0).setCell ⟨g, 1, none⟩ y1).setCell ⟨g, 2, none⟩ y2).setCell ⟨g, 3, none⟩ y3).heap[g]? = some (.cells #[y0, y1, y2, y3, x4, x5, x6] t (0, 0)) := heap_setCell_same _ g 3 _ t y3 h2
  have h4 : (((((w.setCell ⟨g, 0, none⟩ y0).setCell ⟨g, 1, none⟩ y1).setCell ⟨g, 2, none⟩ y2).setCell ⟨g, 3, none⟩ y3).setCell ⟨g, 4, none⟩ y4).heap[g]? = some (.cells #[y0, y1, y2, y3, y4, x5, x6] t (0, 0)) := heap_setCell_same _ g 4 _ t y4 h3
  have h5 : ((((((w.setCell ⟨g, 0, none⟩ y0).setCell ⟨g, 1, none⟩ y1).setCell ⟨g, 2, none⟩ y2).setCell ⟨g, 3, none⟩ y3).setCell ⟨g, 4, none⟩ y4).setCell ⟨g, 5, none⟩ y5).heap[g]? = some (.cells #[y0, y1, y2, y3, y4, y5, x6] t (0, 0)) := heap_setCell_same _ g 5 _ t y5 h4
  have h6 : (((((((w.setCell ⟨g, 0, none⟩ y0).setCell ⟨g, 1, none⟩ y1).setCell ⟨g, 2, none⟩ y2).setCell ⟨g, 3, none⟩ y3).setCell ⟨g, 4, none⟩ y4).setCell ⟨g, 5, none⟩ y5).setCell ⟨g, 6, none⟩ y6).heap[g]? = some (.cells #[y0, y1, y2, y3, y4, y5, y6] t (0, 0)) := heap_setCell_same _ g 6 _ t y6 h5
  exact h6

set_option maxHeartbeats 1000000 in
theorem szMsg_rep (f0 f1 f2 f3 f4 f6 : Int) (d : List Int) (a : Option Addr) (cap : Nat) (left : Int) (w : World) (h0 : 0 ≤ left) (h1 : left ≤ 1048576) (hm : d.length ≤ maxLen) :
    Calls Tryz.prog 35 #[.agg #[.int .i64 f0, .int .i64 f1, .int .i64 f2, .int .i64 f3, .int .i64 f4, .slice a d.length cap, .int .i64 f6], .int .i64 left] w fun e w' => e = .returned (.int .i64 (szI (msgM.bk (f0, f1, f2, f3, f4, d, f6)) left)) ∧ Below w.heap.size w w' := by
  rw [bk_msg]
  show Calls Tryz.prog 35 _ w fun e w' => e = .returned (.int .i64 (szI (intsM.bk d) left)) ∧ Below w.heap.size w w'
  by_cases hl : (intsM.bk d : Int) ≤ left
  · have HS : Hid (szI (intsM.bk d) left = _) := szI_yes hl
    have hl' : ¬ (left - (intsM.bk d : Int) < 0) := by omega
    go_enter Tryz.func35, Tryz.ntmps35
    go_wp2_with (go_at_call 84; refine (szInt64S_rep _ d _ _ _ h0 h1 hm).mono ?_; rintro e w' ⟨rfl, rfl⟩; rw [HS.out])
    go_ret
    exact ⟨ret_int HS.out.symm, box_below w _⟩
  · have HS : Hid (szI (intsM.bk d) left = _) := szI_no hl
    go_enter Tryz.func35, Tryz.ntmps35
    go_wp2_with (go_at_call 84; refine (szInt64S_rep _ d _ _ _ h0 h1 hm).mono ?_; rintro e w' ⟨rfl, rfl⟩; rw [HS.out])
    go_ret
    exact ⟨ret_int HS.out.symm, box_below w _⟩


set_option maxHeartbeats 2000000 in
theorem toMsg_rep (f0 f1 f2 f3 f4 f6 : Int) (d : List Int) (a : Option Addr) (cap : Nat) (w : World) (i0 : In64 f0) (i1 : In64 f1) (i2 : In64 f2) (i3 : In64 f3) (i4 : In64 f4) (i6 : In64 f6) (h : SlRd intR w a d) (hm : intsM.bk d ≤ 1048576) :
    Calls Tryz.prog 36 #[.agg #[.int .i64 f0, .int .i64 f1, .int .i64 f2, .int .i64 f3, .int .i64 f4, .slice a d.length cap, .int .i64 f6]] w fun e w' => ∃ av cv, e = .returned (.agg #[.int .i64 f0, .int .i64 f1, .int .i64 f2, .int .i64 f3, .int .i64 f4, .slice av d.length cv, .int .i64 f6]) ∧ MadeR msgR w w' [.int .i64 f0, .int .i64 f1, .int .i64 f2, .int .i64 f3, .int .i64 f4, .slice av d.length cv, .int .i64 f6] (f0, f1, f2, f3, f4, d, f6) := by
  have H : Hid (∀ W, Below w.heap.size w W → SlRd intR W a d) := fun W hb => slrd_keep h fun k hk => hb.block k hk
  clear h
  go_enter Tryz.func36, Tryz.ntmps36
  go_wp2_with fail
  have B0 : Below w.heap.size w (((w.alloc (.cells #[.int .i64 f0, .int .i64 f1, .int .i64 f2, .int .i64 f3, .int .i64 f4, .slice a d.length cap, .int .i64 f6] 71)).alloc (.cells #[.int .i64 0, .int .i64 0, .int .i64 0, .int .i64 0, .int .i64 0, .slice none 0 0, .int .i64 0] 50)).alloc (.cells #[.int .i64 f0, .int .i64 f1, .int .i64 f2, .int .i64 f3, .int .i64 f4, .slice none 0 0, .int .i64 0] 50)) := (((Below.refl _ w).alloc (Nat.le_refl _) _).alloc (by simp) _).alloc (by simp; omega) _
  have X1 := heap_on (.cells #[.int .i64 f0, .int .i64 f1, .int .i64 f2, .int .i64 f3, .int .i64 f4, .slice none 0 0, .int .i64 0] 50) (heap_at (w.alloc (.cells #[.int .i64 f0, .int .i64 f1, .int .i64 f2, .int .i64 f3, .int .i64 f4, .slice a d.length cap, .int .i64 f6] 71)) (.cells #[.int .i64 0, .int .i64 0, .int .i64 0, .int .i64 0, .int .i64 0, .slice none 0 0, .int .i64 0] 50))
  have X2 := heap_at ((w.alloc (.cells #[.int .i64 f0, .int .i64 f1, .int .i64 f2, .int .i64 f3, .int .i64 f4, .slice a d.length cap, .int .i64 f6] 71)).alloc (.cells #[.int .i64 0, .int .i64 0, .int .i64 0, .int .i64 0, .int .i64 0, .slice none 0 0, .int .i64 0] 50)) (.cells #[.int .i64 f0, .int .i64 f1, .int .i64 f2, .int .i64 f3, .int .i64 f4, .slice none 0 0, .int .i64 0] 50)
  have e3 : (((w.alloc (.cells #[.int .i64 f0, .int .i64 f1, .int .i64 f2, .int .i64 f3, .int .i64 f4, .slice a d.length cap, .int .i64 f6] 71)).alloc (.cells #[.int .i64 0, .int .i64 0, .int .i64 0, .int .i64 0, .int .i64 0, .slice none 0 0, .int .i64 0] 50)).alloc (.cells #[.int .i64 f0, .int .i64 f1, .int .i64 f2, .int .i64 f3, .int .i64 f4, .slice none 0 0, .int .i64 0] 50)).heap.size = w.heap.size + 1 + 1 + 1 := by simp
  have X0 := heap_on (.cells #[.int .i64 f0, .int .i64 f1, .int .i64 f2, .int .i64 f3, .int .i64 f4, .slice none 0 0, .int .i64 0] 50) (heap_on (.cells #[.int .i64 0, .int .i64 0, .int .i64 0, .int .i64 0, .int .i64 0, .slice none 0 0, .int .i64 0] 50) (heap_at w (.cells #[.int .i64 f0, .int .i64 f1, .int .i64 f2, .int .i64 f3, .int .i64 f4, .slice a d.length cap, .int .i64 f6] 71)))
  rw [alloc_len] at X1
  rw [alloc_len, alloc_len] at X2
  generalize ((w.alloc (.cells #[.int .i64 f0, .int .i64 f1, .int .i64 f2, .int .i64 f3, .int .i64 f4, .slice a d.length cap, .int .i64 f6] 71)).alloc (.cells #[.int .i64 0, .int .i64 0, .int .i64 0, .int .i64 0, .int .i64 0, .slice none 0 0, .int .i64 0] 50)).alloc (.cells #[.int .i64 f0, .int .i64 f1, .int .i64 f2, .int .i64 f3, .int .i64 f4, .slice none 0 0, .int .i64 0] 50) = W0 at B0 X0 X1 X2 e3 ⊢
  refine (toInt64S_rep _ d _ _ (H.out _ B0) hm).mono ?_
  rintro e w1 ⟨v, rfl, mm⟩
  obtain ⟨av, cv, rfl⟩ := slown_val mm.1
  have hm2 := mm.2
  have hown := mm.1
  have B1 := below_step B0 hm2
  replace X0 := row_keep hm2 X0
  replace X1 := row_keep hm2 X1
  replace X2 := row_keep hm2 X2
  obtain ⟨q0, q1, q2, q3, q4, q5, q6⟩ := cells_7 X0
  obtain ⟨y0, y1, y2, y3, y4, y5, y6⟩ := cells_7 X2
  obtain ⟨f0y, f1y, f2y, f3y, f4y, f5y, f6y⟩ := froz_7 X2
  obtain ⟨z0, z1, z2, z3, z4, z5, z6⟩ := cells_7 X1
  obtain ⟨g0, g1, g2, g3, g4, g5, g6⟩ := froz_7 X1
  have HX : Hid _ := And.intro X1 X2
  have HO : Hid _ := hown
  clear X0 X1 X2 hown mm H
  go_wp2
  obtain ⟨X1, X2⟩ := HX.out
  have Y1 := put_7 (y0 := .int .i64 f0) (y1 := .int .i64 f1) (y2 := .int .i64 f2) (y3 := .int .i64 f3) (y4 := .int .i64 f4) (y5 := .slice av d.length cv) (y6 := .int .i64 f6) (heap_setC (g := w.heap.size + 1 + 1) (o := 6) (v := .int .i64 f6) (heap_setC (g := w.heap.size + 1 + 1) (o := 5) (v := .slice av d.length cv) X1 (by omega)) (by omega))
  obtain ⟨r0, r1, r2, r3, r4, r5, r6⟩ := cells_7 Y1
  refine bodyPost_ret (v := .agg #[.int .i64 f0, .int .i64 f1, .int .i64 f2, .int .i64 f3, .int .i64 f4, .slice av d.length cv, .int .i64 f6]) (by simp [results, Tryz.results36, go_sem, r0, r1, r2, r3, r4, r5, r6]) rfl ⟨av, cv, rfl, own_msg i0 i1 i2 i3 i4 i6 ?_, ?_⟩
  · refine intsR.own_mono (own_setC (own_setC (own_setC (own_setC (own_setC (own_setC (own_setC (own_setC (own_setC (HO.out) (fun h => by have := h.1; omega)) (fun h => by have := h.1; omega)) (fun h => by have := h.1; omega)) (fun h => by have := h.1; omega)) (fun h => by have := h.1; omega)) (fun h => by have := h.1; omega)) (fun h => by have := h.1; omega)) (fun h => by have := h.1; omega)) (fun h => by have := h.1; omega)) ?_
    exact rng_sub (by omega) (by simp)
  · exact below_setC (below_setC (below_setC (below_setC (below_setC (below_setC (below_setC (below_setC (below_setC (B1) (by omega)) (by omega)) (by omega)) (by omega)) (by omega)) (by omega)) (by omega)) (by omega)) (by omega)


set_option maxHeartbeats 2000000 in
theorem eqMsg_rep (f0 f1 f2 f3 f4 f6 : Int) (d : List Int) (a1 a2 : Option Addr) (c1 c2 : Nat) (w : World) (h1 : SlRd intR w a1 d) (h2 : SlRd intR w a2 d) (hm : intsM.bk d ≤ 1152921504606846976) :
    Calls Tryz.prog 37 #[.agg #[.int .i64 f0, .int .i64 f1, .int .i64 f2, .int .i64 f3, .int .i64 f4, .slice a1 d.length c1, .int .i64 f6], .agg #[.int .i64 f0, .int .i64 f1, .int .i64 f2, .int .i64 f3, .int .i64 f4, .slice a2 d.length c2, .int .i64 f6]] w fun e w' => e = .returned (.bool true) ∧ Below w.heap.size w w' := by
  have HB : Hid (∀ o o', Below w.heap.size w ((w.alloc o).alloc o')) := fun o o' => below_step (box_below w o) (box_below _ o')
  have H1 : Hid (∀ W, Below w.heap.size w W → SlRd intR W a1 d) := fun W hb => slrd_keep h1 fun k hk => hb.block k hk
  have H2 : Hid (∀ W, Below w.heap.size w W → SlRd intR W a2 d) := fun W hb => slrd_keep h2 fun k hk => hb.block k hk
  clear h1 h2
  go_enter Tryz.func37, Tryz.ntmps37
  go_wp2_with fail
  refine (eqInt64S_rep a1 a2 d c1 c2 _ (H1.out _ (HB.out _ _)) (H2.out _ (HB.out _ _)) hm).mono ?_
  rintro e w' ⟨rfl, n, rfl⟩
  go_wp2
  go_ret
  exact ⟨rfl, be_drewN (HB.out _ _) n⟩

set_option maxHeartbeats 2000000 in
theorem eqMsgS_rep (a1 a2 : Option Addr) (xs : List MsgD) (c1 c2 : Nat) (w : World) (h1 : SlRd msgR w a1 xs) (h2 : SlRd msgR w a2 xs) (hm : (slM msgM).bk xs ≤ 1152921504606846976) :
    Calls Tryz.prog 30 #[.slice a1 xs.length c1, .slice a2 xs.length c2] w fun e w' => e = .returned (.bool true) ∧ Below w.heap.size w w' := by
  have hbk : (slM msgM).bk xs = xs.length + sumbk msgM xs := rfl
  have hln : xs.length ≤ 1152921504606846976 := by omega
  have HB : Hid (sumbk msgM xs ≤ 1152921504606846976) := by unfold Hid; omega
  have H1 : Hid (∀ W, Below w.heap.size w W → SlRd msgR W a1 xs) := fun W hb => slrd_keep h1 fun k hk => hb.block k hk
  have H2 : Hid (∀ W, Below w.heap.size w W → SlRd msgR W a2 xs) := fun W hb => slrd_keep h2 fun k hk => hb.block k hk
  clear hbk hm h1 h2
  go_enter Tryz.func30, Tryz.ntmps30
  go_wp2
  go_loopw [5] (fun i wr => ∃ k : Nat, k ≤ xs.length ∧ i = .int .i64 k ∧ Below w.heap.size w wr) (fun i _ => xs.length - (intOf i).toNat)
  case atStart => exact ⟨0, Nat.zero_le _, rfl, Below.refl _ _⟩
  case round =>
    obtain ⟨k, hk, rfl, BB⟩ := hrel
    by_cases hlt : k < xs.length
    · have hlt' : (k : Int) < (xs.length : Int) := by omega
      obtain ⟨x, hx⟩ : ∃ x, xs[k]? = some x := ⟨_, List.getElem?_eq_getElem hlt⟩
      have HX : Hid ((msgM).bk x ≤ 1152921504606846976) := by unfold Hid; have := sumbk_ge msgM xs hx; have := HB.out; omega
      obtain ⟨b1, off1, cs1, rfl, hrd1, hcell1⟩ := slrd_at (H1.out _ BB) hx
      obtain ⟨ad1, cpw1, rfl, -, -, -, -, -, -, -, -, hd1⟩ := msg_rd hrd1
      have x10 := hcell1 0 _ rfl
      have x11 := hcell1 1 _ rfl
      have x12 := hcell1 2 _ rfl
      have x13 := hcell1 3 _ rfl
      have x14 := hcell1 4 _ rfl
      have x15 := hcell1 5 _ rfl
      have x16 := hcell1 6 _ rfl
      rw [show off1 + (k * msgR.size + 0) = off1 + k * 7 from rfl] at x10
      rw [show off1 + (k * msgR.size + 1) = off1 + k * 7 + 1 from rfl] at x11
      rw [show off1 + (k * msgR.size + 2) = off1 + k * 7 + 2 from rfl] at x12
      rw [show off1 + (k * msgR.size + 3) = off1 + k * 7 + 3 from rfl] at x13
      rw [show off1 + (k * msgR.size + 4) = off1 + k * 7 + 4 from rfl] at x14
      rw [show off1 + (k * msgR.size + 5) = off1 + k * 7 + 5 from rfl] at x15
      rw [show off1 + (k * msgR.size + 6) = off1 + k * 7 + 6 from rfl] at x16
      have HR1 : Hid (∀ n : Cls (fun wx => Below wr.heap.size wr wx), SlRd intR n.w ad1 x.2.2.2.2.2.1) := fun n => slrd_next hd1 n.h
      clear hcell1 hrd1 hd1
      obtain ⟨b2, off2, cs2, rfl, hrd2, hcell2⟩ := slrd_at (H2.out _ BB) hx
      obtain ⟨ad2, cpw2, rfl, -, -, -, -, -, -, -, -, hd2⟩ := msg_rd hrd2
      have x20 := hcell2 0 _ rfl
      have x21 := hcell2 1 _ rfl
      have x22 := hcell2 2 _ rfl
      have x23 := hcell2 3 _ rfl
      have x24 := hcell2 4 _ rfl
      have x25 := hcell2 5 _ rfl
      have x26 := hcell2 6 _ rfl
      rw [show off2 + (k * msgR.size + 0) = off2 + k * 7 from rfl] at x20
      rw [show off2 + (k * msgR.size + 1) = off2 + k * 7 + 1 from rfl] at x21
      rw [show off2 + (k * msgR.size + 2) = off2 + k * 7 + 2 from rfl] at x22
      rw [show off2 + (k * msgR.size + 3) = off2 + k * 7 + 3 from rfl] at x23
      rw [show off2 + (k * msgR.size + 4) = off2 + k * 7 + 4 from rfl] at x24
      rw [show off2 + (k * msgR.size + 5) = off2 + k * 7 + 5 from rfl] at x25
      rw [show off2 + (k * msgR.size + 6) = off2 + k * 7 + 6 from rfl] at x26
      have HR2 : Hid (∀ n : Cls (fun wx => Below wr.heap.size wr wx), SlRd intR n.w ad2 x.2.2.2.2.2.1) := fun n => slrd_next hd2 n.h
      clear hcell2 hrd2 hd2
      have x10c : ∀ n : Cls (fun wx => Below wr.heap.size wr wx), n.w.cell? ⟨b1, off1 + k * 7, none⟩ = some (.int .i64 x.1) := fun n => cell_keep n.h x10 (cell_lt x10)
      have x11c : ∀ n : Cls (fun wx => Below wr.heap.size wr wx), n.w.cell? ⟨b1, off1 + k * 7 + 1, none⟩ = some (.int .i64 x.2.1) := fun n => cell_keep n.h x11 (cell_lt x11)
      have x12c : ∀ n : Cls (fun wx => Below wr.heap.size wr wx), n.w.cell? ⟨b1, off1 + k * 7 + 2, none⟩ = some (.int .i64 x.2.2.1) := fun n => cell_keep n.h x12 (cell_lt x12)
      have x13c : ∀ n : Cls (fun wx => Below wr.heap.size wr wx), n.w.cell? ⟨b1, off1 + k * 7 + 3, none⟩ = some (.int .i64 x.2.2.2.1) := fun n => cell_keep n.h x13 (cell_lt x13)
      have x14c : ∀ n : Cls (fun wx => Below wr.heap.size wr wx), n.w.cell? ⟨b1, off1 + k * 7 + 4, none⟩ = some (.int .i64 x.2.2.2.2.1) := fun n => cell_keep n.h x14 (cell_lt x14)
      have x15c : ∀ n : Cls (fun wx => Below wr.heap.size wr wx), n.w.cell? ⟨b1, off1 + k * 7 + 5, none⟩ = some (.slice ad1 x.2.2.2.2.2.1.length cpw1) := fun n => cell_keep n.h x15 (cell_lt x15)
      have x16c : ∀ n : Cls (fun wx => Below wr.heap.size wr wx), n.w.cell? ⟨b1, off1 + k * 7 + 6, none⟩ = some (.int .i64 x.2.2.2.2.2.2) := fun n => cell_keep n.h x16 (cell_lt x16)
      have x20c : ∀ n : Cls (fun wx => Below wr.heap.size wr wx), n.w.cell? ⟨b2, off2 + k * 7, none⟩ = some (.int .i64 x.1) := fun n => cell_keep n.h x20 (cell_lt x20)
      have x21c : ∀ n : Cls (fun wx => Below wr.heap.size wr wx), n.w.cell? ⟨b2, off2 + k * 7 + 1, none⟩ = some (.int .i64 x.2.1) := fun n => cell_keep n.h x21 (cell_lt x21)
      have x22c : ∀ n : Cls (fun wx => Below wr.heap.size wr wx), n.w.cell? ⟨b2, off2 + k * 7 + 2, none⟩ = some (.int .i64 x.2.2.1) := fun n => cell_keep n.h x22 (cell_lt x22)
      have x23c : ∀ n : Cls (fun wx => Below wr.heap.size wr wx), n.w.cell? ⟨b2, off2 + k * 7 + 3, none⟩ = some (.int .i64 x.2.2.2.1) := fun n => cell_keep n.h x23 (cell_lt x23)
      have x24c : ∀ n : Cls (fun wx => Below wr.heap.size wr wx), n.w.cell? ⟨b2, off2 + k * 7 + 4, none⟩ = some (.int .i64 x.2.2.2.2.1) := fun n => cell_keep n.h x24 (cell_lt x24)
      have x25c : ∀ n : Cls (fun wx => Below wr.heap.size wr wx), n.w.cell? ⟨b2, off2 + k * 7 + 5, none⟩ = some (.slice ad2 x.2.2.2.2.2.1.length cpw2) := fun n => cell_keep n.h x25 (cell_lt x25)
      have x26c : ∀ n : Cls (fun wx => Below wr.heap.size wr wx), n.w.cell? ⟨b2, off2 + k * 7 + 6, none⟩ = some (.int .i64 x.2.2.2.2.2.2) := fun n => cell_keep n.h x26 (cell_lt x26)
      clear hx x10 x11 x12 x13 x14 x15 x16 x20 x21 x22 x23 x24 x25 x26
      go_wp2_with fail
      refine region_class (fun wx => Below wr.heap.size wr wx) (by kernel_rfl) (by kernel_rfl) ((Below.refl _ wr).drew) ?_
      intro hne
      repeat (quiet_step ((go_at_call 37; exact calls_class (eqMsg_rep x.1 x.2.1 x.2.2.1 x.2.2.2.1 x.2.2.2.2.1 x.2.2.2.2.2.2 x.2.2.2.2.2.1 _ _ _ _ _ (HR1.out _) (HR2.out _) (by have := HX.out; rw [bk_msg] at this; exact this)) (fun w' hc bb => below_step hc bb))))
      refine wpQuiet_nil ?_
      intro wx b2
      replace BB := below_step BB b2
      clear b2 hne x10c x11c x12c x13c x14c x15c x16c x20c x21c x22c x23c x24c x25c x26c
      go_wp2
      go_roundw
      case rel => exact ⟨k + 1, by omega, by go_num, BB⟩
      case measure => simp [intOf]; omega
    · go_wp2
      go_ret
      exact ⟨rfl, BB⟩
end Go.Proofs.YthbclkpmgcfdnaaGreatDoor
/- When a letter is right, of the program and of its specification. No condition but a list that reads as told. -/
namespace Go.Proofs.YthbclkpmgcfdnaaGreatDoor
open Go.ChangeShapes Go.WideShapes Go.ChangeAt Go.RowKit
set_option linter.unusedVariables false
def endsB (r f t : Int) : Bool := betw r 0 2 && (betw f 0 5 && betw t 0 5)
def dataB (d : List Int) : Bool := d.isEmpty || isL d
def msgB (u : MsgD) : Bool := endsB u.1 u.2.1 u.2.2.1 && (betw u.2.2.2.1 1 15 && (betw u.2.2.2.2.1 0 15 && (dataB u.2.2.2.2.2.1 && betw u.2.2.2.2.2.2 0 15)))
theorem mb {r f t k l g : Int} {d : List Int} : msgB (r, f, t, k, l, d, g) = (endsB r f t && (betw k 1 15 && (betw l 0 15 && (dataB d && betw g 0 15)))) := rfl
end Go.Proofs.YthbclkpmgcfdnaaGreatDoor
/- The contracts of the laws' own helpers over Msgs: marks, and whether they are held. Conditions: lengths that a machine can hold. -/
namespace Go.Proofs.YthbclkpmgcfdnaaGreatDoor
open Go.ChangeShapes Go.WideShapes Go.ChangeAt Go.RowKit
set_option linter.unusedVariables false
theorem in64_msg {k : Int} (h0 : 0 ≤ k) (h1 : k ≤ 1152921504606846976) : In64 k := by constructor <;> omega
theorem cnt_msg (x : MsgD) : msgM.cE x = (1 + (1 + (1 + (1 + (1 + (slcnt intM x.2.2.2.2.2.1 + 1)))))) := rfl
theorem cnt_msgs (xs : List MsgD) : xs.length ≤ slcnt msgM xs := by
  induction xs with
  | nil => exact Nat.zero_le _
  | cons x xs ih =>
    simp only [slcnt, List.map_cons, List.sum_cons, List.length_cons] at ih ⊢
    have := cnt_msg x
    omega

set_option maxHeartbeats 400000 in
theorem markMsgS_nil (k : Int) (w : World) :
    Calls Tryz.prog 32 #[.slice none 0 0, .int .i64 k] w fun e' w' => e' = .returned (.int .i64 k) ∧ w' = w := by
  go_enter Tryz.func32, Tryz.ntmps32
  go_wp2
  refine wp_loop_rounds 1 ?_
  rw [rounds_succ]
  go_wp2
  go_ret
  exact ⟨rfl, rfl⟩
set_option maxHeartbeats 4000000 in
theorem markMsgS_rep (S : Foot) (v : Value) (k : Int) (xs : List MsgD) (w : World) (h0 : 0 ≤ k) (h1 : k ≤ 288230376151711744) (hm : slcnt msgM xs ≤ 288230376151711744) (h : msgsR.own w S [v] xs) :
    Calls Tryz.prog 32 #[v, .int .i64 k] w fun e' w' => e' = .returned (.int .i64 (k + slcnt msgM xs)) ∧ msgsR.own w' S [v] (slmark msgM k xs) ∧ Chg S w w' := by
  have hln := cnt_msgs xs
  rcases slown_form h with ⟨rfl, rfl⟩ | ⟨G, cap, rfl, hG⟩
  · exact (markMsgS_nil k w).mono fun e w' ⟨e1, e2⟩ => ⟨by simpa [slcnt] using e1, by rw [e2]; exact h, by rw [e2]; exact Chg.refl _ _⟩
  go_enter Tryz.func32, Tryz.ntmps32
  go_wp2
  go_loopw [1, 5] (fun q i wr => ∃ j : Nat, j ≤ xs.length ∧ i = .int .i64 j ∧ q = .int .i64 (k + slcnt msgM (xs.take j)) ∧ msgsR.own wr S [.slice (some ⟨G, 0, none⟩) xs.length cap] (pmark msgM k xs j) ∧ Chg S w wr)
    (fun _ i _ => xs.length - (intOf i).toNat)
  case atStart => exact ⟨0, Nat.zero_le _, rfl, by simp [slcnt], by rw [pmark_zero]; exact h, Chg.refl _ _⟩
  case round =>
    obtain ⟨j, hj, rfl, rfl, ho, hs⟩ := hrel
    by_cases hlt : j < xs.length
    · have hlt' : (j : Int) < (xs.length : Int) := by omega
      obtain ⟨x, hx⟩ : ∃ x, xs[j]? = some x := ⟨_, List.getElem?_eq_getElem hlt⟩
      have HT : Hid (slcnt msgM (xs.take (j + 1)) = slcnt msgM (xs.take j) + (1 + (1 + (1 + (1 + (1 + (slcnt intM x.2.2.2.2.2.1 + 1))))))) := slcnt_step (M := msgM) hx
      have hT : slcnt msgM (xs.take j) + (1 + (1 + (1 + (1 + (1 + (slcnt intM x.2.2.2.2.2.1 + 1)))))) ≤ slcnt msgM xs := slcnt_get (M := msgM) hx
      have HPS : Hid _ := pmark_step (M := msgM) (k := k) hx
      obtain ⟨g, cap', cur, Sj, T, c, hv, hSg, hblk, hcur, hcl, hown, s1, s2, s3, s4, s5, close⟩ := slown_focus ho (pmark_at hx)
      simp only [Value.slice.injEq, Option.some.injEq, Addr.mk.injEq, and_true] at hv
      obtain ⟨rfl, hvx⟩ := hv
      obtain ⟨vd, rfl, -, -, -, -, -, -, hod⟩ := msg_own hown
      obtain ⟨av, cv, rfl⟩ := slown_val hod
      have q0 : wr.cell? ⟨G, j * 7, none⟩ = some (.int .i64 x.1) := by rw [cell_of_row wr G _ cur _ (0, 0) hblk]; exact hcur 0 (by decide)
      have q1 : wr.cell? ⟨G, j * 7 + 1, none⟩ = some (.int .i64 x.2.1) := by rw [cell_of_row wr G _ cur _ (0, 0) hblk]; exact hcur 1 (by decide)
      have q2 : wr.cell? ⟨G, j * 7 + 2, none⟩ = some (.int .i64 x.2.2.1) := by rw [cell_of_row wr G _ cur _ (0, 0) hblk]; exact hcur 2 (by decide)
      have q3 : wr.cell? ⟨G, j * 7 + 3, none⟩ = some (.int .i64 x.2.2.2.1) := by rw [cell_of_row wr G _ cur _ (0, 0) hblk]; exact hcur 3 (by decide)
      have q4 : wr.cell? ⟨G, j * 7 + 4, none⟩ = some (.int .i64 x.2.2.2.2.1) := by rw [cell_of_row wr G _ cur _ (0, 0) hblk]; exact hcur 4 (by decide)
      have q5 : wr.cell? ⟨G, j * 7 + 5, none⟩ = some (.slice av x.2.2.2.2.2.1.length cv) := by rw [cell_of_row wr G _ cur _ (0, 0) hblk]; exact hcur 5 (by decide)
      have q6 : wr.cell? ⟨G, j * 7 + 6, none⟩ = some (.int .i64 x.2.2.2.2.2.2) := by rw [cell_of_row wr G _ cur _ (0, 0) hblk]; exact hcur 6 (by decide)
      have r0 : wr.frozen? ⟨G, j * 7, none⟩ = false := frozen_of_row wr G _ _ _ hblk
      have r1 : wr.frozen? ⟨G, j * 7 + 1, none⟩ = false := frozen_of_row wr G _ _ _ hblk
      have r2 : wr.frozen? ⟨G, j * 7 + 2, none⟩ = false := frozen_of_row wr G _ _ _ hblk
      have r3 : wr.frozen? ⟨G, j * 7 + 3, none⟩ = false := frozen_of_row wr G _ _ _ hblk
      have r4 : wr.frozen? ⟨G, j * 7 + 4, none⟩ = false := frozen_of_row wr G _ _ _ hblk
      have r6 : wr.frozen? ⟨G, j * 7 + 6, none⟩ = false := frozen_of_row wr G _ _ _ hblk
      have hcs : j * 7 + 6 < cur.size := by
        have := hcur 6 (by decide)
        exact (Array.getElem?_eq_some_iff.1 (this.trans rfl)).1
      clear hvx hcl
      generalize hkk : k + (slcnt msgM (xs.take j) : Int) = kk at HPS ⊢
      have hk0 : 0 ≤ kk ∧ kk ≤ 576460752303423488 := by omega
      have hlg : G < wr.heap.size := (Array.getElem?_eq_some_iff.1 hblk).1
      have y0 := hblk
      have y1 := heap_setCell_same _ G (j * 7) _ _ (.int .i64 (kk)) y0
      have y2 := heap_setCell_same _ G (j * 7 + 1) _ _ (.int .i64 (kk + 1)) y1
      have y3 := heap_setCell_same _ G (j * 7 + 2) _ _ (.int .i64 (kk + 1 + 1)) y2
      have y4 := heap_setCell_same _ G (j * 7 + 3) _ _ (.int .i64 (kk + 1 + 1 + 1)) y3
      have y5 := heap_setCell_same _ G (j * 7 + 4) _ _ (.int .i64 (kk + 1 + 1 + 1 + 1)) y4
      have HX6 : Hid (∀ w' : World, w'.heap[G]? = some (.cells (((((cur.setIfInBounds (j * 7) (.int .i64 (kk))).setIfInBounds (j * 7 + 1) (.int .i64 (kk + 1))).setIfInBounds (j * 7 + 2) (.int .i64 (kk + 1 + 1))).setIfInBounds (j * 7 + 3) (.int .i64 (kk + 1 + 1 + 1))).setIfInBounds (j * 7 + 4) (.int .i64 (kk + 1 + 1 + 1 + 1))) 50 (0, 0)) → ∃ t, w'.cell? ⟨G, j * 7 + 6, none⟩ = some t) := fun w' hb => ⟨.int .i64 x.2.2.2.2.2.2, by
        rw [cell_of_row w' G _ _ _ (0, 0) hb, Array.getElem?_setIfInBounds_ne (by omega), Array.getElem?_setIfInBounds_ne (by omega), Array.getElem?_setIfInBounds_ne (by omega), Array.getElem?_setIfInBounds_ne (by omega), Array.getElem?_setIfInBounds_ne (by omega)]
        exact hcur 6 (by decide)⟩
      have HB : Hid (∀ w', Chg Sj (((((wr.setCell ⟨G, j * 7, none⟩ (.int .i64 (kk))).setCell ⟨G, j * 7 + 1, none⟩ (.int .i64 (kk + 1))).setCell ⟨G, j * 7 + 2, none⟩ (.int .i64 (kk + 1 + 1))).setCell ⟨G, j * 7 + 3, none⟩ (.int .i64 (kk + 1 + 1 + 1))).setCell ⟨G, j * 7 + 4, none⟩ (.int .i64 (kk + 1 + 1 + 1 + 1))) w' → w'.heap[G]? = some (.cells (((((cur.setIfInBounds (j * 7) (.int .i64 (kk))).setIfInBounds (j * 7 + 1) (.int .i64 (kk + 1))).setIfInBounds (j * 7 + 2) (.int .i64 (kk + 1 + 1))).setIfInBounds (j * 7 + 3) (.int .i64 (kk + 1 + 1 + 1))).setIfInBounds (j * 7 + 4) (.int .i64 (kk + 1 + 1 + 1 + 1))) 50 (0, 0))) := fun w' hc => (hc.block G (by simpa using hlg) s4).trans y5
      have HC : Hid (∀ w', Chg Sj (((((wr.setCell ⟨G, j * 7, none⟩ (.int .i64 (kk))).setCell ⟨G, j * 7 + 1, none⟩ (.int .i64 (kk + 1))).setCell ⟨G, j * 7 + 2, none⟩ (.int .i64 (kk + 1 + 1))).setCell ⟨G, j * 7 + 3, none⟩ (.int .i64 (kk + 1 + 1 + 1))).setCell ⟨G, j * 7 + 4, none⟩ (.int .i64 (kk + 1 + 1 + 1 + 1))) w' → intsR.own w' Sj [.slice av x.2.2.2.2.2.1.length cv] (slmark intM (kk + 1 + 1 + 1 + 1 + 1) x.2.2.2.2.2.1) → msgsR.own (w'.setCell ⟨G, j * 7 + 6, none⟩ (.int .i64 (kk + 1 + 1 + 1 + 1 + 1 + (slcnt intM x.2.2.2.2.2.1 : Int)))) S [.slice (some ⟨G, 0, none⟩) xs.length cap] (pmark msgM k xs (j + 1)) ∧ Chg S wr (w'.setCell ⟨G, j * 7 + 6, none⟩ (.int .i64 (kk + 1 + 1 + 1 + 1 + 1 + (slcnt intM x.2.2.2.2.2.1 : Int))))) := by
        intro w' hc ho'
        have z0 := HB.out w' hc
        have z1 := heap_setCell_same _ G (j * 7 + 6) _ _ (.int .i64 (kk + 1 + 1 + 1 + 1 + 1 + (slcnt intM x.2.2.2.2.2.1 : Int))) z0
        have c1 : Chg S wr (((((wr.setCell ⟨G, j * 7, none⟩ (.int .i64 (kk))).setCell ⟨G, j * 7 + 1, none⟩ (.int .i64 (kk + 1))).setCell ⟨G, j * 7 + 2, none⟩ (.int .i64 (kk + 1 + 1))).setCell ⟨G, j * 7 + 3, none⟩ (.int .i64 (kk + 1 + 1 + 1))).setCell ⟨G, j * 7 + 4, none⟩ (.int .i64 (kk + 1 + 1 + 1 + 1))) := ⟨rfl, rfl, rfl, by simp, fun i hi hn => by
          have hne : i ≠ G := fun e => hn (by rw [e]; exact hSg)
          rw [heap_setCell_other _ ⟨G, j * 7 + 4, none⟩ i _ hne, heap_setCell_other _ ⟨G, j * 7 + 3, none⟩ i _ hne, heap_setCell_other _ ⟨G, j * 7 + 2, none⟩ i _ hne, heap_setCell_other _ ⟨G, j * 7 + 1, none⟩ i _ hne, heap_setCell_other _ ⟨G, j * 7, none⟩ i _ hne]⟩
        have c2 := c1.trans (hc.mono s1)
        have c3 : Chg S w' (w'.setCell ⟨G, j * 7 + 6, none⟩ (.int .i64 (kk + 1 + 1 + 1 + 1 + 1 + (slcnt intM x.2.2.2.2.2.1 : Int)))) := ⟨rfl, rfl, rfl, by simp, fun i hi hn => by
          have hne : i ≠ G := fun e => hn (by rw [e]; exact hSg)
          rw [heap_setCell_other _ ⟨G, j * 7 + 6, none⟩ i _ hne]⟩
        refine ⟨?_, c2.trans c3⟩
        rw [← HPS.out]
        have ho2 : intsR.own (w'.setCell ⟨G, j * 7 + 6, none⟩ (.int .i64 (kk + 1 + 1 + 1 + 1 + 1 + (slcnt intM x.2.2.2.2.2.1 : Int)))) Sj [.slice av x.2.2.2.2.2.1.length cv] (slmark intM (kk + 1 + 1 + 1 + 1 + 1) x.2.2.2.2.2.1) := own_setC (ho') s4
        refine close (w'.setCell ⟨G, j * 7 + 6, none⟩ (.int .i64 (kk + 1 + 1 + 1 + 1 + 1 + (slcnt intM x.2.2.2.2.2.1 : Int)))) _ [.int .i64 (kk), .int .i64 (kk + 1), .int .i64 (kk + 1 + 1), .int .i64 (kk + 1 + 1 + 1), .int .i64 (kk + 1 + 1 + 1 + 1), .slice av x.2.2.2.2.2.1.length cv, .int .i64 (kk + 1 + 1 + 1 + 1 + 1 + (slcnt intM x.2.2.2.2.2.1 : Int))] _ Sj S z1 (by simp) ?_ ?_ ?_ (own_msg (in64_msg (by omega) (by omega)) (in64_msg (by omega) (by omega)) (in64_msg (by omega) (by omega)) (in64_msg (by omega) (by omega)) (in64_msg (by omega) (by omega)) (in64_msg (by omega) (by omega)) ho2) s3 s4 hSg s1 s2
        · intro i hi
          rw [show msgR.size = 7 from rfl] at hi
          rw [Array.getElem?_setIfInBounds_ne (by omega), Array.getElem?_setIfInBounds_ne (by omega), Array.getElem?_setIfInBounds_ne (by omega), Array.getElem?_setIfInBounds_ne (by omega), Array.getElem?_setIfInBounds_ne (by omega), Array.getElem?_setIfInBounds_ne (by omega)]
        · intro i hi
          rw [show msgR.size = 7 from rfl] at hi
          rw [show j * msgR.size = j * 7 from rfl]
          have h3 : i = 0 ∨ i = 1 ∨ i = 2 ∨ i = 3 ∨ i = 4 ∨ i = 5 ∨ i = 6 := by omega
          rcases h3 with rfl | rfl | rfl | rfl | rfl | rfl | rfl
          · rw [Array.getElem?_setIfInBounds_ne (by omega), Array.getElem?_setIfInBounds_ne (by omega), Array.getElem?_setIfInBounds_ne (by omega), Array.getElem?_setIfInBounds_ne (by omega), Array.getElem?_setIfInBounds_ne (by omega)]
            rw [Nat.add_zero]
            rw [Array.getElem?_setIfInBounds_self_of_lt (by first | omega | (simp; omega))]
            rfl
          · rw [Array.getElem?_setIfInBounds_ne (by omega), Array.getElem?_setIfInBounds_ne (by omega), Array.getElem?_setIfInBounds_ne (by omega), Array.getElem?_setIfInBounds_ne (by omega)]
            skip
            rw [Array.getElem?_setIfInBounds_self_of_lt (by first | omega | (simp; omega))]
            rfl
          · rw [Array.getElem?_setIfInBounds_ne (by omega), Array.getElem?_setIfInBounds_ne (by omega), Array.getElem?_setIfInBounds_ne (by omega)]
            skip
            rw [Array.getElem?_setIfInBounds_self_of_lt (by first | omega | (simp; omega))]
            rfl
          · rw [Array.getElem?_setIfInBounds_ne (by omega), Array.getElem?_setIfInBounds_ne (by omega)]
            skip
            rw [Array.getElem?_setIfInBounds_self_of_lt (by first | omega | (simp; omega))]
            rfl
          · rw [Array.getElem?_setIfInBounds_ne (by omega)]
            skip
            rw [Array.getElem?_setIfInBounds_self_of_lt (by first | omega | (simp; omega))]
            rfl
          · rw [Array.getElem?_setIfInBounds_ne (by omega), Array.getElem?_setIfInBounds_ne (by omega), Array.getElem?_setIfInBounds_ne (by omega), Array.getElem?_setIfInBounds_ne (by omega), Array.getElem?_setIfInBounds_ne (by omega), Array.getElem?_setIfInBounds_ne (by omega)]
            exact hcur 5 (by decide)
          · skip
            skip
            rw [Array.getElem?_setIfInBounds_self_of_lt (by first | omega | (simp; omega))]
            rfl
        · intro i hi hil
          have hne : i ≠ G := fun e => s5 (by rw [← e]; exact hi)
          rw [heap_setCell_other _ ⟨G, j * 7 + 6, none⟩ i _ hne, hc.block i (by simpa using hil) (fun hx => s3 i hx hi), heap_setCell_other _ ⟨G, j * 7 + 4, none⟩ i _ hne, heap_setCell_other _ ⟨G, j * 7 + 3, none⟩ i _ hne, heap_setCell_other _ ⟨G, j * 7 + 2, none⟩ i _ hne, heap_setCell_other _ ⟨G, j * 7 + 1, none⟩ i _ hne, heap_setCell_other _ ⟨G, j * 7, none⟩ i _ hne]
      have HO : Hid (intsR.own (((((wr.setCell ⟨G, j * 7, none⟩ (.int .i64 (kk))).setCell ⟨G, j * 7 + 1, none⟩ (.int .i64 (kk + 1))).setCell ⟨G, j * 7 + 2, none⟩ (.int .i64 (kk + 1 + 1))).setCell ⟨G, j * 7 + 3, none⟩ (.int .i64 (kk + 1 + 1 + 1))).setCell ⟨G, j * 7 + 4, none⟩ (.int .i64 (kk + 1 + 1 + 1 + 1))) Sj [.slice av x.2.2.2.2.2.1.length cv] x.2.2.2.2.2.1) := own_setC (own_setC (own_setC (own_setC (own_setC (hod) s4) s4) s4) s4) s4
      clear hx ho hown close hcur hblk s1 s2 s3 s4 s5 HPS h hod hcs hlg y0 y1 y2 y3 y4 y5
      generalize slcnt msgM (xs.take j) = TT at HT hT hkk
      go_wp2_with fail
      refine (markInt64S_rep Sj _ _ x.2.2.2.2.2.1 _ (by omega) (by omega) (by omega) HO.out).mono ?_
      rintro e w' ⟨rfl, own2, gr⟩
      have b9 := HB.out w' gr
      obtain ⟨ho2, gr2⟩ := HC.out w' gr own2
      have hs2 := hs.trans gr2
      have HF : Hid _ := And.intro ho2 hs2
      clear own2 gr gr2 HC HO ho2 hs2 HB q0 q1 q2 q3 q4 q5 q6 r0 r1 r2 r3 r4 r6
      obtain ⟨t6, ht6⟩ : ∃ t, w'.cell? ⟨G, j * 7 + 6, none⟩ = some t := HX6.out w' b9
      have r6 : w'.frozen? ⟨G, j * 7 + 6, none⟩ = false := frozen_of_row w' G _ _ _ b9
      clear b9
      go_wp2
      go_roundw
      case rel => exact ⟨j + 1, by omega, by go_num, by rw [HT.out]; congr 1; omega, HF.out.1, HF.out.2⟩
      case measure => simp [intOf]; omega
    · have hjn : j = xs.length := by omega
      subst hjn
      rw [List.take_length]
      rw [pmark_all] at ho
      go_wp2
      go_ret
      exact ⟨rfl, ho, hs⟩

set_option maxHeartbeats 2000000 in
theorem heldMsgS_rep (a : Option Addr) (cap : Nat) (k : Int) (xs : List MsgD) (w : World) (h0 : 0 ≤ k) (h1 : k ≤ 288230376151711744) (hm : slcnt msgM xs ≤ 288230376151711744) (h : SlRd msgR w a (slmark msgM k xs)) :
    Calls Tryz.prog 34 #[.slice a xs.length cap, .int .i64 k] w fun e' w' => e' = .returned (.int .i64 (k + slcnt msgM xs)) ∧ w' = w := by
  have hln := cnt_msgs xs
  go_enter Tryz.func34, Tryz.ntmps34
  go_wp2
  go_loop [1, 5] (fun q i => ∃ j : Nat, j ≤ xs.length ∧ i = .int .i64 j ∧ q = .int .i64 (k + slcnt msgM (xs.take j))) (fun _ i => xs.length - (intOf i).toNat)
  case atStart => exact ⟨0, Nat.zero_le _, rfl, by simp [slcnt]⟩
  case round =>
    obtain ⟨j, hj, rfl, rfl⟩ := hrel
    by_cases hlt : j < xs.length
    · have hlt' : (j : Int) < (xs.length : Int) := by omega
      obtain ⟨x, hx⟩ : ∃ x, xs[j]? = some x := ⟨_, List.getElem?_eq_getElem hlt⟩
      obtain ⟨b, off, cs, rfl, hrd, hcell⟩ := slrd_at h (slmark_at (M := msgM) (k := k) hx)
      obtain ⟨ad, cpw, rfl, -, -, -, -, -, -, -, -, hd3⟩ := msg_rd hrd
      have x0 := hcell 0 _ rfl
      rw [show off + (j * msgR.size + 0) = off + j * 7 from rfl] at x0
      have x1 := hcell 1 _ rfl
      rw [show off + (j * msgR.size + 1) = off + j * 7 + 1 from rfl] at x1
      have x2 := hcell 2 _ rfl
      rw [show off + (j * msgR.size + 2) = off + j * 7 + 2 from rfl] at x2
      have x3 := hcell 3 _ rfl
      rw [show off + (j * msgR.size + 3) = off + j * 7 + 3 from rfl] at x3
      have x4 := hcell 4 _ rfl
      rw [show off + (j * msgR.size + 4) = off + j * 7 + 4 from rfl] at x4
      have x5 := hcell 5 _ rfl
      rw [show off + (j * msgR.size + 5) = off + j * 7 + 5 from rfl] at x5
      have x6 := hcell 6 _ rfl
      rw [show off + (j * msgR.size + 6) = off + j * 7 + 6 from rfl] at x6
      have hml : (msgM.mE (k + slcnt msgM (xs.take j)) x).2.2.2.2.2.1.length = x.2.2.2.2.2.1.length := slmark_len _ _ _
      rw [hml] at x5
      have HR : Hid (SlRd intR w ad (slmark intM (k + slcnt msgM (xs.take j) + 1 + 1 + 1 + 1 + 1) x.2.2.2.2.2.1)) := hd3
      have y0 : w.cell? ⟨b, off + j * 7, none⟩ = some (.int .i64 (k + slcnt msgM (xs.take j))) := x0
      have y1 : w.cell? ⟨b, off + j * 7 + 1, none⟩ = some (.int .i64 (k + slcnt msgM (xs.take j) + 1)) := x1
      have y2 : w.cell? ⟨b, off + j * 7 + 2, none⟩ = some (.int .i64 (k + slcnt msgM (xs.take j) + 1 + 1)) := x2
      have y3 : w.cell? ⟨b, off + j * 7 + 3, none⟩ = some (.int .i64 (k + slcnt msgM (xs.take j) + 1 + 1 + 1)) := x3
      have y4 : w.cell? ⟨b, off + j * 7 + 4, none⟩ = some (.int .i64 (k + slcnt msgM (xs.take j) + 1 + 1 + 1 + 1)) := x4
      have y6 : w.cell? ⟨b, off + j * 7 + 6, none⟩ = some (.int .i64 (k + slcnt msgM (xs.take j) + 1 + 1 + 1 + 1 + 1 + (slcnt intM x.2.2.2.2.2.1 : Int))) := x6
      have HT : Hid (slcnt msgM (xs.take (j + 1)) = slcnt msgM (xs.take j) + (1 + (1 + (1 + (1 + (1 + (slcnt intM x.2.2.2.2.2.1 + 1))))))) := slcnt_step (M := msgM) hx
      have hT : slcnt msgM (xs.take j) + (1 + (1 + (1 + (1 + (1 + (slcnt intM x.2.2.2.2.2.1 + 1)))))) ≤ slcnt msgM xs := slcnt_get (M := msgM) hx
      clear hx hrd hcell h hml hd3 x0 x1 x2 x3 x4 x6
      generalize hkk : k + (slcnt msgM (xs.take j) : Int) = kk at HR y0 y1 y2 y3 y4 y6 ⊢
      generalize slcnt msgM (xs.take j) = TT at HT hT hkk
      have hk0 : 0 ≤ kk ∧ kk ≤ 576460752303423488 := by omega
      have hn : ¬ (kk + 1 + 1 + 1 + 1 + 1 + ((slcnt intM x.2.2.2.2.2.1 : Nat) : Int) < 0) := by omega
      go_wp2_with (go_at_call 100; refine (heldInt64S_rep _ _ _ x.2.2.2.2.2.1 _ (by omega) (by omega) (by omega) HR.out).mono ?_; rintro e w' ⟨rfl, rfl⟩)
      go_round
      case rel => exact ⟨j + 1, by omega, by go_num, by rw [HT.out]; congr 1; omega⟩
      case measure => simp [intOf]; omega
    · have hjn : j = xs.length := by omega
      subst hjn
      rw [List.take_length]
      go_wp2
      go_ret
      exact ⟨rfl, rfl⟩

set_option maxHeartbeats 1000000 in
theorem markMsg_rep (S : Foot) (f0 f1 f2 f3 f4 f6 : Int) (v : Value) (k : Int) (d : List Int) (w : World) (h0 : 0 ≤ k) (h1 : k ≤ 288230376151711744) (hm : slcnt intM d ≤ 288230376151711744) (h : intsR.own w S [v] d) :
    Calls Tryz.prog 38 #[.agg #[.int .i64 f0, .int .i64 f1, .int .i64 f2, .int .i64 f3, .int .i64 f4, v, .int .i64 f6], .int .i64 k] w fun e' w' => e' = .returned (.int .i64 (k + slcnt intM d)) ∧ intsR.own w' S [v] (slmark intM k d) ∧ Chg S w w' := by
  obtain ⟨av, cv, rfl⟩ := slown_val h
  have h' := own_box (.cells #[.int .i64 f0, .int .i64 f1, .int .i64 f2, .int .i64 f3, .int .i64 f4, .slice av d.length cv, .int .i64 f6] 50) (own_old h)
  have B0 := box_below w (.cells #[.int .i64 f0, .int .i64 f1, .int .i64 f2, .int .i64 f3, .int .i64 f4, .slice av d.length cv, .int .i64 f6] 50)
  have HC := markInt64S_rep (Old w S) (.slice av d.length cv) k d _ h0 (by omega) (by omega) h'
  have HB : Hid _ := B0
  clear h h' B0
  go_enter Tryz.func38, Tryz.ntmps38
  go_wp2_with fail
  refine HC.mono ?_
  rintro e w' ⟨rfl, o2, c2⟩
  have HX : Hid _ := And.intro o2 c2
  clear o2 c2 HC
  go_wp2
  go_ret
  exact ⟨rfl, intsR.own_mono HX.out.1 old_sub, ((chg_below HB.out).trans HX.out.2).mono old_sub⟩

end Go.Proofs.YthbclkpmgcfdnaaGreatDoor
/- The laws' helpers in the one form: lists of letters. -/
namespace Go.Proofs.YthbclkpmgcfdnaaGreatDoor
open Go.ChangeShapes Go.WideShapes Go.ChangeAt Go.RowKit
set_option linter.unusedVariables false
theorem eqMsgs_u : EqC 30 msgsR msgsM cell1 := by
  rintro cs ds x w ⟨a, cap, rfl, l1, l2, l3⟩ ⟨b, cp, rfl, k1, k2, k3⟩ hm
  exact eqMsgS_rep a b x cap cp w l3 k3 (Nat.le_trans hm (by decide))
theorem mkMsgs_u : MkC 32 msgsR msgsM cell1 := by
  intro S cs x k w h h0 hm hb
  obtain ⟨v, rfl⟩ := own_cell h
  have e : lot = 4398046511104 := rfl
  have e2 : msgsM.cV x = slcnt msgM x := rfl
  exact markMsgS_rep S v k x w h0 (by omega) (by omega) h
theorem hdMsgs_u : HdC 34 msgsR msgsM cell1 := by
  rintro cs x k w ⟨a, cap, rfl, l1, l2, l3⟩ h0 hm hb
  have e : lot = 4398046511104 := rfl
  have e2 : msgsM.cV x = slcnt msgM x := rfl
  have := heldMsgS_rep a cap k x w h0 (by omega) (by omega) l3
  rw [show x.length = (msgsM.mV k x).length from (slmark_len _ _ _).symm] at this
  exact this.mono fun e w' ⟨q, r⟩ => ⟨q, be_eq r⟩
end Go.Proofs.YthbclkpmgcfdnaaGreatDoor
/- The contracts of ops, of the program (a table whose rows hold functions) and of its specification. No condition. -/
namespace Go.Proofs.YthbclkpmgcfdnaaGreatDoor
open Go.ChangeShapes Go.WideShapes Go.ChangeAt Go.RowKit
def opMostA (k : Int) : Int := if k = 1 then 0 else 9999
def opMostB (k : Int) : Int := if k = 5 then 9999 else 0
def opB (k a x y : Int) : Bool := betw k 1 5 && (betw a 0 31 && (betw x 0 (opMostA k) && betw y 0 (opMostB k)))
def opThen (k x y z : Int) : Int := if k = 1 then z else if k = 2 then x else if k = 3 then (z + x) % 10000 else if k = 4 then x else if z = x then y else z
def opTold (k z : Int) : Int := if k = 2 then 0 else z
theorem setRow_last (w : World) (o : Obj) (c c' : Array Value) (t : TypeId) : ((w.alloc o).alloc (.cells c t)).setRow (w.heap.size + 1) c' = (w.alloc o).alloc (.cells c' t) := by
  have := World.setRow_alloc_new (w.alloc o) c c' t
  rwa [show (w.alloc o).heap.size = w.heap.size + 1 by simp] at this
theorem heap_last (w : World) (o o2 : Obj) : ((w.alloc o).alloc o2).heap[w.heap.size + 1]? = some o2 := by
  have := heap_alloc_last (w.alloc o) o2
  rwa [show (w.alloc o).heap.size = w.heap.size + 1 by simp] at this
theorem op_cls {W : World} {g : Nat} {v0 v1 v2 v3 : Value} {t : TypeId} (R : W.heap[g]? = some (.cells #[v0, v1, v2, v3] t (0, 0))) :
    (∀ n : Cls (fun wx => Below W.heap.size W wx), n.w.cell? ⟨g, 0, none⟩ = some v0) ∧ (∀ n : Cls (fun wx => Below W.heap.size W wx), n.w.cell? ⟨g, 1, none⟩ = some v1) ∧
      (∀ n : Cls (fun wx => Below W.heap.size W wx), n.w.cell? ⟨g, 2, none⟩ = some v2) ∧ (∀ n : Cls (fun wx => Below W.heap.size W wx), n.w.cell? ⟨g, 3, none⟩ = some v3) := by
  refine ⟨fun n => ?_, fun n => ?_, fun n => ?_, fun n => ?_⟩
  · rw [cell_of_row n.w g 0 _ t (0, 0) (row_keep n.h R)]; rfl
  · rw [cell_of_row n.w g 1 _ t (0, 0) (row_keep n.h R)]; rfl
  · rw [cell_of_row n.w g 2 _ t (0, 0) (row_keep n.h R)]; rfl
  · rw [cell_of_row n.w g 3 _ t (0, 0) (row_keep n.h R)]; rfl
theorem op_cells {W : World} {g : Nat} {v0 v1 v2 v3 : Value} {t : TypeId} (R : W.heap[g]? = some (.cells #[v0, v1, v2, v3] t (0, 0))) :
    W.cell? ⟨g, 0, none⟩ = some v0 ∧ W.cell? ⟨g, 1, none⟩ = some v1 ∧ W.cell? ⟨g, 2, none⟩ = some v2 ∧ W.cell? ⟨g, 3, none⟩ = some v3 := by
  refine ⟨?_, ?_, ?_, ?_⟩
  · rw [cell_of_row W g 0 _ t (0, 0) R]; rfl
  · rw [cell_of_row W g 1 _ t (0, 0) R]; rfl
  · rw [cell_of_row W g 2 _ t (0, 0) R]; rfl
  · rw [cell_of_row W g 3 _ t (0, 0) R]; rfl
theorem bl_drew {w w' : World} {n : Nat} (h : Below n w w') {k : Nat} : Below n w (w'.drewN k) := ⟨h.os, h.tape, h.output, h.size, h.block⟩
theorem opKind {k : Int} (h : betw k 1 5 = true) : k = 1 ∨ k = 2 ∨ k = 3 ∨ k = 4 ∨ k = 5 := by simp [betw] at h; omega
theorem op_cell {w w1 : World} {cs : Array Value} {t : TypeId} (h : Below (w.alloc (.cells cs t)).heap.size (w.alloc (.cells cs t)) w1) (j : Nat) : w1.cell? ⟨w.heap.size, j, none⟩ = cs[j]? := by
  rw [h.cell (by simp), cell_of_row (w.alloc (.cells cs t)) w.heap.size j cs t (0, 0) (heap_alloc_new w _)]
theorem op_box {w w1 : World} {v0 v1 v2 v3 : Value} {t : TypeId} (h : Below (w.alloc (.cells #[v0, v1, v2, v3] t)).heap.size (w.alloc (.cells #[v0, v1, v2, v3] t)) w1) :
    w1.cell? ⟨w.heap.size, 0, none⟩ = some v0 ∧ w1.cell? ⟨w.heap.size, 1, none⟩ = some v1 ∧ w1.cell? ⟨w.heap.size, 2, none⟩ = some v2 ∧ w1.cell? ⟨w.heap.size, 3, none⟩ = some v3 :=
  ⟨op_cell h 0, op_cell h 1, op_cell h 2, op_cell h 3⟩

set_option maxRecDepth 20000 in
set_option maxHeartbeats 1000000 in
theorem deedOf1 (w : World) :
    Calls Tryz.prog 169 #[.int .i64 1] w fun e w' => e = .returned (.agg #[.int .i64 0, .int .i64 0, .func (.func 195) #[] #[], .func (.func 196) #[] #[]]) ∧ Below w.heap.size w w' := by
  go_enter Tryz.func169, Tryz.ntmps169
  go_upto_region 1 with fail
  iterate 23 go_step
  refine wp_store_row 211 _ _ rfl (w.heap.size + 1) _ (by rfl) (by rfl) 211 _ (heap_last _ _ _) (by kernel_rfl) (by rfl) (by kernel_rfl) ?_
  rw [setRow_last]
  go_wp2
  refine bodyPost_ret (v := .agg #[.int .i64 0, .int .i64 0, .func (.func 195) #[] #[], .func (.func 196) #[] #[]]) (by simp [results, Tryz.results169, go_sem]) rfl ⟨rfl, ?_⟩
  repeat first
    | exact Below.refl _ _
    | refine Below.setCell ?_ (by simp <;> omega) _
    | refine Below.alloc ?_ (by simp <;> omega) _
    | refine Below.drew ?_
set_option maxRecDepth 20000 in
set_option maxHeartbeats 1000000 in
theorem deedOf2 (w : World) :
    Calls Tryz.prog 169 #[.int .i64 2] w fun e w' => e = .returned (.agg #[.int .i64 9999, .int .i64 0, .func (.func 197) #[] #[], .func (.func 198) #[] #[]]) ∧ Below w.heap.size w w' := by
  go_enter Tryz.func169, Tryz.ntmps169
  go_upto_region 1 with fail
  iterate 23 go_step
  refine wp_store_row 211 _ _ rfl (w.heap.size + 1) _ (by rfl) (by rfl) 211 _ (heap_last _ _ _) (by kernel_rfl) (by rfl) (by kernel_rfl) ?_
  rw [setRow_last]
  go_wp2
  refine bodyPost_ret (v := .agg #[.int .i64 9999, .int .i64 0, .func (.func 197) #[] #[], .func (.func 198) #[] #[]]) (by simp [results, Tryz.results169, go_sem]) rfl ⟨rfl, ?_⟩
  repeat first
    | exact Below.refl _ _
    | refine Below.setCell ?_ (by simp <;> omega) _
    | refine Below.alloc ?_ (by simp <;> omega) _
    | refine Below.drew ?_
set_option maxRecDepth 20000 in
set_option maxHeartbeats 1000000 in
theorem deedOf3 (w : World) :
    Calls Tryz.prog 169 #[.int .i64 3] w fun e w' => e = .returned (.agg #[.int .i64 9999, .int .i64 0, .func (.func 199) #[] #[], .func (.func 196) #[] #[]]) ∧ Below w.heap.size w w' := by
  go_enter Tryz.func169, Tryz.ntmps169
  go_upto_region 1 with fail
  iterate 23 go_step
  refine wp_store_row 211 _ _ rfl (w.heap.size + 1) _ (by rfl) (by rfl) 211 _ (heap_last _ _ _) (by kernel_rfl) (by rfl) (by kernel_rfl) ?_
  rw [setRow_last]
  go_wp2
  refine bodyPost_ret (v := .agg #[.int .i64 9999, .int .i64 0, .func (.func 199) #[] #[], .func (.func 196) #[] #[]]) (by simp [results, Tryz.results169, go_sem]) rfl ⟨rfl, ?_⟩
  repeat first
    | exact Below.refl _ _
    | refine Below.setCell ?_ (by simp <;> omega) _
    | refine Below.alloc ?_ (by simp <;> omega) _
    | refine Below.drew ?_
set_option maxRecDepth 20000 in
set_option maxHeartbeats 1000000 in
theorem deedOf4 (w : World) :
    Calls Tryz.prog 169 #[.int .i64 4] w fun e w' => e = .returned (.agg #[.int .i64 9999, .int .i64 0, .func (.func 197) #[] #[], .func (.func 196) #[] #[]]) ∧ Below w.heap.size w w' := by
  go_enter Tryz.func169, Tryz.ntmps169
  go_upto_region 1 with fail
  iterate 23 go_step
  refine wp_store_row 211 _ _ rfl (w.heap.size + 1) _ (by rfl) (by rfl) 211 _ (heap_last _ _ _) (by kernel_rfl) (by rfl) (by kernel_rfl) ?_
  rw [setRow_last]
  go_wp2
  refine bodyPost_ret (v := .agg #[.int .i64 9999, .int .i64 0, .func (.func 197) #[] #[], .func (.func 196) #[] #[]]) (by simp [results, Tryz.results169, go_sem]) rfl ⟨rfl, ?_⟩
  repeat first
    | exact Below.refl _ _
    | refine Below.setCell ?_ (by simp <;> omega) _
    | refine Below.alloc ?_ (by simp <;> omega) _
    | refine Below.drew ?_
set_option maxRecDepth 20000 in
set_option maxHeartbeats 1000000 in
theorem deedOf5 (w : World) :
    Calls Tryz.prog 169 #[.int .i64 5] w fun e w' => e = .returned (.agg #[.int .i64 9999, .int .i64 9999, .func (.func 200) #[] #[], .func (.func 196) #[] #[]]) ∧ Below w.heap.size w w' := by
  go_enter Tryz.func169, Tryz.ntmps169
  go_upto_region 1 with fail
  iterate 23 go_step
  refine wp_store_row 211 _ _ rfl (w.heap.size + 1) _ (by rfl) (by rfl) 211 _ (heap_last _ _ _) (by kernel_rfl) (by rfl) (by kernel_rfl) ?_
  rw [setRow_last]
  go_wp2
  refine bodyPost_ret (v := .agg #[.int .i64 9999, .int .i64 9999, .func (.func 200) #[] #[], .func (.func 196) #[] #[]]) (by simp [results, Tryz.results169, go_sem]) rfl ⟨rfl, ?_⟩
  repeat first
    | exact Below.refl _ _
    | refine Below.setCell ?_ (by simp <;> omega) _
    | refine Below.alloc ?_ (by simp <;> omega) _
    | refine Below.drew ?_
set_option maxHeartbeats 400000 in
theorem stays_any (k a x y z : Int) (w : World) :
    Calls Tryz.prog 195 #[.agg #[.int .i64 k, .int .i64 a, .int .i64 x, .int .i64 y], .int .i64 z] w fun e w' => e = .returned (.int .i64 z) ∧ Below w.heap.size w w' := by
  have B := (Below.refl w.heap.size w).alloc (Nat.le_refl _)
  go_enter Tryz.func195, Tryz.ntmps195
  go_wp2
  go_ret
  exact ⟨rfl, B _⟩
set_option maxHeartbeats 400000 in
theorem becomesA_any (k a x y z : Int) (w : World) :
    Calls Tryz.prog 197 #[.agg #[.int .i64 k, .int .i64 a, .int .i64 x, .int .i64 y], .int .i64 z] w fun e w' => e = .returned (.int .i64 x) ∧ Below w.heap.size w w' := by
  have B := (Below.refl w.heap.size w).alloc (Nat.le_refl _)
  go_enter Tryz.func197, Tryz.ntmps197
  go_wp2
  go_ret
  exact ⟨rfl, B _⟩
set_option maxHeartbeats 400000 in
theorem addsA_any (k a x y z : Int) (w : World) (hx : 0 ≤ x) (hx1 : x ≤ 9999) (hz : 0 ≤ z) (hz1 : z ≤ 9999) :
    Calls Tryz.prog 199 #[.agg #[.int .i64 k, .int .i64 a, .int .i64 x, .int .i64 y], .int .i64 z] w fun e w' => e = .returned (.int .i64 ((z + x) % 10000)) ∧ Below w.heap.size w w' := by
  have B := (Below.refl w.heap.size w).alloc (Nat.le_refl _)
  go_enter Tryz.func199, Tryz.ntmps199
  go_wp2
  go_ret
  exact ⟨ret_int (by first | rfl | (rw [Int.tmod_eq_emod_of_nonneg (by omega)]) | (congr 1; omega)), B _⟩
set_option maxHeartbeats 400000 in
theorem becomesBFromA_any (k a x y z : Int) (w : World) :
    Calls Tryz.prog 200 #[.agg #[.int .i64 k, .int .i64 a, .int .i64 x, .int .i64 y], .int .i64 z] w fun e w' => e = .returned (.int .i64 (if z = x then y else z)) ∧ Below w.heap.size w w' := by
  have B := (Below.refl w.heap.size w).alloc (Nat.le_refl _)
  by_cases h : z = x
  · have H : Hid ((if z = x then y else z) = y) := by unfold Hid; simp [h]
    subst h
    generalize (if z = z then y else z) = q at H ⊢
    go_enter Tryz.func200, Tryz.ntmps200
    go_wp2
    go_ret
    exact ⟨ret_int H.out.symm, B _⟩
  · have H : Hid ((if z = x then y else z) = z) := by unfold Hid; simp [h]
    generalize (if z = x then y else z) = q at H ⊢
    go_enter Tryz.func200, Tryz.ntmps200
    go_wp2
    go_ret
    exact ⟨ret_int H.out.symm, B _⟩
set_option maxHeartbeats 400000 in
theorem whatItWas_any (z : Int) (w : World) :
    Calls Tryz.prog 196 #[.int .i64 z] w fun e w' => e = .returned (.int .i64 z) ∧ w' = w := by
  go_enter Tryz.func196, Tryz.ntmps196
  go_wp2
  go_ret
  exact ⟨rfl, rfl⟩
set_option maxHeartbeats 400000 in
theorem nothing_any (z : Int) (w : World) :
    Calls Tryz.prog 198 #[.int .i64 z] w fun e w' => e = .returned (.int .i64 0) ∧ w' = w := by
  go_enter Tryz.func198, Tryz.ntmps198
  go_wp2
  go_ret
  exact ⟨rfl, rfl⟩
set_option maxHeartbeats 400000 in
theorem fits_any (p q : Int) (f g : Value) (k a x y : Int) (w : World) :
    Calls Tryz.prog 170 #[.agg #[.int .i64 p, .int .i64 q, f, g], .agg #[.int .i64 k, .int .i64 a, .int .i64 x, .int .i64 y]] w fun e w' => e = .returned (.bool (betw x 0 p && betw y 0 q)) ∧ Below w.heap.size w w' := by
  cases h : betw x 0 p
  all_goals
    go_enter Tryz.func170, Tryz.ntmps170
    go_wp2_with (go_at_call 104; refine (between_any _ _ _ _).mono ?_; rintro e w' ⟨rfl, rfl⟩)
    go_ret
    refine ⟨rfl, ?_⟩
    exact (Below.alloc (Below.alloc (Below.refl _ _) (Nat.le_refl _) _) (by simp) _)
set_option maxHeartbeats 1000000 in
theorem implOpOk_any (k a x y : Int) (w : World) :
    Calls Tryz.prog 121 #[.agg #[.int .i64 k, .int .i64 a, .int .i64 x, .int .i64 y]] w fun e w' => e = .returned (.bool (opB k a x y)) ∧ Below w.heap.size w w' := by
  have B := (Below.refl w.heap.size w).alloc (Nat.le_refl _)
  cases h1 : betw k 1 5
  · have H : Hid (opB k a x y = false) := by unfold Hid opB; simp [h1]
    go_enter Tryz.func121, Tryz.ntmps121
    go_wp2
    go_quiet (first | (go_at_call 104; exact Calls.quiet_of_same (between_any _ _ _ _)))
    go_wp2
    go_ret
    exact ⟨ret_bool H.out.symm, bl_drew (B _)⟩
  · cases h2 : betw a 0 31
    · have H : Hid (opB k a x y = false) := by unfold Hid opB; simp [h2]
      go_enter Tryz.func121, Tryz.ntmps121
      go_wp2
      go_quiet (first | (go_at_call 104; exact Calls.quiet_of_same (between_any _ _ _ _)))
      go_wp2
      go_ret
      exact ⟨ret_bool H.out.symm, bl_drew (B _)⟩
    · rcases opKind h1 with rfl | rfl | rfl | rfl | rfl
      · have H : Hid (opB 1 a x y = (betw x 0 0 && betw y 0 0)) := by unfold Hid opB; rw [h1, h2]; rfl
        have R := heap_alloc_new w (.cells #[.int .i64 1, .int .i64 a, .int .i64 x, .int .i64 y] 54)
        replace B := B (.cells #[.int .i64 1, .int .i64 a, .int .i64 x, .int .i64 y] 54)
        go_enter Tryz.func121, Tryz.ntmps121
        go_wp2
        generalize w.alloc (.cells #[.int .i64 1, .int .i64 a, .int .i64 x, .int .i64 y] 54) = W at R B ⊢
        obtain ⟨n0, n1, n2, n3⟩ := op_cls R
        clear R
        refine region_class (fun wx => Below W.heap.size W wx) (by kernel_rfl) (by kernel_rfl) ((Below.refl _ W).drew) ?_
        intro hne
        repeat (quiet_step (first
          | (go_at_call 104; exact calls_class_same (between_any _ _ _ _))
          | (go_at_call 169; exact calls_class (deedOf1 _) (fun w' hc bb => below_step hc bb))
          | (go_at_call 170; exact calls_class (fits_any _ _ _ _ _ _ _ _ _) (fun w' hc bb => below_step hc bb))))
        refine wpQuiet_nil ?_
        intro wx b2
        clear n0 n1 n2 n3 hne
        go_wp2
        go_ret
        exact ⟨ret_bool H.out.symm, below_step B b2⟩
      · have H : Hid (opB 2 a x y = (betw x 0 9999 && betw y 0 0)) := by unfold Hid opB; rw [h1, h2]; rfl
        have R := heap_alloc_new w (.cells #[.int .i64 2, .int .i64 a, .int .i64 x, .int .i64 y] 54)
        replace B := B (.cells #[.int .i64 2, .int .i64 a, .int .i64 x, .int .i64 y] 54)
        go_enter Tryz.func121, Tryz.ntmps121
        go_wp2
        generalize w.alloc (.cells #[.int .i64 2, .int .i64 a, .int .i64 x, .int .i64 y] 54) = W at R B ⊢
        obtain ⟨n0, n1, n2, n3⟩ := op_cls R
        clear R
        refine region_class (fun wx => Below W.heap.size W wx) (by kernel_rfl) (by kernel_rfl) ((Below.refl _ W).drew) ?_
        intro hne
        repeat (quiet_step (first
          | (go_at_call 104; exact calls_class_same (between_any _ _ _ _))
          | (go_at_call 169; exact calls_class (deedOf2 _) (fun w' hc bb => below_step hc bb))
          | (go_at_call 170; exact calls_class (fits_any _ _ _ _ _ _ _ _ _) (fun w' hc bb => below_step hc bb))))
        refine wpQuiet_nil ?_
        intro wx b2
        clear n0 n1 n2 n3 hne
        go_wp2
        go_ret
        exact ⟨ret_bool H.out.symm, below_step B b2⟩
      · have H : Hid (opB 3 a x y = (betw x 0 9999 && betw y 0 0)) := by unfold Hid opB; rw [h1, h2]; rfl
        have R := heap_alloc_new w (.cells #[.int .i64 3, .int .i64 a, .int .i64 x, .int .i64 y] 54)
        replace B := B (.cells #[.int .i64 3, .int .i64 a, .int .i64 x, .int .i64 y] 54)
        go_enter Tryz.func121, Tryz.ntmps121
        go_wp2
        generalize w.alloc (.cells #[.int .i64 3, .int .i64 a, .int .i64 x, .int .i64 y] 54) = W at R B ⊢
        obtain ⟨n0, n1, n2, n3⟩ := op_cls R
        clear R
        refine region_class (fun wx => Below W.heap.size W wx) (by kernel_rfl) (by kernel_rfl) ((Below.refl _ W).drew) ?_
        intro hne
        repeat (quiet_step (first
          | (go_at_call 104; exact calls_class_same (between_any _ _ _ _))
          | (go_at_call 169; exact calls_class (deedOf3 _) (fun w' hc bb => below_step hc bb))
          | (go_at_call 170; exact calls_class (fits_any _ _ _ _ _ _ _ _ _) (fun w' hc bb => below_step hc bb))))
        refine wpQuiet_nil ?_
        intro wx b2
        clear n0 n1 n2 n3 hne
        go_wp2
        go_ret
        exact ⟨ret_bool H.out.symm, below_step B b2⟩
      · have H : Hid (opB 4 a x y = (betw x 0 9999 && betw y 0 0)) := by unfold Hid opB; rw [h1, h2]; rfl
        have R := heap_alloc_new w (.cells #[.int .i64 4, .int .i64 a, .int .i64 x, .int .i64 y] 54)
        replace B := B (.cells #[.int .i64 4, .int .i64 a, .int .i64 x, .int .i64 y] 54)
        go_enter Tryz.func121, Tryz.ntmps121
        go_wp2
        generalize w.alloc (.cells #[.int .i64 4, .int .i64 a, .int .i64 x, .int .i64 y] 54) = W at R B ⊢
        obtain ⟨n0, n1, n2, n3⟩ := op_cls R
        clear R
        refine region_class (fun wx => Below W.heap.size W wx) (by kernel_rfl) (by kernel_rfl) ((Below.refl _ W).drew) ?_
        intro hne
        repeat (quiet_step (first
          | (go_at_call 104; exact calls_class_same (between_any _ _ _ _))
          | (go_at_call 169; exact calls_class (deedOf4 _) (fun w' hc bb => below_step hc bb))
          | (go_at_call 170; exact calls_class (fits_any _ _ _ _ _ _ _ _ _) (fun w' hc bb => below_step hc bb))))
        refine wpQuiet_nil ?_
        intro wx b2
        clear n0 n1 n2 n3 hne
        go_wp2
        go_ret
        exact ⟨ret_bool H.out.symm, below_step B b2⟩
      · have H : Hid (opB 5 a x y = (betw x 0 9999 && betw y 0 9999)) := by unfold Hid opB; rw [h1, h2]; rfl
        have R := heap_alloc_new w (.cells #[.int .i64 5, .int .i64 a, .int .i64 x, .int .i64 y] 54)
        replace B := B (.cells #[.int .i64 5, .int .i64 a, .int .i64 x, .int .i64 y] 54)
        go_enter Tryz.func121, Tryz.ntmps121
        go_wp2
        generalize w.alloc (.cells #[.int .i64 5, .int .i64 a, .int .i64 x, .int .i64 y] 54) = W at R B ⊢
        obtain ⟨n0, n1, n2, n3⟩ := op_cls R
        clear R
        refine region_class (fun wx => Below W.heap.size W wx) (by kernel_rfl) (by kernel_rfl) ((Below.refl _ W).drew) ?_
        intro hne
        repeat (quiet_step (first
          | (go_at_call 104; exact calls_class_same (between_any _ _ _ _))
          | (go_at_call 169; exact calls_class (deedOf5 _) (fun w' hc bb => below_step hc bb))
          | (go_at_call 170; exact calls_class (fits_any _ _ _ _ _ _ _ _ _) (fun w' hc bb => below_step hc bb))))
        refine wpQuiet_nil ?_
        intro wx b2
        clear n0 n1 n2 n3 hne
        go_wp2
        go_ret
        exact ⟨ret_bool H.out.symm, below_step B b2⟩
set_option maxHeartbeats 400000 in
theorem implWrites_any (k a x y : Int) (w : World) :
    Calls Tryz.prog 112 #[.agg #[.int .i64 k, .int .i64 a, .int .i64 x, .int .i64 y]] w fun e w' => e = .returned (.bool (opB k a x y && k != 1)) ∧ Below w.heap.size w w' := by
  have B := (Below.refl w.heap.size w).alloc (Nat.le_refl _)
  cases h : opB k a x y
  all_goals
    go_enter Tryz.func112, Tryz.ntmps112
    go_wp2_with (go_at_call 121; refine (implOpOk_any _ _ _ _ _).mono ?_; rintro e w1 ⟨rfl, b1⟩; obtain ⟨c0, c1, c2, c3⟩ := op_box b1)
    go_ret
    exact ⟨rfl, below_step (B _) b1⟩

set_option maxHeartbeats 1000000 in
theorem specOpOk_any (k a x y : Int) (w : World) :
    Calls Tryz.prog 64 #[.agg #[.int .i64 k, .int .i64 a, .int .i64 x, .int .i64 y]] w fun e w' => e = .returned (.bool (opB k a x y)) ∧ Below w.heap.size w w' := by
  have B := (Below.refl w.heap.size w).alloc (Nat.le_refl _)
  cases h1 : betw k 1 5 <;> cases h2 : betw a 0 31 <;> cases h3 : okW x <;> cases h4 : okW y
  case true.true.true.true =>
    rcases opKind h1 with rfl | rfl | rfl | rfl | rfl
    · have H : Hid (opB 1 a x y = (x == 0 && y == 0)) := by
        unfold Hid opB opMostA opMostB
        unfold okW betw at h3 h4
        rw [h1, h2]
        unfold betw
        rw [Bool.eq_iff_iff]
        simp at h3 h4 ⊢
        omega
      by_cases hx : x = 0 <;> by_cases hy : y = 0
      all_goals
        go_enter Tryz.func64, Tryz.ntmps64
        go_wp2_with (first
          | (go_at_call 54; refine (l1In_any _ _ _ _).mono ?_; rintro e w' ⟨rfl, rfl⟩)
          | (go_at_call 135; refine (l3Word_any _ _).mono ?_; rintro e w' ⟨rfl, rfl⟩))
        go_ret
        exact ⟨ret_bool (H.out.trans (by simp [hx, hy])).symm, B _⟩
    · have H : Hid (opB 2 a x y = (y == 0)) := by
        unfold Hid opB opMostA opMostB
        unfold okW betw at h3 h4
        rw [h1, h2]
        unfold betw
        rw [Bool.eq_iff_iff]
        simp at h3 h4 ⊢
        omega
      by_cases hy : y = 0
      all_goals
        go_enter Tryz.func64, Tryz.ntmps64
        go_wp2_with (first
          | (go_at_call 54; refine (l1In_any _ _ _ _).mono ?_; rintro e w' ⟨rfl, rfl⟩)
          | (go_at_call 135; refine (l3Word_any _ _).mono ?_; rintro e w' ⟨rfl, rfl⟩))
        go_ret
        exact ⟨ret_bool (H.out.trans (by simp [hy])).symm, B _⟩
    · have H : Hid (opB 3 a x y = (y == 0)) := by
        unfold Hid opB opMostA opMostB
        unfold okW betw at h3 h4
        rw [h1, h2]
        unfold betw
        rw [Bool.eq_iff_iff]
        simp at h3 h4 ⊢
        omega
      by_cases hy : y = 0
      all_goals
        go_enter Tryz.func64, Tryz.ntmps64
        go_wp2_with (first
          | (go_at_call 54; refine (l1In_any _ _ _ _).mono ?_; rintro e w' ⟨rfl, rfl⟩)
          | (go_at_call 135; refine (l3Word_any _ _).mono ?_; rintro e w' ⟨rfl, rfl⟩))
        go_ret
        exact ⟨ret_bool (H.out.trans (by simp [hy])).symm, B _⟩
    · have H : Hid (opB 4 a x y = (y == 0)) := by
        unfold Hid opB opMostA opMostB
        unfold okW betw at h3 h4
        rw [h1, h2]
        unfold betw
        rw [Bool.eq_iff_iff]
        simp at h3 h4 ⊢
        omega
      by_cases hy : y = 0
      all_goals
        go_enter Tryz.func64, Tryz.ntmps64
        go_wp2_with (first
          | (go_at_call 54; refine (l1In_any _ _ _ _).mono ?_; rintro e w' ⟨rfl, rfl⟩)
          | (go_at_call 135; refine (l3Word_any _ _).mono ?_; rintro e w' ⟨rfl, rfl⟩))
        go_ret
        exact ⟨ret_bool (H.out.trans (by simp [hy])).symm, B _⟩
    · have H : Hid (opB 5 a x y = true) := by
        unfold Hid opB opMostA opMostB
        unfold okW betw at h3 h4
        rw [h1, h2]
        unfold betw
        rw [Bool.eq_iff_iff]
        simp at h3 h4 ⊢
        omega
      skip
      all_goals
        go_enter Tryz.func64, Tryz.ntmps64
        go_wp2_with (first
          | (go_at_call 54; refine (l1In_any _ _ _ _).mono ?_; rintro e w' ⟨rfl, rfl⟩)
          | (go_at_call 135; refine (l3Word_any _ _).mono ?_; rintro e w' ⟨rfl, rfl⟩))
        go_ret
        exact ⟨ret_bool (H.out.trans (by simp [])).symm, B _⟩
  all_goals
    have H : Hid (opB k a x y = false) := by
      unfold Hid opB opMostA opMostB
      unfold okW betw at h3 h4
      unfold betw at h1 h2 ⊢
      rw [Bool.eq_iff_iff]
      simp at h1 h2 h3 h4 ⊢
      intros
      try split
      all_goals omega
    go_enter Tryz.func64, Tryz.ntmps64
    go_wp2_with (first
          | (go_at_call 54; refine (l1In_any _ _ _ _).mono ?_; rintro e w' ⟨rfl, rfl⟩)
          | (go_at_call 135; refine (l3Word_any _ _).mono ?_; rintro e w' ⟨rfl, rfl⟩))
    go_ret
    exact ⟨ret_bool H.out.symm, B _⟩
set_option maxHeartbeats 400000 in
theorem specWrites_any (k a x y : Int) (w : World) :
    Calls Tryz.prog 22 #[.agg #[.int .i64 k, .int .i64 a, .int .i64 x, .int .i64 y]] w fun e w' => e = .returned (.bool (opB k a x y && k != 1)) ∧ Below w.heap.size w w' := by
  have B := (Below.refl w.heap.size w).alloc (Nat.le_refl _)
  cases h : opB k a x y
  all_goals
    go_enter Tryz.func22, Tryz.ntmps22
    go_wp2_with (go_at_call 64; refine (specOpOk_any _ _ _ _ _).mono ?_; rintro e w1 ⟨rfl, b1⟩; obtain ⟨c0, c1, c2, c3⟩ := op_box b1)
    go_ret
    exact ⟨rfl, below_step (B _) b1⟩
end Go.Proofs.YthbclkpmgcfdnaaGreatDoor
/- Programs and lists of descs, of the specification: their codes, what is work, what is touched. Conditions: lists that read as told, of lengths that a machine can hold. -/
namespace Go.Proofs.YthbclkpmgcfdnaaGreatDoor
open Go.ChangeShapes Go.WideShapes Go.ChangeAt Go.RowKit
set_option linter.unusedVariables false
def opOkD (u : OpD) : Bool := opB u.1 u.2.1 u.2.2.1 u.2.2.2
theorem all_step {α : Type} {p : α → Bool} {xs : List α} {k : Nat} {x : α} (h : (xs.take k).all p = true) (hx : xs[k]? = some x) (hp : p x = true) : (xs.take (k + 1)).all p = true := by
  rw [List.take_add_one, hx, List.all_append, h]
  simp [hp]
theorem all_not {α : Type} {p : α → Bool} {xs : List α} {k : Nat} {x : α} (hx : xs[k]? = some x) (hp : p x = false) : xs.all p = false := by
  rw [Bool.eq_false_iff]
  intro h
  have := List.all_eq_true.1 h x (List.mem_of_getElem? hx)
  rw [hp] at this
  cases this
end Go.Proofs.YthbclkpmgcfdnaaGreatDoor
/- Whether every op of a list is right, of the program. No condition but a list that reads as told. -/
namespace Go.Proofs.YthbclkpmgcfdnaaGreatDoor
open Go.ChangeShapes Go.WideShapes Go.ChangeAt Go.RowKit
set_option linter.unusedVariables false

set_option maxHeartbeats 1000000 in
theorem opsOk1_any (x : OpD) (w : World) :
    Calls Tryz.prog 120 #[.agg #[.int .i64 x.1, .int .i64 x.2.1, .int .i64 x.2.2.1, .int .i64 x.2.2.2]] w fun e w' => e = .returned (.bool (!opOkD x)) ∧ Below w.heap.size w w' := by
  have B := box_below w (.cells #[.int .i64 x.1, .int .i64 x.2.1, .int .i64 x.2.2.1, .int .i64 x.2.2.2] 54)
  have HM : Hid (∀ W, Calls Tryz.prog 121 #[.agg #[.int .i64 x.1, .int .i64 x.2.1, .int .i64 x.2.2.1, .int .i64 x.2.2.2]] W fun e w' => e = .returned (.bool (opOkD x)) ∧ Below W.heap.size W w') := fun W => implOpOk_any x.1 x.2.1 x.2.2.1 x.2.2.2 W
  generalize opOkD x = q at HM ⊢
  go_enter Tryz.func120, Tryz.ntmps120
  go_wp2_with fail
  generalize w.alloc (.cells #[.int .i64 x.1, .int .i64 x.2.1, .int .i64 x.2.2.1, .int .i64 x.2.2.2] 54) = W0 at B ⊢
  refine (HM.out _).mono ?_
  rintro e w1 ⟨rfl, b1⟩
  go_wp2
  go_ret
  exact ⟨rfl, below_step B b1⟩
set_option maxHeartbeats 2000000 in
theorem indexBadO_any (a : Option Addr) (xs : List OpD) (cap : Nat) (w : World) (h : SlRd opR w a xs) (hm : xs.length ≤ maxLen) :
    Calls Tryz.prog 168 #[.slice a xs.length cap, .func (.func 120) #[] #[]] w fun e w' => e = .returned (.int .i64 (badP opOkD xs)) ∧ Below w.heap.size w w' := by
  have hm' : xs.length ≤ 9223372036854775807 := hm
  have H0 : Hid (∀ W, Below w.heap.size w W → SlRd opR W a xs) := fun W hb => slrd_keep h fun k hk => hb.block k hk
  clear h hm
  go_enter Tryz.func168, Tryz.ntmps168
  go_wp2
  go_loopw [8] (fun i wr => ∃ k : Nat, k ≤ xs.length ∧ i = .int .i64 k ∧ (∀ j v, j < k → xs[j]? = some v → opOkD v = true) ∧ Below w.heap.size w wr) (fun i _ => xs.length - (intOf i).toNat)
  case atStart => exact ⟨0, Nat.zero_le _, rfl, fun j v hj => by omega, Below.refl _ _⟩
  case round =>
    obtain ⟨k, hk, rfl, hno, BB⟩ := hrel
    by_cases hlt : k < xs.length
    · have hlt' : (k : Int) < (xs.length : Int) := by omega
      obtain ⟨x, hx⟩ : ∃ x, xs[k]? = some x := ⟨_, List.getElem?_eq_getElem hlt⟩
      obtain ⟨b, off, rfl, x0, x1, x2, x3, -⟩ := op_at (H0.out _ BB) hx
      have HC := opsOk1_any x wr
      have HX : Hid (xs[k]? = some x) := hx
      clear hx
      cases hb : opOkD x
      · have HR : Hid (badP opOkD xs = k) := badP_at HX.out hb hno
        rw [hb] at HC
        go_wp2_with fail
        refine HC.mono ?_
        rintro e w2 ⟨rfl, b2⟩
        replace BB := below_step BB b2
        clear b2 x0 x1 x2 x3
        go_wp2
        go_ret
        exact ⟨ret_int HR.out.symm, BB⟩
      · rw [hb] at HC
        go_wp2_with fail
        refine HC.mono ?_
        rintro e w2 ⟨rfl, b2⟩
        replace BB := below_step BB b2
        clear b2 x0 x1 x2 x3
        go_wp2
        go_roundw
        case rel =>
          refine ⟨k + 1, by omega, by go_num, fun j v hj hv => ?_, BB⟩
          by_cases he : j < k
          · exact hno j v he hv
          · have : j = k := by omega
            subst this
            rw [HX.out] at hv
            cases hv
            exact hb
        case measure => simp [intOf]; omega
    · have HR : Hid (badP opOkD xs = -1) := badP_no fun j v hv => hno j v (by have := (List.getElem?_eq_some_iff.1 hv).1; omega) hv
      go_wp2
      go_ret
      exact ⟨ret_int HR.out.symm, BB⟩
set_option maxHeartbeats 1000000 in
theorem containsBadO_any (a : Option Addr) (xs : List OpD) (cap : Nat) (w : World) (h : SlRd opR w a xs) (hm : xs.length ≤ maxLen) :
    Calls Tryz.prog 119 #[.slice a xs.length cap, .func (.func 120) #[] #[]] w fun e w' => e = .returned (.bool (!xs.all opOkD)) ∧ Below w.heap.size w w' := by
  have HI := indexBadO_any a xs cap w h hm
  have hab := badP_all opOkD xs
  clear h hm
  generalize badP opOkD xs = q at HI hab
  generalize xs.all opOkD = y at hab ⊢
  subst hab
  by_cases hq : q < 0
  · have hq2 : ¬ (0 ≤ q) := by omega
    go_enter Tryz.func119, Tryz.ntmps119
    go_wp2_with fail
    refine HI.mono ?_
    rintro e w1 ⟨rfl, b1⟩
    go_wp2
    go_ret
    exact ⟨by simp [hq], b1⟩
  · have hq2 : 0 ≤ q := by omega
    go_enter Tryz.func119, Tryz.ntmps119
    go_wp2_with fail
    refine HI.mono ?_
    rintro e w1 ⟨rfl, b1⟩
    go_wp2
    go_ret
    exact ⟨by simp [hq], b1⟩
def progB (xs : List OpD) : Bool := decide (xs.length ≤ 30) && xs.all opOkD
set_option maxHeartbeats 1000000 in
theorem implOpsOk_any (a : Option Addr) (xs : List OpD) (cap : Nat) (w : World) (h : SlRd opR w a xs) (hm : xs.length ≤ maxLen) :
    Calls Tryz.prog 51 #[.slice a xs.length cap] w fun e w' => e = .returned (.bool (progB xs)) ∧ Below w.heap.size w w' := by
  have HC := containsBadO_any a xs cap w h hm
  have hm' : xs.length ≤ 9223372036854775807 := hm
  unfold progB
  generalize xs.all opOkD = y at HC ⊢
  clear h hm
  by_cases hl : xs.length ≤ 30
  · have hl' : (xs.length : Int) ≤ 30 := by omega
    go_enter Tryz.func51, Tryz.ntmps51
    go_wp2_with fail
    refine HC.mono ?_
    rintro e w1 ⟨rfl, b1⟩
    go_wp2
    go_ret
    exact ⟨by simp [hl], b1⟩
  · have hl' : ¬ ((xs.length : Int) ≤ 30) := by omega
    go_enter Tryz.func51, Tryz.ntmps51
    go_wp2
    go_ret
    exact ⟨by simp, Below.refl _ _⟩
end Go.Proofs.YthbclkpmgcfdnaaGreatDoor
