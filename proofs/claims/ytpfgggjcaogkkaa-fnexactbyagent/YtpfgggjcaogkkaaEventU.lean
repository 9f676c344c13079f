
/- Event: what it reads as, and what the laws' helpers do with it. -/
import Derived.Test.YtpfgggjcaogkkaaUPlain
import Derived.Test.YtpfgggjcaogkkaaUForm
import Derived.Test.YtpfgggjcaogkkaaStoreC
import Derived.Test.YtpfgggjcaogkkaaUPair
namespace Go.Proofs.Ytpfgggjcaogkkaa
open Go.ChangeShapes Go.WideShapes Go.ChangeAt Go.RowKit
set_option linter.unusedVariables false

abbrev EventD := Int × OpD × Int × Int × List Int × Int
abbrev eventR : Rep EventD := prodR intR (prodR opR (prodR intR (prodR intR (prodR intsR intR))))
abbrev eventM : Mk EventD := prodM intM (prodM opM (prodM intM (prodM intM (prodM intsM intM))))
theorem len1event {l : List Value} (h : l.length = 1) : ∃ a0, l = [a0] := by
  match l, h with
  | [a0], _ => exact ⟨a0, rfl⟩
theorem len4event {l : List Value} (h : l.length = 4) : ∃ a0 a1 a2 a3, l = [a0, a1, a2, a3] := by
  match l, h with
  | [a0, a1, a2, a3], _ => exact ⟨a0, a1, a2, a3, rfl⟩
theorem event_rd {w : World} {cs : List Value} {x : EventD} (h : eventR.rd w cs x) : ∃ v1 v2 v3 v4 v7, cs = [.int .i64 x.1, v1, v2, v3, v4, .int .i64 x.2.2.1, .int .i64 x.2.2.2.1, v7, .int .i64 x.2.2.2.2.2] ∧ In64 x.1 ∧ opR.rd w [v1, v2, v3, v4] x.2.1 ∧ In64 x.2.2.1 ∧ In64 x.2.2.2.1 ∧ intsR.rd w [v7] x.2.2.2.2.1 ∧ In64 x.2.2.2.2.2 := by
  obtain ⟨c0, e0, rfl, ⟨rfl, i0⟩, ⟨c1, e1, rfl, h1, ⟨c2, e2, rfl, ⟨rfl, i2⟩, ⟨c3, e3, rfl, ⟨rfl, i3⟩, ⟨c4, e4, rfl, h4, ⟨rfl, i5⟩⟩⟩⟩⟩⟩ := h
  obtain ⟨v1, v2, v3, v4, rfl⟩ := len4event (opR.rd_len h1)
  obtain ⟨v7, rfl⟩ := len1event (intsR.rd_len h4)
  exact ⟨v1, v2, v3, v4, v7, rfl, i0, h1, i2, i3, h4, i5⟩
theorem cells_event {w : World} {g : Nat} {x0 x1 x2 x3 x4 x5 x6 x7 x8 : Value} {t : TypeId} (h : w.heap[g]? = some (.cells #[x0, x1, x2, x3, x4, x5, x6, x7, x8] t (0, 0))) : w.cell? ⟨g, 0, none⟩ = some x0 ∧ w.cell? ⟨g, 1, none⟩ = some x1 ∧ w.cell? ⟨g, 2, none⟩ = some x2 ∧ w.cell? ⟨g, 3, none⟩ = some x3 ∧ w.cell? ⟨g, 4, none⟩ = some x4 ∧ w.cell? ⟨g, 5, none⟩ = some x5 ∧ w.cell? ⟨g, 6, none⟩ = some x6 ∧ w.cell? ⟨g, 7, none⟩ = some x7 ∧ w.cell? ⟨g, 8, none⟩ = some x8 :=
  ⟨by rw [cell_of_row w g 0 _ t (0, 0) h]; rfl, by rw [cell_of_row w g 1 _ t (0, 0) h]; rfl, by rw [cell_of_row w g 2 _ t (0, 0) h]; rfl, by rw [cell_of_row w g 3 _ t (0, 0) h]; rfl, by rw [cell_of_row w g 4 _ t (0, 0) h]; rfl, by rw [cell_of_row w g 5 _ t (0, 0) h]; rfl, by rw [cell_of_row w g 6 _ t (0, 0) h]; rfl, by rw [cell_of_row w g 7 _ t (0, 0) h]; rfl, by rw [cell_of_row w g 8 _ t (0, 0) h]; rfl⟩
set_option maxHeartbeats 4000000 in
theorem szEvent_u : SzC 11 eventR eventM aggV := by
  intro cs x left w h h0 h1
  obtain ⟨v1, v2, v3, v4, v7, rfl, -, r1, -, -, r4, -⟩ := event_rd h
  clear h
  rw [show eventM.bk x = 0 + (0 + (0 + (0 + (intsM.bk x.2.2.2.2.1 + 0)))) from rfl]
  change Calls Try.prog 11 #[.agg #[.int .i64 x.1, v1, v2, v3, v4, .int .i64 x.2.2.1, .int .i64 x.2.2.2.1, v7, .int .i64 x.2.2.2.2.2], .int .i64 left] w _
  have C4 : Hid (∀ L W, Below w.heap.size w W → 0 ≤ L → L ≤ 1048576 → Calls Try.prog 18 #[v7, .int .i64 L] W fun e w' => e = .returned (.int .i64 (szI (intsM.bk x.2.2.2.2.1) L)) ∧ Below W.heap.size W w') := fun L W hb a b => szInts_u [v7] _ L W (rd_next r4 hb) a b
  clear r1 r4
  generalize intsM.bk x.2.2.2.2.1 = n4 at C4 ⊢
  have X := heap_at w (.cells #[.int .i64 x.1, v1, v2, v3, v4, .int .i64 x.2.2.1, .int .i64 x.2.2.2.1, v7, .int .i64 x.2.2.2.2.2] 35)
  have B := box_below w (.cells #[.int .i64 x.1, v1, v2, v3, v4, .int .i64 x.2.2.1, .int .i64 x.2.2.2.1, v7, .int .i64 x.2.2.2.2.2] 35)
  go_enter Try.func11, Try.ntmps11
  go_wp2_with fail
  generalize w.alloc (.cells #[.int .i64 x.1, v1, v2, v3, v4, .int .i64 x.2.2.1, .int .i64 x.2.2.2.1, v7, .int .i64 x.2.2.2.2.2] 35) = W0 at X B ⊢
  refine (C4.out (left) _ B (by omega) (by omega)).mono ?_
  rintro e w1 ⟨rfl, bq⟩
  replace X := row_keep bq X
  replace B := below_step B bq
  clear bq C4
  by_cases l4 : (n4 : Int) ≤ left
  · rw [szI_yes l4]
    have g4 : ¬ (left - (n4 : Int) < 0) := by omega
    obtain ⟨y0, y1, y2, y3, y4, y5, y6, y7, y8⟩ := cells_event X
    clear y0 y1 y2 y3 y4 y5 y6 y7 y8 X
    go_wp2
    go_ret
    exact ⟨ret_int (by rw [szI_yes (by omega)]; omega), B⟩
  · rw [szI_no l4]
    clear X
    go_wp2
    go_ret
    exact ⟨ret_int (szI_no (by omega)).symm, B⟩
set_option maxHeartbeats 4000000 in
theorem eqEvent_u : EqC 15 eventR eventM aggV := by
  intro cs ds x w h k hm
  obtain ⟨v1, v2, v3, v4, v7, rfl, -, r1, -, -, r4, -⟩ := event_rd h
  obtain ⟨u1, u2, u3, u4, u7, rfl, -, s1, -, -, s4, -⟩ := event_rd k
  clear h k
  rw [show eventM.bk x = 0 + (0 + (0 + (0 + (intsM.bk x.2.2.2.2.1 + 0)))) from rfl] at hm
  change Calls Try.prog 15 #[.agg #[.int .i64 x.1, v1, v2, v3, v4, .int .i64 x.2.2.1, .int .i64 x.2.2.2.1, v7, .int .i64 x.2.2.2.2.2], .agg #[.int .i64 x.1, u1, u2, u3, u4, .int .i64 x.2.2.1, .int .i64 x.2.2.2.1, u7, .int .i64 x.2.2.2.2.2]] w _
  have C1 : Hid (∀ W, Below w.heap.size w W → Calls Try.prog 22 #[.agg #[v1, v2, v3, v4], .agg #[u1, u2, u3, u4]] W fun e w' => e = .returned (.bool true) ∧ Below W.heap.size W w') := fun W hb => eqOp_u [v1, v2, v3, v4] [u1, u2, u3, u4] _ W (rd_next r1 hb) (rd_next s1 hb) (Nat.zero_le _)
  have C4 : Hid (∀ W, Below w.heap.size w W → Calls Try.prog 23 #[v7, u7] W fun e w' => e = .returned (.bool true) ∧ Below W.heap.size W w') := fun W hb => eqInts_u [v7] [u7] _ W (rd_next r4 hb) (rd_next s4 hb) (by omega)
  clear hm r1 s1 r4 s4
  have X := heap_on (.cells #[.int .i64 x.1, u1, u2, u3, u4, .int .i64 x.2.2.1, .int .i64 x.2.2.2.1, u7, .int .i64 x.2.2.2.2.2] 38) (heap_at w (.cells #[.int .i64 x.1, v1, v2, v3, v4, .int .i64 x.2.2.1, .int .i64 x.2.2.2.1, v7, .int .i64 x.2.2.2.2.2] 38))
  have Y := heap_at (w.alloc (.cells #[.int .i64 x.1, v1, v2, v3, v4, .int .i64 x.2.2.1, .int .i64 x.2.2.2.1, v7, .int .i64 x.2.2.2.2.2] 38)) (.cells #[.int .i64 x.1, u1, u2, u3, u4, .int .i64 x.2.2.1, .int .i64 x.2.2.2.1, u7, .int .i64 x.2.2.2.2.2] 38)
  rw [alloc_len] at Y
  have B := below_step (box_below w (.cells #[.int .i64 x.1, v1, v2, v3, v4, .int .i64 x.2.2.1, .int .i64 x.2.2.2.1, v7, .int .i64 x.2.2.2.2.2] 38)) (box_below _ (.cells #[.int .i64 x.1, u1, u2, u3, u4, .int .i64 x.2.2.1, .int .i64 x.2.2.2.1, u7, .int .i64 x.2.2.2.2.2] 38))
  go_enter Try.func15, Try.ntmps15
  go_wp2_with fail
  generalize (w.alloc (.cells #[.int .i64 x.1, v1, v2, v3, v4, .int .i64 x.2.2.1, .int .i64 x.2.2.2.1, v7, .int .i64 x.2.2.2.2.2] 38)).alloc (.cells #[.int .i64 x.1, u1, u2, u3, u4, .int .i64 x.2.2.1, .int .i64 x.2.2.2.1, u7, .int .i64 x.2.2.2.2.2] 38) = W0 at X Y B ⊢
  refine (C1.out _ B).mono ?_
  rintro e w1 ⟨rfl, bq⟩
  replace X := row_keep bq X
  replace Y := row_keep bq Y
  replace B := below_step B bq
  clear bq C1
  obtain ⟨y0, y1, y2, y3, y4, y5, y6, y7, y8⟩ := cells_event X
  obtain ⟨z0, z1, z2, z3, z4, z5, z6, z7, z8⟩ := cells_event Y
  go_wp2_with fail
  clear y0 y1 y2 y3 y4 y5 y6 y7 y8 z0 z1 z2 z3 z4 z5 z6 z7 z8
  refine (C4.out _ B).mono ?_
  rintro e w2 ⟨rfl, bq⟩
  replace X := row_keep bq X
  replace Y := row_keep bq Y
  replace B := below_step B bq
  clear bq C4
  obtain ⟨y0, y1, y2, y3, y4, y5, y6, y7, y8⟩ := cells_event X
  obtain ⟨z0, z1, z2, z3, z4, z5, z6, z7, z8⟩ := cells_event Y
  clear X Y
  go_wp2
  go_ret
  exact ⟨rfl, B⟩
theorem event_cV (x : EventD) : eventM.cV x = 0 + (0 + (0 + (0 + (intsM.cV x.2.2.2.2.1 + 0)))) := rfl
theorem event_mV (k : Int) (x : EventD) : eventM.mV k x = (intM.mV k x.1, opM.mV (k + ((intM.cV x.1 : Nat) : Int)) x.2.1, intM.mV ((k + ((intM.cV x.1 : Nat) : Int)) + ((opM.cV x.2.1 : Nat) : Int)) x.2.2.1, intM.mV (((k + ((intM.cV x.1 : Nat) : Int)) + ((opM.cV x.2.1 : Nat) : Int)) + ((intM.cV x.2.2.1 : Nat) : Int)) x.2.2.2.1, intsM.mV ((((k + ((intM.cV x.1 : Nat) : Int)) + ((opM.cV x.2.1 : Nat) : Int)) + ((intM.cV x.2.2.1 : Nat) : Int)) + ((intM.cV x.2.2.2.1 : Nat) : Int)) x.2.2.2.2.1, intM.mV (((((k + ((intM.cV x.1 : Nat) : Int)) + ((opM.cV x.2.1 : Nat) : Int)) + ((intM.cV x.2.2.1 : Nat) : Int)) + ((intM.cV x.2.2.2.1 : Nat) : Int)) + ((intsM.cV x.2.2.2.2.1 : Nat) : Int)) x.2.2.2.2.2) := rfl
theorem event_own {w : World} {S : Foot} {cs : List Value} {x : EventD} (h : eventR.own w S cs x) : ∃ v1 v2 v3 v4 v7 S1 S4, cs = [.int .i64 x.1, v1, v2, v3, v4, .int .i64 x.2.2.1, .int .i64 x.2.2.2.1, v7, .int .i64 x.2.2.2.2.2] ∧ In64 x.1 ∧ In64 x.2.2.1 ∧ In64 x.2.2.2.1 ∧ In64 x.2.2.2.2.2 ∧ opR.own w S1 [v1, v2, v3, v4] x.2.1 ∧ intsR.own w S4 [v7] x.2.2.2.2.1 ∧ Sub S1 S ∧ Sub S4 S ∧ Dis S1 S4 := by
  obtain ⟨c0, e0, S0, T1, rfl, ⟨rfl, i0⟩, ⟨c1, e1, S1, T2, rfl, h1, ⟨c2, e2, S2, T3, rfl, ⟨rfl, i2⟩, ⟨c3, e3, S3, T4, rfl, ⟨rfl, i3⟩, ⟨c4, e4, S4, T5, rfl, h4, ⟨rfl, i5⟩, a4, b4, d4⟩, a3, b3, d3⟩, a2, b2, d2⟩, a1, b1, d1⟩, a0, b0, d0⟩ := h
  obtain ⟨v1, v2, v3, v4, rfl⟩ := len4event (opR.rd_len (opR.own_rd h1))
  obtain ⟨v7, rfl⟩ := len1event (intsR.rd_len (intsR.own_rd h4))
  exact ⟨v1, v2, v3, v4, v7, S1, S4, rfl, i0, i2, i3, i5, h1, h4, (a1).trans b0, ((((a4).trans b3).trans b2).trans b1).trans b0, d1.sub (Sub.refl _) (((a4).trans b3).trans b2)⟩
theorem own_event {w : World} {S S1 S4 : Foot} {v1 v2 v3 v4 v7 : Value} {x : EventD} (i0 : In64 x.1) (i2 : In64 x.2.2.1) (i3 : In64 x.2.2.2.1) (i5 : In64 x.2.2.2.2.2) (h1 : opR.own w S1 [v1, v2, v3, v4] x.2.1) (h4 : intsR.own w S4 [v7] x.2.2.2.2.1) (s1 : Sub S1 S) (s4 : Sub S4 S) (d14 : Dis S1 S4) : eventR.own w S [.int .i64 x.1, v1, v2, v3, v4, .int .i64 x.2.2.1, .int .i64 x.2.2.2.1, v7, .int .i64 x.2.2.2.2.2] x := by
  exact ⟨[.int .i64 x.1], [v1, v2, v3, v4, .int .i64 x.2.2.1, .int .i64 x.2.2.2.1, v7, .int .i64 x.2.2.2.2.2], (fun _ => False), (fun q => S1 q ∨ (fun q => (fun _ => False) q ∨ (fun q => (fun _ => False) q ∨ (fun q => S4 q ∨ (fun _ => False) q) q) q) q), rfl, ⟨rfl, i0⟩, ⟨[v1, v2, v3, v4], [.int .i64 x.2.2.1, .int .i64 x.2.2.2.1, v7, .int .i64 x.2.2.2.2.2], S1, (fun q => (fun _ => False) q ∨ (fun q => (fun _ => False) q ∨ (fun q => S4 q ∨ (fun _ => False) q) q) q), rfl, h1, ⟨[.int .i64 x.2.2.1], [.int .i64 x.2.2.2.1, v7, .int .i64 x.2.2.2.2.2], (fun _ => False), (fun q => (fun _ => False) q ∨ (fun q => S4 q ∨ (fun _ => False) q) q), rfl, ⟨rfl, i2⟩, ⟨[.int .i64 x.2.2.2.1], [v7, .int .i64 x.2.2.2.2.2], (fun _ => False), (fun q => S4 q ∨ (fun _ => False) q), rfl, ⟨rfl, i3⟩, ⟨[v7], [.int .i64 x.2.2.2.2.2], S4, (fun _ => False), rfl, h4, ⟨rfl, i5⟩, (fun q h => .inl h), (fun q h => .inr h), (fun q a h => h.elim)⟩, (fun q h => .inl h), (fun q h => .inr h), (fun _ h _ => h.elim)⟩, (fun q h => .inl h), (fun q h => .inr h), (fun _ h _ => h.elim)⟩, (fun q h => .inl h), (fun q h => .inr h), (fun q a h => h.elim (fun ha => ha.elim) (fun hb => hb.elim (fun hba => hba.elim) (fun hbb => hbb.elim (fun hbba => d14 q a hbba) (fun hbbb => hbbb.elim))))⟩, (fun _ h => h.elim), (fun q h => h.elim (fun ha => s1 q ha) (fun hb => hb.elim (fun hba => hba.elim) (fun hbb => hbb.elim (fun hbba => hbba.elim) (fun hbbb => hbbb.elim (fun hbbba => s4 q hbbba) (fun hbbbb => hbbbb.elim))))), (fun _ h _ => h.elim)⟩
theorem froz_event {w : World} {g : Nat} {cs : Array Value} {t : TypeId} (h : w.heap[g]? = some (.cells cs t (0, 0))) : w.frozen? ⟨g, 0, none⟩ = false ∧ w.frozen? ⟨g, 1, none⟩ = false ∧ w.frozen? ⟨g, 2, none⟩ = false ∧ w.frozen? ⟨g, 3, none⟩ = false ∧ w.frozen? ⟨g, 4, none⟩ = false ∧ w.frozen? ⟨g, 5, none⟩ = false ∧ w.frozen? ⟨g, 6, none⟩ = false ∧ w.frozen? ⟨g, 7, none⟩ = false ∧ w.frozen? ⟨g, 8, none⟩ = false :=
  ⟨frozen_of_row w g 0 _ t h, frozen_of_row w g 1 _ t h, frozen_of_row w g 2 _ t h, frozen_of_row w g 3 _ t h, frozen_of_row w g 4 _ t h, frozen_of_row w g 5 _ t h, frozen_of_row w g 6 _ t h, frozen_of_row w g 7 _ t h, frozen_of_row w g 8 _ t h⟩
theorem put_event {w : World} {g : Nat} {x0 x1 x2 x3 x4 x5 x6 x7 x8 y0 y1 y2 y3 y4 y5 y6 y7 y8 : Value} {t : TypeId} (h : w.heap[g]? = some (.cells #[x0, x1, x2, x3, x4, x5, x6, x7, x8] t (0, 0))) : (((((((((w.setCell ⟨g, 0, none⟩ (y0)).setCell ⟨g, 1, none⟩ (y1)).setCell ⟨g, 2, none⟩ (y2)).setCell ⟨g, 3, none⟩ (y3)).setCell ⟨g, 4, none⟩ (y4)).setCell ⟨g, 5, none⟩ (y5)).setCell ⟨g, 6, none⟩ (y6)).setCell ⟨g, 7, none⟩ (y7)).setCell ⟨g, 8, none⟩ (y8)).heap[g]? = some (.cells #[y0, y1, y2, y3, y4, y5, y6, y7, y8] t (0, 0)) := by
  have h0 : (w.setCell ⟨g, 0, none⟩ (y0)).heap[g]? = some (.cells #[y0, x1, x2, x3, x4, x5, x6, x7, x8] t (0, 0)) := heap_setCell_same _ g 0 _ t y0 h
  have h1 : ((w.setCell ⟨g, 0, none⟩ (y0)).setCell ⟨g, 1, none⟩ (y1)).heap[g]? = some (.cells #[y0, y1, x2, x3, x4, x5, x6, x7, x8] t (0, 0)) := heap_setCell_same _ g 1 _ t y1 h0
  have h2 : (((w.setCell ⟨g, 0, none⟩ (y0)).setCell ⟨g, 1, none⟩ (y1)).setCell ⟨g, 2, none⟩ (y2)).heap[g]? = some (.cells #[y0, y1, y2, x3, x4, x5, x6, x7, x8] t (0, 0)) := heap_setCell_same _ g 2 _ t y2 h1
  have h3 : ((((w.setCell ⟨g, 0, none⟩ (y0)).setCell ⟨g, 1, none⟩ (y1)).setCell ⟨g, 2, none⟩ (y2)).setCell ⟨g, 3, none⟩ (y3)).heap[g]? = some (.cells #[y0, y1, y2, y3, x4, x5, x6, x7, x8] t (0, 0)) := heap_setCell_same _ g 3 _ t y3 h2
  have h4 : (((((w.setCell ⟨g, 0, none⟩ (y0)).setCell ⟨g, 1, none⟩ (y1)).setCell ⟨g, 2, none⟩ (y2)).setCell ⟨g, 3, none⟩ (y3)).setCell ⟨g, 4, none⟩ (y4)).heap[g]? = some (.cells #[y0, y1, y2, y3, y4, x5, x6, x7, x8] t (0, 0)) := heap_setCell_same _ g 4 _ t y4 h3
  have h5 : ((((((w.setCell ⟨g, 0, none⟩ (y0)).setCell ⟨g, 1, none⟩ (y1)).setCell ⟨g, 2, none⟩ (y2)).setCell ⟨g, 3, none⟩ (y3)).setCell ⟨g, 4, none⟩ (y4)).setCell ⟨g, 5, none⟩ (y5)).heap[g]? = some (.cells #[y0, y1, y2, y3, y4, y5, x6, x7, x8] t (0, 0)) := heap_setCell_same _ g 5 _ t y5 h4
  have h6 : (((((((w.setCell ⟨g, 0, none⟩ (y0)).setCell ⟨g, 1, none⟩ (y1)).setCell ⟨g, 2, none⟩ (y2)).setCell ⟨g, 3, none⟩ (y3)).setCell ⟨g, 4, none⟩ (y4)).setCell ⟨g, 5, none⟩ (y5)).setCell ⟨g, 6, none⟩ (y6)).heap[g]? = some (.cells #[y0, y1, y2, y3, y4, y5, y6, x7, x8] t (0, 0)) := heap_setCell_same _ g 6 _ t y6 h5
  have h7 : ((((((((w.setCell ⟨g, 0, none⟩ (y0)).setCell ⟨g, 1, none⟩ (y1)).setCell ⟨g, 2, none⟩ (y2)).setCell ⟨g, 3, none⟩ (y3)).setCell ⟨g, 4, none⟩ (y4)).setCell ⟨g, 5, none⟩ (y5)).setCell ⟨g, 6, none⟩ (y6)).setCell ⟨g, 7, none⟩ (y7)).heap[g]? = some (.cells #[y0, y1, y2, y3, y4, y5, y6, y7, x8] t (0, 0)) := heap_setCell_same _ g 7 _ t y7 h6
  have h8 : (((((((((w.setCell ⟨g, 0, none⟩ (y0)).setCell ⟨g, 1, none⟩ (y1)).setCell ⟨g, 2, none⟩ (y2)).setCell ⟨g, 3, none⟩ (y3)).setCell ⟨g, 4, none⟩ (y4)).setCell ⟨g, 5, none⟩ (y5)).setCell ⟨g, 6, none⟩ (y6)).setCell ⟨g, 7, none⟩ (y7)).setCell ⟨g, 8, none⟩ (y8)).heap[g]? = some (.cells #[y0, y1, y2, y3, y4, y5, y6, y7, y8] t (0, 0)) := heap_setCell_same _ g 8 _ t y8 h7
  exact h8
set_option maxHeartbeats 8000000 in
set_option maxRecDepth 20000 in
theorem toEvent_u : ToC 13 eventR eventM aggV := by
  intro cs x w h hm
  obtain ⟨v1, v2, v3, v4, v7, rfl, i0, r1, i2, i3, r4, i5⟩ := event_rd h
  clear h
  rw [show eventM.bk x = 0 + (0 + (0 + (0 + (intsM.bk x.2.2.2.2.1 + 0)))) from rfl] at hm
  change Calls Try.prog 13 #[.agg #[.int .i64 x.1, v1, v2, v3, v4, .int .i64 x.2.2.1, .int .i64 x.2.2.2.1, v7, .int .i64 x.2.2.2.2.2]] w _
  have C1 : Hid (∀ W, Below w.heap.size w W → Calls Try.prog 19 #[.agg #[v1, v2, v3, v4]] W fun e w' => e = .returned (.agg #[.int .i64 x.2.1.1, .int .i64 x.2.1.2.1, .int .i64 x.2.1.2.2.1, .int .i64 x.2.1.2.2.2]) ∧ MadeR opR W w' [.int .i64 x.2.1.1, .int .i64 x.2.1.2.1, .int .i64 x.2.1.2.2.1, .int .i64 x.2.1.2.2.2] x.2.1) := fun W hb => (toOp_u [v1, v2, v3, v4] _ W (rd_next r1 hb) (Nat.zero_le _)).mono (by rintro e w' ⟨ds, rfl, mm⟩; obtain ⟨rfl, -⟩ := op_rd4 (opR.own_rd mm.1); exact ⟨rfl, mm⟩)
  have C4 : Hid (∀ W, Below w.heap.size w W → Calls Try.prog 20 #[v7] W fun e w' => ∃ a4 c4, e = .returned (.slice a4 x.2.2.2.2.1.length c4) ∧ MadeR intsR W w' [.slice a4 x.2.2.2.2.1.length c4] x.2.2.2.2.1) := fun W hb => (toInts_u [v7] _ W (rd_next r4 hb) (by omega)).mono (by rintro e w' ⟨ds, rfl, mm⟩; obtain ⟨a4, c4, rfl, -⟩ := intsR.own_rd mm.1; exact ⟨a4, c4, rfl, mm⟩)
  clear hm r1 r4
  have HI : Hid _ := And.intro i0 (And.intro i2 (And.intro i3 (i5)))
  clear i0 i2 i3 i5
  have X0 := heap_on (.cells #[.int .i64 x.1, .int .i64 0, .int .i64 0, .int .i64 0, .int .i64 0, .int .i64 0, .int .i64 0, .slice none 0 0, .int .i64 0] 38) (heap_on (.cells #[.int .i64 0, .int .i64 0, .int .i64 0, .int .i64 0, .int .i64 0, .int .i64 0, .int .i64 0, .slice none 0 0, .int .i64 0] 38) (heap_at w (.cells #[.int .i64 x.1, v1, v2, v3, v4, .int .i64 x.2.2.1, .int .i64 x.2.2.2.1, v7, .int .i64 x.2.2.2.2.2] 35)))
  have X1 := heap_on (.cells #[.int .i64 x.1, .int .i64 0, .int .i64 0, .int .i64 0, .int .i64 0, .int .i64 0, .int .i64 0, .slice none 0 0, .int .i64 0] 38) (heap_at (w.alloc (.cells #[.int .i64 x.1, v1, v2, v3, v4, .int .i64 x.2.2.1, .int .i64 x.2.2.2.1, v7, .int .i64 x.2.2.2.2.2] 35)) (.cells #[.int .i64 0, .int .i64 0, .int .i64 0, .int .i64 0, .int .i64 0, .int .i64 0, .int .i64 0, .slice none 0 0, .int .i64 0] 38))
  have X2 := heap_at ((w.alloc (.cells #[.int .i64 x.1, v1, v2, v3, v4, .int .i64 x.2.2.1, .int .i64 x.2.2.2.1, v7, .int .i64 x.2.2.2.2.2] 35)).alloc (.cells #[.int .i64 0, .int .i64 0, .int .i64 0, .int .i64 0, .int .i64 0, .int .i64 0, .int .i64 0, .slice none 0 0, .int .i64 0] 38)) (.cells #[.int .i64 x.1, .int .i64 0, .int .i64 0, .int .i64 0, .int .i64 0, .int .i64 0, .int .i64 0, .slice none 0 0, .int .i64 0] 38)
  rw [alloc_len] at X1
  rw [alloc_len, alloc_len] at X2
  have B : Below w.heap.size w (((w.alloc (.cells #[.int .i64 x.1, v1, v2, v3, v4, .int .i64 x.2.2.1, .int .i64 x.2.2.2.1, v7, .int .i64 x.2.2.2.2.2] 35)).alloc (.cells #[.int .i64 0, .int .i64 0, .int .i64 0, .int .i64 0, .int .i64 0, .int .i64 0, .int .i64 0, .slice none 0 0, .int .i64 0] 38)).alloc (.cells #[.int .i64 x.1, .int .i64 0, .int .i64 0, .int .i64 0, .int .i64 0, .int .i64 0, .int .i64 0, .slice none 0 0, .int .i64 0] 38)) := (((Below.refl _ w).alloc (Nat.le_refl _) _).alloc (by simp) _).alloc (by simp; omega) _
  have e3 : w.heap.size + 1 + 1 + 1 ≤ (((w.alloc (.cells #[.int .i64 x.1, v1, v2, v3, v4, .int .i64 x.2.2.1, .int .i64 x.2.2.2.1, v7, .int .i64 x.2.2.2.2.2] 35)).alloc (.cells #[.int .i64 0, .int .i64 0, .int .i64 0, .int .i64 0, .int .i64 0, .int .i64 0, .int .i64 0, .slice none 0 0, .int .i64 0] 38)).alloc (.cells #[.int .i64 x.1, .int .i64 0, .int .i64 0, .int .i64 0, .int .i64 0, .int .i64 0, .int .i64 0, .slice none 0 0, .int .i64 0] 38)).heap.size := by simp
  go_enter Try.func13, Try.ntmps13
  go_wp2_with fail
  generalize ((w.alloc (.cells #[.int .i64 x.1, v1, v2, v3, v4, .int .i64 x.2.2.1, .int .i64 x.2.2.2.1, v7, .int .i64 x.2.2.2.2.2] 35)).alloc (.cells #[.int .i64 0, .int .i64 0, .int .i64 0, .int .i64 0, .int .i64 0, .int .i64 0, .int .i64 0, .slice none 0 0, .int .i64 0] 38)).alloc (.cells #[.int .i64 x.1, .int .i64 0, .int .i64 0, .int .i64 0, .int .i64 0, .int .i64 0, .int .i64 0, .slice none 0 0, .int .i64 0] 38) = u0 at X0 X1 X2 B e3 ⊢
  refine (C1.out _ B).mono ?_
  rintro e w1 ⟨rfl, mm⟩
  have hs1 := mm.2.size
  replace B := below_step B mm.2
  replace X0 := row_keep mm.2 X0
  replace X1 := row_keep mm.2 X1
  replace X2 := row_keep mm.2 X2
  have O1 := mm.1
  clear mm C1
  obtain ⟨p0, p1, p2, p3, p4, p5, p6, p7, p8⟩ := cells_event X0
  obtain ⟨y0, y1, y2, y3, y4, y5, y6, y7, y8⟩ := cells_event X2
  obtain ⟨f0, f1, f2, f3, f4, f5, f6, f7, f8⟩ := froz_event X2
  have HS : Hid _ := And.intro X0 (And.intro X1 (And.intro X2 (And.intro B (O1))))
  clear X0 X1 X2 B O1
  go_wp2_with fail
  clear p0 p1 p2 p3 p4 p5 p6 p7 p8 y0 y1 y2 y3 y4 y5 y6 y7 y8 f0 f1 f2 f3 f4 f5 f6 f7 f8
  obtain ⟨X0, X1, X2, B, O1⟩ := HS.out
  clear HS
  have k0 : (w1.setCell ⟨w.heap.size + 1 + 1, 1, none⟩ (.int .i64 x.2.1.1)).heap[w.heap.size + 1 + 1]? = some (.cells #[.int .i64 x.1, .int .i64 x.2.1.1, .int .i64 0, .int .i64 0, .int .i64 0, .int .i64 0, .int .i64 0, .slice none 0 0, .int .i64 0] 38 (0, 0)) := heap_setCell_same _ (w.heap.size + 1 + 1) 1 _ _ (.int .i64 x.2.1.1) X2
  have k1 : ((w1.setCell ⟨w.heap.size + 1 + 1, 1, none⟩ (.int .i64 x.2.1.1)).setCell ⟨w.heap.size + 1 + 1, 2, none⟩ (.int .i64 x.2.1.2.1)).heap[w.heap.size + 1 + 1]? = some (.cells #[.int .i64 x.1, .int .i64 x.2.1.1, .int .i64 x.2.1.2.1, .int .i64 0, .int .i64 0, .int .i64 0, .int .i64 0, .slice none 0 0, .int .i64 0] 38 (0, 0)) := heap_setCell_same _ (w.heap.size + 1 + 1) 2 _ _ (.int .i64 x.2.1.2.1) k0
  have k2 : (((w1.setCell ⟨w.heap.size + 1 + 1, 1, none⟩ (.int .i64 x.2.1.1)).setCell ⟨w.heap.size + 1 + 1, 2, none⟩ (.int .i64 x.2.1.2.1)).setCell ⟨w.heap.size + 1 + 1, 3, none⟩ (.int .i64 x.2.1.2.2.1)).heap[w.heap.size + 1 + 1]? = some (.cells #[.int .i64 x.1, .int .i64 x.2.1.1, .int .i64 x.2.1.2.1, .int .i64 x.2.1.2.2.1, .int .i64 0, .int .i64 0, .int .i64 0, .slice none 0 0, .int .i64 0] 38 (0, 0)) := heap_setCell_same _ (w.heap.size + 1 + 1) 3 _ _ (.int .i64 x.2.1.2.2.1) k1
  have k3 : ((((w1.setCell ⟨w.heap.size + 1 + 1, 1, none⟩ (.int .i64 x.2.1.1)).setCell ⟨w.heap.size + 1 + 1, 2, none⟩ (.int .i64 x.2.1.2.1)).setCell ⟨w.heap.size + 1 + 1, 3, none⟩ (.int .i64 x.2.1.2.2.1)).setCell ⟨w.heap.size + 1 + 1, 4, none⟩ (.int .i64 x.2.1.2.2.2)).heap[w.heap.size + 1 + 1]? = some (.cells #[.int .i64 x.1, .int .i64 x.2.1.1, .int .i64 x.2.1.2.1, .int .i64 x.2.1.2.2.1, .int .i64 x.2.1.2.2.2, .int .i64 0, .int .i64 0, .slice none 0 0, .int .i64 0] 38 (0, 0)) := heap_setCell_same _ (w.heap.size + 1 + 1) 4 _ _ (.int .i64 x.2.1.2.2.2) k2
  have k4 : (((((w1.setCell ⟨w.heap.size + 1 + 1, 1, none⟩ (.int .i64 x.2.1.1)).setCell ⟨w.heap.size + 1 + 1, 2, none⟩ (.int .i64 x.2.1.2.1)).setCell ⟨w.heap.size + 1 + 1, 3, none⟩ (.int .i64 x.2.1.2.2.1)).setCell ⟨w.heap.size + 1 + 1, 4, none⟩ (.int .i64 x.2.1.2.2.2)).setCell ⟨w.heap.size + 1 + 1, 5, none⟩ (.int .i64 x.2.2.1)).heap[w.heap.size + 1 + 1]? = some (.cells #[.int .i64 x.1, .int .i64 x.2.1.1, .int .i64 x.2.1.2.1, .int .i64 x.2.1.2.2.1, .int .i64 x.2.1.2.2.2, .int .i64 x.2.2.1, .int .i64 0, .slice none 0 0, .int .i64 0] 38 (0, 0)) := heap_setCell_same _ (w.heap.size + 1 + 1) 5 _ _ (.int .i64 x.2.2.1) k3
  have k5 : ((((((w1.setCell ⟨w.heap.size + 1 + 1, 1, none⟩ (.int .i64 x.2.1.1)).setCell ⟨w.heap.size + 1 + 1, 2, none⟩ (.int .i64 x.2.1.2.1)).setCell ⟨w.heap.size + 1 + 1, 3, none⟩ (.int .i64 x.2.1.2.2.1)).setCell ⟨w.heap.size + 1 + 1, 4, none⟩ (.int .i64 x.2.1.2.2.2)).setCell ⟨w.heap.size + 1 + 1, 5, none⟩ (.int .i64 x.2.2.1)).setCell ⟨w.heap.size + 1 + 1, 6, none⟩ (.int .i64 x.2.2.2.1)).heap[w.heap.size + 1 + 1]? = some (.cells #[.int .i64 x.1, .int .i64 x.2.1.1, .int .i64 x.2.1.2.1, .int .i64 x.2.1.2.2.1, .int .i64 x.2.1.2.2.2, .int .i64 x.2.2.1, .int .i64 x.2.2.2.1, .slice none 0 0, .int .i64 0] 38 (0, 0)) := heap_setCell_same _ (w.heap.size + 1 + 1) 6 _ _ (.int .i64 x.2.2.2.1) k4
  have qn0 := (heap_setC (g := w.heap.size + 1 + 1) (o := 6) (v := .int .i64 x.2.2.2.1) (heap_setC (g := w.heap.size + 1 + 1) (o := 5) (v := .int .i64 x.2.2.1) (heap_setC (g := w.heap.size + 1 + 1) (o := 4) (v := .int .i64 x.2.1.2.2.2) (heap_setC (g := w.heap.size + 1 + 1) (o := 3) (v := .int .i64 x.2.1.2.2.1) (heap_setC (g := w.heap.size + 1 + 1) (o := 2) (v := .int .i64 x.2.1.2.1) (heap_setC (g := w.heap.size + 1 + 1) (o := 1) (v := .int .i64 x.2.1.1) X0 (by omega)) (by omega)) (by omega)) (by omega)) (by omega)) (by omega))
  have qn1 := (heap_setC (g := w.heap.size + 1 + 1) (o := 6) (v := .int .i64 x.2.2.2.1) (heap_setC (g := w.heap.size + 1 + 1) (o := 5) (v := .int .i64 x.2.2.1) (heap_setC (g := w.heap.size + 1 + 1) (o := 4) (v := .int .i64 x.2.1.2.2.2) (heap_setC (g := w.heap.size + 1 + 1) (o := 3) (v := .int .i64 x.2.1.2.2.1) (heap_setC (g := w.heap.size + 1 + 1) (o := 2) (v := .int .i64 x.2.1.2.1) (heap_setC (g := w.heap.size + 1 + 1) (o := 1) (v := .int .i64 x.2.1.1) X1 (by omega)) (by omega)) (by omega)) (by omega)) (by omega)) (by omega))
  have qb1 : Below w.heap.size w ((((((w1.setCell ⟨w.heap.size + 1 + 1, 1, none⟩ (.int .i64 x.2.1.1)).setCell ⟨w.heap.size + 1 + 1, 2, none⟩ (.int .i64 x.2.1.2.1)).setCell ⟨w.heap.size + 1 + 1, 3, none⟩ (.int .i64 x.2.1.2.2.1)).setCell ⟨w.heap.size + 1 + 1, 4, none⟩ (.int .i64 x.2.1.2.2.2)).setCell ⟨w.heap.size + 1 + 1, 5, none⟩ (.int .i64 x.2.2.1)).setCell ⟨w.heap.size + 1 + 1, 6, none⟩ (.int .i64 x.2.2.2.1)) := (below_setC (below_setC (below_setC (below_setC (below_setC (below_setC B (by omega)) (by omega)) (by omega)) (by omega)) (by omega)) (by omega))
  have qo1 : opR.own ((((((w1.setCell ⟨w.heap.size + 1 + 1, 1, none⟩ (.int .i64 x.2.1.1)).setCell ⟨w.heap.size + 1 + 1, 2, none⟩ (.int .i64 x.2.1.2.1)).setCell ⟨w.heap.size + 1 + 1, 3, none⟩ (.int .i64 x.2.1.2.2.1)).setCell ⟨w.heap.size + 1 + 1, 4, none⟩ (.int .i64 x.2.1.2.2.2)).setCell ⟨w.heap.size + 1 + 1, 5, none⟩ (.int .i64 x.2.2.1)).setCell ⟨w.heap.size + 1 + 1, 6, none⟩ (.int .i64 x.2.2.2.1)) _ _ _ := (own_setC (own_setC (own_setC (own_setC (own_setC (own_setC O1 (fun h => by have := h.1; omega)) (fun h => by have := h.1; omega)) (fun h => by have := h.1; omega)) (fun h => by have := h.1; omega)) (fun h => by have := h.1; omega)) (fun h => by have := h.1; omega))
  have qz1 : w1.heap.size ≤ ((((((w1.setCell ⟨w.heap.size + 1 + 1, 1, none⟩ (.int .i64 x.2.1.1)).setCell ⟨w.heap.size + 1 + 1, 2, none⟩ (.int .i64 x.2.1.2.1)).setCell ⟨w.heap.size + 1 + 1, 3, none⟩ (.int .i64 x.2.1.2.2.1)).setCell ⟨w.heap.size + 1 + 1, 4, none⟩ (.int .i64 x.2.1.2.2.2)).setCell ⟨w.heap.size + 1 + 1, 5, none⟩ (.int .i64 x.2.2.1)).setCell ⟨w.heap.size + 1 + 1, 6, none⟩ (.int .i64 x.2.2.2.1)).heap.size := by simp
  have qz2 : ((((((w1.setCell ⟨w.heap.size + 1 + 1, 1, none⟩ (.int .i64 x.2.1.1)).setCell ⟨w.heap.size + 1 + 1, 2, none⟩ (.int .i64 x.2.1.2.1)).setCell ⟨w.heap.size + 1 + 1, 3, none⟩ (.int .i64 x.2.1.2.2.1)).setCell ⟨w.heap.size + 1 + 1, 4, none⟩ (.int .i64 x.2.1.2.2.2)).setCell ⟨w.heap.size + 1 + 1, 5, none⟩ (.int .i64 x.2.2.1)).setCell ⟨w.heap.size + 1 + 1, 6, none⟩ (.int .i64 x.2.2.2.1)).heap.size ≤ w1.heap.size := by simp
  clear X0 X1 X2 B O1 k0 k1 k2 k3 k4
  generalize ((((((w1.setCell ⟨w.heap.size + 1 + 1, 1, none⟩ (.int .i64 x.2.1.1)).setCell ⟨w.heap.size + 1 + 1, 2, none⟩ (.int .i64 x.2.1.2.1)).setCell ⟨w.heap.size + 1 + 1, 3, none⟩ (.int .i64 x.2.1.2.2.1)).setCell ⟨w.heap.size + 1 + 1, 4, none⟩ (.int .i64 x.2.1.2.2.2)).setCell ⟨w.heap.size + 1 + 1, 5, none⟩ (.int .i64 x.2.2.1)).setCell ⟨w.heap.size + 1 + 1, 6, none⟩ (.int .i64 x.2.2.2.1)) = u1 at qn0 qn1 k5 qb1 qz1 qz2 qo1 ⊢
  have X0 := qn0
  have X1 := qn1
  have X2 := k5
  have B := qb1
  have O1 := qo1
  have za0 := qz1
  have zb0 := qz2
  clear qn0 qn1 k5 qb1 qz1 qz2 qo1
  refine (C4.out _ B).mono ?_
  rintro e w2 ⟨a4, c4, rfl, mm⟩
  have hs4 := mm.2.size
  replace B := below_step B mm.2
  replace X0 := row_keep mm.2 X0
  replace X1 := row_keep mm.2 X1
  replace X2 := row_keep mm.2 X2
  replace O1 := own_stay O1 mm.2 (by omega)
  have O4 := mm.1
  clear mm C4
  obtain ⟨p0, p1, p2, p3, p4, p5, p6, p7, p8⟩ := cells_event X0
  obtain ⟨y0, y1, y2, y3, y4, y5, y6, y7, y8⟩ := cells_event X2
  obtain ⟨f0, f1, f2, f3, f4, f5, f6, f7, f8⟩ := froz_event X2
  obtain ⟨z0, z1, z2, z3, z4, z5, z6, z7, z8⟩ := cells_event X1
  obtain ⟨g0, g1, g2, g3, g4, g5, g6, g7, g8⟩ := froz_event X1
  have HS : Hid _ := And.intro X0 (And.intro X1 (And.intro X2 (And.intro B (And.intro O1 (O4)))))
  clear X0 X1 X2 B O1 O4
  go_wp2
  clear p0 p1 p2 p3 p4 p5 p6 p7 p8 y0 y1 y2 y3 y4 y5 y6 y7 y8 f0 f1 f2 f3 f4 f5 f6 f7 f8 z0 z1 z2 z3 z4 z5 z6 z7 z8 g0 g1 g2 g3 g4 g5 g6 g7 g8
  obtain ⟨X0, X1, X2, B, O1, O4⟩ := HS.out
  clear HS
  have k0 : (w2.setCell ⟨w.heap.size + 1 + 1, 7, none⟩ (.slice a4 x.2.2.2.2.1.length c4)).heap[w.heap.size + 1 + 1]? = some (.cells #[.int .i64 x.1, .int .i64 x.2.1.1, .int .i64 x.2.1.2.1, .int .i64 x.2.1.2.2.1, .int .i64 x.2.1.2.2.2, .int .i64 x.2.2.1, .int .i64 x.2.2.2.1, .slice a4 x.2.2.2.2.1.length c4, .int .i64 0] 38 (0, 0)) := heap_setCell_same _ (w.heap.size + 1 + 1) 7 _ _ (.slice a4 x.2.2.2.2.1.length c4) X2
  have k1 : ((w2.setCell ⟨w.heap.size + 1 + 1, 7, none⟩ (.slice a4 x.2.2.2.2.1.length c4)).setCell ⟨w.heap.size + 1 + 1, 8, none⟩ (.int .i64 x.2.2.2.2.2)).heap[w.heap.size + 1 + 1]? = some (.cells #[.int .i64 x.1, .int .i64 x.2.1.1, .int .i64 x.2.1.2.1, .int .i64 x.2.1.2.2.1, .int .i64 x.2.1.2.2.2, .int .i64 x.2.2.1, .int .i64 x.2.2.2.1, .slice a4 x.2.2.2.2.1.length c4, .int .i64 x.2.2.2.2.2] 38 (0, 0)) := heap_setCell_same _ (w.heap.size + 1 + 1) 8 _ _ (.int .i64 x.2.2.2.2.2) k0
  have V := put_event (y0 := .int .i64 x.1) (y1 := .int .i64 x.2.1.1) (y2 := .int .i64 x.2.1.2.1) (y3 := .int .i64 x.2.1.2.2.1) (y4 := .int .i64 x.2.1.2.2.2) (y5 := .int .i64 x.2.2.1) (y6 := .int .i64 x.2.2.2.1) (y7 := .slice a4 x.2.2.2.2.1.length c4) (y8 := .int .i64 x.2.2.2.2.2) (heap_setC (g := w.heap.size + 1 + 1) (o := 8) (v := .int .i64 x.2.2.2.2.2) (heap_setC (g := w.heap.size + 1 + 1) (o := 7) (v := .slice a4 x.2.2.2.2.1.length c4) X1 (by omega)) (by omega))
  obtain ⟨r0, r1, r2, r3, r4, r5, r6, r7, r8⟩ := cells_event V
  obtain ⟨i0, i2, i3, i5⟩ := HI.out
  refine bodyPost_ret (v := .agg #[.int .i64 x.1, .int .i64 x.2.1.1, .int .i64 x.2.1.2.1, .int .i64 x.2.1.2.2.1, .int .i64 x.2.1.2.2.2, .int .i64 x.2.2.1, .int .i64 x.2.2.2.1, .slice a4 x.2.2.2.2.1.length c4, .int .i64 x.2.2.2.2.2]) (by simp [results, Try.results13, go_sem, r0, r1, r2, r3, r4, r5, r6, r7, r8]) rfl ⟨[.int .i64 x.1, .int .i64 x.2.1.1, .int .i64 x.2.1.2.1, .int .i64 x.2.1.2.2.1, .int .i64 x.2.1.2.2.2, .int .i64 x.2.2.1, .int .i64 x.2.2.2.1, .slice a4 x.2.2.2.2.1.length c4, .int .i64 x.2.2.2.2.2], rfl, own_event (S1 := rng u0.heap.size w1.heap.size) (S4 := rng u1.heap.size w2.heap.size) i0 i2 i3 i5 ?_ ?_ (rng_sub (by omega) (by simp <;> omega)) (rng_sub (by omega) (by simp <;> omega)) (rng_dis (.inl (by omega))), ?_⟩
  · exact (own_setC (own_setC (own_setC (own_setC (own_setC (own_setC (own_setC (own_setC (own_setC (own_setC (own_setC O1 (fun h => by have := h.1; omega)) (fun h => by have := h.1; omega)) (fun h => by have := h.1; omega)) (fun h => by have := h.1; omega)) (fun h => by have := h.1; omega)) (fun h => by have := h.1; omega)) (fun h => by have := h.1; omega)) (fun h => by have := h.1; omega)) (fun h => by have := h.1; omega)) (fun h => by have := h.1; omega)) (fun h => by have := h.1; omega))
  · exact (own_setC (own_setC (own_setC (own_setC (own_setC (own_setC (own_setC (own_setC (own_setC (own_setC (own_setC O4 (fun h => by have := h.1; omega)) (fun h => by have := h.1; omega)) (fun h => by have := h.1; omega)) (fun h => by have := h.1; omega)) (fun h => by have := h.1; omega)) (fun h => by have := h.1; omega)) (fun h => by have := h.1; omega)) (fun h => by have := h.1; omega)) (fun h => by have := h.1; omega)) (fun h => by have := h.1; omega)) (fun h => by have := h.1; omega))
  · exact (below_setC (below_setC (below_setC (below_setC (below_setC (below_setC (below_setC (below_setC (below_setC (below_setC (below_setC B (by omega)) (by omega)) (by omega)) (by omega)) (by omega)) (by omega)) (by omega)) (by omega)) (by omega)) (by omega)) (by omega))
theorem event_shape {w : World} {cs : List Value} {x : EventD} (h : eventR.rd w cs x) : ∃ (a4 : Option Addr) (c4 : Nat), cs = [.int .i64 x.1, .int .i64 x.2.1.1, .int .i64 x.2.1.2.1, .int .i64 x.2.1.2.2.1, .int .i64 x.2.1.2.2.2, .int .i64 x.2.2.1, .int .i64 x.2.2.2.1, .slice a4 x.2.2.2.2.1.length c4, .int .i64 x.2.2.2.2.2] := by
  obtain ⟨v1, v2, v3, v4, v7, rfl, -, r1, -, -, r4, -⟩ := event_rd h
  obtain ⟨e1, -⟩ := op_rd4 r1
  simp only [List.cons.injEq, and_true] at e1
  obtain ⟨rfl, rfl, rfl, rfl⟩ := e1
  obtain ⟨a4, c4, e4, -⟩ := r4
  simp only [List.cons.injEq, and_true] at e4
  obtain rfl := e4
  exact ⟨a4, c4, rfl⟩
theorem opens_event : Opens Try.prog 35 eventR :=
  opens_struct Try.underlying35 (by kernel_rfl) (opensF_cons rfl (by kernel_rfl) opens_i64 (opensF_cons rfl (by kernel_rfl) opens_op (opensF_cons rfl (by kernel_rfl) opens_i64 (opensF_cons rfl (by kernel_rfl) opens_i64 (opensF_cons rfl (by kernel_rfl) opens_ints (opensF_one rfl (by kernel_rfl) opens_i64))))))
end Go.Proofs.Ytpfgggjcaogkkaa
