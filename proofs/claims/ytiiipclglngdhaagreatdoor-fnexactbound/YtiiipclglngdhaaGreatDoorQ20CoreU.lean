import Derived.Test.YtiiipclglngdhaaGreatDoorQ00Box
import Derived.Test.YtiiipclglngdhaaGreatDoorQ19Prog11
namespace Go.Proofs.YtiiipclglngdhaaGreatDoor
set_option maxHeartbeats 8000000
set_option maxRecDepth 20000
open Go.ChangeShapes Go.WideShapes Go.ChangeAt Go.RowKit
set_option linter.unusedVariables false
abbrev CoreD := CacheD × List OpD × Int × Int × WayD × List Int
abbrev coreR : Rep CoreD := prodR cacheR (prodR opsR (prodR intR (prodR intR (prodR wayR intsR))))
abbrev coreM : Mk CoreD := prodM cacheM (prodM opsM (prodM intM (prodM intM (prodM wayM intsM))))
theorem len1core {l : List Value} (h : l.length = 1) : ∃ a0, l = [a0] := by
 match l, h with
 | [a0], _ => exact ⟨a0, rfl⟩
theorem len2core {l : List Value} (h : l.length = 2) : ∃ a0 a1, l = [a0, a1] := by
 match l, h with
 | [a0, a1], _ => exact ⟨a0, a1, rfl⟩
theorem len3core {l : List Value} (h : l.length = 3) : ∃ a0 a1 a2, l = [a0, a1, a2] := by
 match l, h with
 | [a0, a1, a2], _ => exact ⟨a0, a1, a2, rfl⟩
theorem core_rd {w : World} {cs : List Value} {x : CoreD} (h : coreR.rd w cs x) : ∃ v0 v1 v2 v5 v6 v7 v8, cs = [v0, v1, v2, .int .i64 x.2.2.1, .int .i64 x.2.2.2.1, v5, v6, v7, v8] ∧ cacheR.rd w [v0, v1] x.1 ∧ opsR.rd w [v2] x.2.1 ∧ In64 x.2.2.1 ∧ In64 x.2.2.2.1 ∧ wayR.rd w [v5, v6, v7] x.2.2.2.2.1 ∧ intsR.rd w [v8] x.2.2.2.2.2 := by
 obtain ⟨c0, e0, rfl, h0, ⟨c1, e1, rfl, h1, ⟨c2, e2, rfl, ⟨rfl, i2⟩, ⟨c3, e3, rfl, ⟨rfl, i3⟩, ⟨c4, e4, rfl, h4, h5⟩⟩⟩⟩⟩ := h
 obtain ⟨v0, v1, rfl⟩ := len2core (cacheR.rd_len h0)
 obtain ⟨v2, rfl⟩ := len1core (opsR.rd_len h1)
 obtain ⟨v5, v6, v7, rfl⟩ := len3core (wayR.rd_len h4)
 obtain ⟨v8, rfl⟩ := len1core (intsR.rd_len h5)
 exact ⟨v0, v1, v2, v5, v6, v7, v8, rfl, h0, h1, i2, i3, h4, h5⟩
theorem cells_core {w : World} {g : Nat} {x0 x1 x2 x3 x4 x5 x6 x7 x8 : Value} {t : TypeId} (h : w.heap[g]? = some (.cells #[x0, x1, x2, x3, x4, x5, x6, x7, x8] t (0, 0))) : w.cell? ⟨g, 0, none⟩ = some x0 ∧ w.cell? ⟨g, 1, none⟩ = some x1 ∧ w.cell? ⟨g, 2, none⟩ = some x2 ∧ w.cell? ⟨g, 3, none⟩ = some x3 ∧ w.cell? ⟨g, 4, none⟩ = some x4 ∧ w.cell? ⟨g, 5, none⟩ = some x5 ∧ w.cell? ⟨g, 6, none⟩ = some x6 ∧ w.cell? ⟨g, 7, none⟩ = some x7 ∧ w.cell? ⟨g, 8, none⟩ = some x8 :=
 ⟨by rw [cell_of_row w g 0 _ t (0, 0) h]; rfl, by rw [cell_of_row w g 1 _ t (0, 0) h]; rfl, by rw [cell_of_row w g 2 _ t (0, 0) h]; rfl, by rw [cell_of_row w g 3 _ t (0, 0) h]; rfl, by rw [cell_of_row w g 4 _ t (0, 0) h]; rfl, by rw [cell_of_row w g 5 _ t (0, 0) h]; rfl, by rw [cell_of_row w g 6 _ t (0, 0) h]; rfl, by rw [cell_of_row w g 7 _ t (0, 0) h]; rfl, by rw [cell_of_row w g 8 _ t (0, 0) h]; rfl⟩
theorem szCore_u : SzC 37 coreR coreM aggV := by
 intro cs x left w h h0 h1
 obtain ⟨v0, v1, v2, v5, v6, v7, v8, rfl, r0, r1, -, -, r4, r5⟩ := core_rd h
 clear h
 rw [show coreM.bk x = cacheM.bk x.1 + (opsM.bk x.2.1 + (0 + (0 + (wayM.bk x.2.2.2.2.1 + intsM.bk x.2.2.2.2.2)))) from rfl]
 change Calls Tryz.prog 37 #[.agg #[v0, v1, v2, .int .i64 x.2.2.1, .int .i64 x.2.2.2.1, v5, v6, v7, v8], .int .i64 left] w _
 have C0 : Hid (∀ L W, Below w.heap.size w W → 0 ≤ L → L ≤ 1048576 → Calls Tryz.prog 74 #[.agg #[v0, v1], .int .i64 L] W fun e w' => e = .returned (.int .i64 (szI (cacheM.bk x.1) L)) ∧ Below W.heap.size W w') := fun L W hb a b => szCache_u [v0, v1] _ L W (rd_next r0 hb) a b
 have C1 : Hid (∀ L W, Below w.heap.size w W → 0 ≤ L → L ≤ 1048576 → Calls Tryz.prog 75 #[v2, .int .i64 L] W fun e w' => e = .returned (.int .i64 (szI (opsM.bk x.2.1) L)) ∧ Below W.heap.size W w') := fun L W hb a b => szOps_u [v2] _ L W (rd_next r1 hb) a b
 have C4 : Hid (∀ L W, Below w.heap.size w W → 0 ≤ L → L ≤ 1048576 → Calls Tryz.prog 76 #[.agg #[v5, v6, v7], .int .i64 L] W fun e w' => e = .returned (.int .i64 (szI (wayM.bk x.2.2.2.2.1) L)) ∧ Below W.heap.size W w') := fun L W hb a b => szWay_u [v5, v6, v7] _ L W (rd_next r4 hb) a b
 have C5 : Hid (∀ L W, Below w.heap.size w W → 0 ≤ L → L ≤ 1048576 → Calls Tryz.prog 72 #[v8, .int .i64 L] W fun e w' => e = .returned (.int .i64 (szI (intsM.bk x.2.2.2.2.2) L)) ∧ Below W.heap.size W w') := fun L W hb a b => szInts_u [v8] _ L W (rd_next r5 hb) a b
 clear r0 r1 r4 r5
 generalize cacheM.bk x.1 = n0 at C0 ⊢
 generalize opsM.bk x.2.1 = n1 at C1 ⊢
 generalize wayM.bk x.2.2.2.2.1 = n4 at C4 ⊢
 generalize intsM.bk x.2.2.2.2.2 = n5 at C5 ⊢
 go_enter Tryz.func37, Tryz.ntmps37
 go_wp2_with fail
 generalize hW0 : w.alloc _ = W0
 have X := boxH hW0
 have B := boxB hW0
 clear hW0
 refine (C0.out (left) _ B (by omega) (by omega)).mono ?_
 rintro e w1 ⟨rfl, bq⟩
 replace X := row_keep bq X
 replace B := below_step B bq
 clear bq C0
 by_cases l0 : (n0 : Int) ≤ left
 ·rw [szI_yes l0]
  have g0 : ¬ (left - (n0 : Int) < 0) := by omega
  obtain ⟨y0, y1, y2, y3, y4, y5, y6, y7, y8⟩ := cells_core X
  go_wp2_with fail
  clear y0 y1 y2 y3 y4 y5 y6 y7 y8
  refine (C1.out (left - (n0 : Int)) _ B (by omega) (by omega)).mono ?_
  rintro e w2 ⟨rfl, bq⟩
  replace X := row_keep bq X
  replace B := below_step B bq
  clear bq C1
  by_cases l1 : (n1 : Int) ≤ left - (n0 : Int)
  ·rw [szI_yes l1]
   have g1 : ¬ (left - (n0 : Int) - (n1 : Int) < 0) := by omega
   obtain ⟨y0, y1, y2, y3, y4, y5, y6, y7, y8⟩ := cells_core X
   go_wp2_with fail
   clear y0 y1 y2 y3 y4 y5 y6 y7 y8
   refine (C4.out (left - (n0 : Int) - (n1 : Int)) _ B (by omega) (by omega)).mono ?_
   rintro e w3 ⟨rfl, bq⟩
   replace X := row_keep bq X
   replace B := below_step B bq
   clear bq C4
   by_cases l4 : (n4 : Int) ≤ left - (n0 : Int) - (n1 : Int)
   ·rw [szI_yes l4]
    have g4 : ¬ (left - (n0 : Int) - (n1 : Int) - (n4 : Int) < 0) := by omega
    obtain ⟨y0, y1, y2, y3, y4, y5, y6, y7, y8⟩ := cells_core X
    go_wp2_with fail
    clear y0 y1 y2 y3 y4 y5 y6 y7 y8
    refine (C5.out (left - (n0 : Int) - (n1 : Int) - (n4 : Int)) _ B (by omega) (by omega)).mono ?_
    rintro e w4 ⟨rfl, bq⟩
    replace X := row_keep bq X
    replace B := below_step B bq
    clear bq C5
    by_cases l5 : (n5 : Int) ≤ left - (n0 : Int) - (n1 : Int) - (n4 : Int)
    ·rw [szI_yes l5]
     have g5 : ¬ (left - (n0 : Int) - (n1 : Int) - (n4 : Int) - (n5 : Int) < 0) := by omega
     obtain ⟨y0, y1, y2, y3, y4, y5, y6, y7, y8⟩ := cells_core X
     clear y0 y1 y2 y3 y4 y5 y6 y7 y8 X
     go_wp2
     go_ret
     exact ⟨ret_int (by rw [szI_yes (by omega)]; omega), B⟩
    ·rw [szI_no l5]
     clear X
     go_wp2
     go_ret
     exact ⟨ret_int (szI_no (by omega)).symm, B⟩
   ·rw [szI_no l4]
    clear X
    go_wp2
    go_ret
    exact ⟨ret_int (szI_no (by omega)).symm, B⟩
  ·rw [szI_no l1]
   clear X
   go_wp2
   go_ret
   exact ⟨ret_int (szI_no (by omega)).symm, B⟩
 ·rw [szI_no l0]
  clear X
  go_wp2
  go_ret
  exact ⟨ret_int (szI_no (by omega)).symm, B⟩
theorem eqCore_u : EqC 68 coreR coreM aggV := by
 intro cs ds x w h k hm
 obtain ⟨v0, v1, v2, v5, v6, v7, v8, rfl, r0, r1, -, -, r4, r5⟩ := core_rd h
 obtain ⟨u0, u1, u2, u5, u6, u7, u8, rfl, s0, s1, -, -, s4, s5⟩ := core_rd k
 clear h k
 rw [show coreM.bk x = cacheM.bk x.1 + (opsM.bk x.2.1 + (0 + (0 + (wayM.bk x.2.2.2.2.1 + intsM.bk x.2.2.2.2.2)))) from rfl] at hm
 change Calls Tryz.prog 68 #[.agg #[v0, v1, v2, .int .i64 x.2.2.1, .int .i64 x.2.2.2.1, v5, v6, v7, v8], .agg #[u0, u1, u2, .int .i64 x.2.2.1, .int .i64 x.2.2.2.1, u5, u6, u7, u8]] w _
 have C0 : Hid (∀ W, Below w.heap.size w W → Calls Tryz.prog 114 #[.agg #[v0, v1], .agg #[u0, u1]] W fun e w' => e = .returned (.bool true) ∧ Below W.heap.size W w') := fun W hb => eqCache_u [v0, v1] [u0, u1] _ W (rd_next r0 hb) (rd_next s0 hb) (by omega)
 have C1 : Hid (∀ W, Below w.heap.size w W → Calls Tryz.prog 115 #[v2, u2] W fun e w' => e = .returned (.bool true) ∧ Below W.heap.size W w') := fun W hb => eqOps_u [v2] [u2] _ W (rd_next r1 hb) (rd_next s1 hb) (by omega)
 have C4 : Hid (∀ W, Below w.heap.size w W → Calls Tryz.prog 116 #[.agg #[v5, v6, v7], .agg #[u5, u6, u7]] W fun e w' => e = .returned (.bool true) ∧ Below W.heap.size W w') := fun W hb => eqWay_u [v5, v6, v7] [u5, u6, u7] _ W (rd_next r4 hb) (rd_next s4 hb) (by omega)
 have C5 : Hid (∀ W, Below w.heap.size w W → Calls Tryz.prog 112 #[v8, u8] W fun e w' => e = .returned (.bool true) ∧ Below W.heap.size W w') := fun W hb => eqInts_u [v8] [u8] _ W (rd_next r5 hb) (rd_next s5 hb) (by omega)
 clear hm r0 s0 r1 s1 r4 s4 r5 s5
 have X := heap_on (.cells #[u0, u1, u2, .int .i64 x.2.2.1, .int .i64 x.2.2.2.1, u5, u6, u7, u8] 80) (heap_at w (.cells #[v0, v1, v2, .int .i64 x.2.2.1, .int .i64 x.2.2.2.1, v5, v6, v7, v8] 80))
 have Y := heap_at (w.alloc (.cells #[v0, v1, v2, .int .i64 x.2.2.1, .int .i64 x.2.2.2.1, v5, v6, v7, v8] 80)) (.cells #[u0, u1, u2, .int .i64 x.2.2.1, .int .i64 x.2.2.2.1, u5, u6, u7, u8] 80)
 rw [alloc_len] at Y
 have B := below_step (box_below w (.cells #[v0, v1, v2, .int .i64 x.2.2.1, .int .i64 x.2.2.2.1, v5, v6, v7, v8] 80)) (box_below _ (.cells #[u0, u1, u2, .int .i64 x.2.2.1, .int .i64 x.2.2.2.1, u5, u6, u7, u8] 80))
 go_enter Tryz.func68, Tryz.ntmps68
 go_wp2_with fail
 generalize (w.alloc (.cells #[v0, v1, v2, .int .i64 x.2.2.1, .int .i64 x.2.2.2.1, v5, v6, v7, v8] 80)).alloc (.cells #[u0, u1, u2, .int .i64 x.2.2.1, .int .i64 x.2.2.2.1, u5, u6, u7, u8] 80) = W0 at X Y B ⊢
 refine (C0.out _ B).mono ?_
 rintro e w1 ⟨rfl, bq⟩
 replace X := row_keep bq X
 replace Y := row_keep bq Y
 replace B := below_step B bq
 clear bq C0
 obtain ⟨y0, y1, y2, y3, y4, y5, y6, y7, y8⟩ := cells_core X
 obtain ⟨z0, z1, z2, z3, z4, z5, z6, z7, z8⟩ := cells_core Y
 go_wp2_with fail
 clear y0 y1 y2 y3 y4 y5 y6 y7 y8 z0 z1 z2 z3 z4 z5 z6 z7 z8
 refine (C1.out _ B).mono ?_
 rintro e w2 ⟨rfl, bq⟩
 replace X := row_keep bq X
 replace Y := row_keep bq Y
 replace B := below_step B bq
 clear bq C1
 obtain ⟨y0, y1, y2, y3, y4, y5, y6, y7, y8⟩ := cells_core X
 obtain ⟨z0, z1, z2, z3, z4, z5, z6, z7, z8⟩ := cells_core Y
 go_wp2_with fail
 clear y0 y1 y2 y3 y4 y5 y6 y7 y8 z0 z1 z2 z3 z4 z5 z6 z7 z8
 refine (C4.out _ B).mono ?_
 rintro e w3 ⟨rfl, bq⟩
 replace X := row_keep bq X
 replace Y := row_keep bq Y
 replace B := below_step B bq
 clear bq C4
 obtain ⟨y0, y1, y2, y3, y4, y5, y6, y7, y8⟩ := cells_core X
 obtain ⟨z0, z1, z2, z3, z4, z5, z6, z7, z8⟩ := cells_core Y
 go_wp2_with fail
 clear y0 y1 y2 y3 y4 y5 y6 y7 y8 z0 z1 z2 z3 z4 z5 z6 z7 z8
 refine (C5.out _ B).mono ?_
 rintro e w4 ⟨rfl, bq⟩
 replace X := row_keep bq X
 replace Y := row_keep bq Y
 replace B := below_step B bq
 clear bq C5
 obtain ⟨y0, y1, y2, y3, y4, y5, y6, y7, y8⟩ := cells_core X
 obtain ⟨z0, z1, z2, z3, z4, z5, z6, z7, z8⟩ := cells_core Y
 clear X Y
 go_wp2
 go_ret
 exact ⟨rfl, B⟩
theorem own_core {w : World} {S S0 S1 S4 S5 : Foot} {v0 v1 v2 v5 v6 v7 v8 : Value} {x : CoreD} (i2 : In64 x.2.2.1) (i3 : In64 x.2.2.2.1) (h0 : cacheR.own w S0 [v0, v1] x.1) (h1 : opsR.own w S1 [v2] x.2.1) (h4 : wayR.own w S4 [v5, v6, v7] x.2.2.2.2.1) (h5 : intsR.own w S5 [v8] x.2.2.2.2.2) (s0 : Sub S0 S) (s1 : Sub S1 S) (s4 : Sub S4 S) (s5 : Sub S5 S) (d01 : Dis S0 S1) (d04 : Dis S0 S4) (d05 : Dis S0 S5) (d14 : Dis S1 S4) (d15 : Dis S1 S5) (d45 : Dis S4 S5) : coreR.own w S [v0, v1, v2, .int .i64 x.2.2.1, .int .i64 x.2.2.2.1, v5, v6, v7, v8] x := by
 exact ⟨[v0, v1], [v2, .int .i64 x.2.2.1, .int .i64 x.2.2.2.1, v5, v6, v7, v8], S0, (fun q => S1 q ∨ (fun q => (fun _ => False) q ∨ (fun q => (fun _ => False) q ∨ (fun q => S4 q ∨ S5 q) q) q) q), rfl, h0, ⟨[v2], [.int .i64 x.2.2.1, .int .i64 x.2.2.2.1, v5, v6, v7, v8], S1, (fun q => (fun _ => False) q ∨ (fun q => (fun _ => False) q ∨ (fun q => S4 q ∨ S5 q) q) q), rfl, h1, ⟨[.int .i64 x.2.2.1], [.int .i64 x.2.2.2.1, v5, v6, v7, v8], (fun _ => False), (fun q => (fun _ => False) q ∨ (fun q => S4 q ∨ S5 q) q), rfl, ⟨rfl, i2⟩, ⟨[.int .i64 x.2.2.2.1], [v5, v6, v7, v8], (fun _ => False), (fun q => S4 q ∨ S5 q), rfl, ⟨rfl, i3⟩, ⟨[v5, v6, v7], [v8], S4, S5, rfl, h4, h5, (fun q h => .inl h), (fun q h => .inr h), (fun q a h => d45 q a h)⟩, (fun q h => .inl h), (fun q h => .inr h), (fun _ h _ => h.elim)⟩, (fun q h => .inl h), (fun q h => .inr h), (fun _ h _ => h.elim)⟩, (fun q h => .inl h), (fun q h => .inr h), (fun q a h => h.elim (fun ha => ha.elim) (fun hb => hb.elim (fun hba => hba.elim) (fun hbb => hbb.elim (fun hbba => d14 q a hbba) (fun hbbb => d15 q a hbbb))))⟩, s0, (fun q h => h.elim (fun ha => s1 q ha) (fun hb => hb.elim (fun hba => hba.elim) (fun hbb => hbb.elim (fun hbba => hbba.elim) (fun hbbb => hbbb.elim (fun hbbba => s4 q hbbba) (fun hbbbb => s5 q hbbbb))))), (fun q a h => h.elim (fun ha => d01 q a ha) (fun hb => hb.elim (fun hba => hba.elim) (fun hbb => hbb.elim (fun hbba => hbba.elim) (fun hbbb => hbbb.elim (fun hbbba => d04 q a hbbba) (fun hbbbb => d05 q a hbbbb)))))⟩
theorem froz_core {w : World} {g : Nat} {cs : Array Value} {t : TypeId} (h : w.heap[g]? = some (.cells cs t (0, 0))) : w.frozen? ⟨g, 0, none⟩ = false ∧ w.frozen? ⟨g, 1, none⟩ = false ∧ w.frozen? ⟨g, 2, none⟩ = false ∧ w.frozen? ⟨g, 3, none⟩ = false ∧ w.frozen? ⟨g, 4, none⟩ = false ∧ w.frozen? ⟨g, 5, none⟩ = false ∧ w.frozen? ⟨g, 6, none⟩ = false ∧ w.frozen? ⟨g, 7, none⟩ = false ∧ w.frozen? ⟨g, 8, none⟩ = false :=
 ⟨frozen_of_row w g 0 _ t h, frozen_of_row w g 1 _ t h, frozen_of_row w g 2 _ t h, frozen_of_row w g 3 _ t h, frozen_of_row w g 4 _ t h, frozen_of_row w g 5 _ t h, frozen_of_row w g 6 _ t h, frozen_of_row w g 7 _ t h, frozen_of_row w g 8 _ t h⟩
theorem put_core {w : World} {g : Nat} {x0 x1 x2 x3 x4 x5 x6 x7 x8 y0 y1 y2 y3 y4 y5 y6 y7 y8 : Value} {t : TypeId} (h : w.heap[g]? = some (.cells #[x0, x1, x2, x3, x4, x5, x6, x7, x8] t (0, 0))) : (((((((((w.setCell ⟨g, 0, none⟩ (y0)).setCell ⟨g, 1, none⟩ (y1)).setCell ⟨g, 2, none⟩ (y2)).setCell ⟨g, 3, none⟩ (y3)).setCell ⟨g, 4, none⟩ (y4)).setCell ⟨g, 5, none⟩ (y5)).setCell ⟨g, 6, none⟩ (y6)).setCell ⟨g, 7, none⟩ (y7)).setCell ⟨g, 8, none⟩ (y8)).heap[g]? = some (.cells #[y0, y1, y2, y3, y4, y5, y6, y7, y8] t (0, 0)) := by
 have h0 : (w.setCell ⟨g, 0, none⟩ (y0)).heap[g]? = some (.cells #[y0, x1, x2, x3, x4, x5, x6, x7, x8] t (0, 0)) := heap_setCell_same _ g 0 _ t y0 h
 have h1 : ((w.setCell ⟨g, 0, none⟩ (y0)).setCell ⟨g, 1, none⟩ (y1)).heap[g]? = some (.cells #[y0, y1, x2, x3, x4, x5, x6, x7, x8] t (0, 0)) := heap_setCell_same _ g 1 _ t y1 h0
 have h2 : (((w.setCell ⟨g, 0, none⟩ (y0)).setCell ⟨g, 1, none⟩ (y1)).setCell ⟨g, 2, none⟩ (y2)).heap[g]? = some (.cells #[y0, y1, y2, x3, x4, x5, x6, x7, x8] t (0, 0)) := heap_setCell_same _ g 2 _ t y2 h1
 have h3 : ((((w.setCell ⟨g, 0, none⟩ (y0)).setCell ⟨g, 1, none⟩ (y1)).setCell ⟨g, 2, none⟩ (y2)).setCell ⟨g, 3, none⟩ (y3)).heap[g]? = some (.cells #[y0, y1, y2, y3, x4, x5, x6, x7, x8] t (0, 0)) := heap_setCell_same _ g 3 _ t y3 h2
 have h4 : (((((w.setCell ⟨g, 0, none⟩ (y0)).setCell ⟨g, 1, none⟩ (y1)).setCell ⟨g, 2, none⟩ (y2)).setCell ⟨g, 3, none⟩ (y3)).setCell ⟨g, 4, none⟩ (y4)).heap[g]? = some (.cells #[y0, y1, y2, y3, y4, x5, x6, x7, x8] t (0, 0)) := heap_setCell_same _ g 4 _ t y4 h3
 have h5 : ((((((w.setCell ⟨g, 0, none⟩ (y0)).setCell ⟨g, 1, none⟩ (y1)).setCell ⟨g, 2, none⟩ (y2)).setCell ⟨g, 3, none⟩ (y3)).setCell ⟨g, 4, none⟩ (y4)).setCell ⟨g, 5, none⟩ (y5)).heap[g]? = some (.cells #[y0, y1, y2, y3, y4, y5, x6, x7, x8] t (0, 0)) := heap_setCell_same _ g 5 _ t y5 h4
 have h6 : (((((((w.setCell ⟨g, 0, none⟩ (y0)).setCell ⟨g, 1, none⟩ (y1)).setCell ⟨g, 2, none⟩ (y2)).setCell ⟨g, 3, none⟩ (y3)).setCell ⟨g, 4, none⟩ (y4)).setCell ⟨g, 5, none⟩ (y5)).setCell ⟨g, 6, none⟩ (y6)).heap[g]? = some (.cells #[y0, y1, y2, y3, y4, y5, y6, x7, x8] t (0, 0)) := heap_setCell_same _ g 6 _ t y6 h5
 have h7 : ((((((((w.setCell ⟨g, 0, none⟩ (y0)).setCell ⟨g, 1, none⟩ (y1)).setCell ⟨g, 2, none⟩ (y2)).setCell ⟨g, 3, none⟩ (y3)).setCell ⟨g, 4, none⟩ (y4)).setCell ⟨g, 5, none⟩ (y5)).setCell ⟨g, 6, none⟩ (y6)).setCell ⟨g, 7, none⟩ (y7)).heap[g]? = some (.cells #[y0, y1, y2, y3, y4, y5, y6, y7, x8] t (0, 0)) := heap_setCell_same _ g 7 _ t y7 h6
 have h8 : (((((((((w.setCell ⟨g, 0, none⟩ (y0)).setCell ⟨g, 1, none⟩ (y1)).setCell ⟨g, 2, none⟩ (y2)).setCell ⟨g, 3, none⟩ (y3)).setCell ⟨g, 4, none⟩ (y4)).setCell ⟨g, 5, none⟩ (y5)).setCell ⟨g, 6, none⟩ (y6)).setCell ⟨g, 7, none⟩ (y7)).setCell ⟨g, 8, none⟩ (y8)).heap[g]? = some (.cells #[y0, y1, y2, y3, y4, y5, y6, y7, y8] t (0, 0)) := heap_setCell_same _ g 8 _ t y8 h7
 exact h8
theorem toCore_u : ToC 52 coreR coreM aggV := by
 intro cs x w h hm
 obtain ⟨v0, v1, v2, v5, v6, v7, v8, rfl, r0, r1, i2, i3, r4, r5⟩ := core_rd h
 clear h
 rw [show coreM.bk x = cacheM.bk x.1 + (opsM.bk x.2.1 + (0 + (0 + (wayM.bk x.2.2.2.2.1 + intsM.bk x.2.2.2.2.2)))) from rfl] at hm
 change Calls Tryz.prog 52 #[.agg #[v0, v1, v2, .int .i64 x.2.2.1, .int .i64 x.2.2.2.1, v5, v6, v7, v8]] w _
 have C0 : Hid (∀ W, Below w.heap.size w W → Calls Tryz.prog 93 #[.agg #[v0, v1]] W fun e w' => ∃ a0 c0 b0 d0, e = .returned (.agg #[.slice a0 x.1.1.length c0, .slice b0 x.1.2.length d0]) ∧ MadeR cacheR W w' [.slice a0 x.1.1.length c0, .slice b0 x.1.2.length d0] x.1) := fun W hb => (toCache_u [v0, v1] _ W (rd_next r0 hb) (by omega)).mono (by rintro e w' ⟨ds, rfl, mm⟩; obtain ⟨a0, c0, b0, d0, rfl, -⟩ := cache_rd (cacheR.own_rd mm.1); exact ⟨a0, c0, b0, d0, rfl, mm⟩)
 have C1 : Hid (∀ W, Below w.heap.size w W → Calls Tryz.prog 94 #[v2] W fun e w' => ∃ a1 c1, e = .returned (.slice a1 x.2.1.length c1) ∧ MadeR opsR W w' [.slice a1 x.2.1.length c1] x.2.1) := fun W hb => (toOps_u [v2] _ W (rd_next r1 hb) (by omega)).mono (by rintro e w' ⟨ds, rfl, mm⟩; obtain ⟨a1, c1, rfl, -⟩ := opsR.own_rd mm.1; exact ⟨a1, c1, rfl, mm⟩)
 have C4 : Hid (∀ W, Below w.heap.size w W → Calls Tryz.prog 95 #[.agg #[v5, v6, v7]] W fun e w' => ∃ a4 c4, e = .returned (.agg #[.int .i64 x.2.2.2.2.1.1, .int .i64 x.2.2.2.2.1.2.1, .slice a4 x.2.2.2.2.1.2.2.length c4]) ∧ MadeR wayR W w' [.int .i64 x.2.2.2.2.1.1, .int .i64 x.2.2.2.2.1.2.1, .slice a4 x.2.2.2.2.1.2.2.length c4] x.2.2.2.2.1) := fun W hb => (toWay_u [v5, v6, v7] _ W (rd_next r4 hb) (by omega)).mono (by rintro e w' ⟨ds, rfl, mm⟩; obtain ⟨a4, c4, rfl, -⟩ := way_rd (wayR.own_rd mm.1); exact ⟨a4, c4, rfl, mm⟩)
 have C5 : Hid (∀ W, Below w.heap.size w W → Calls Tryz.prog 91 #[v8] W fun e w' => ∃ a5 c5, e = .returned (.slice a5 x.2.2.2.2.2.length c5) ∧ MadeR intsR W w' [.slice a5 x.2.2.2.2.2.length c5] x.2.2.2.2.2) := fun W hb => (toInts_u [v8] _ W (rd_next r5 hb) (by omega)).mono (by rintro e w' ⟨ds, rfl, mm⟩; obtain ⟨a5, c5, rfl, -⟩ := intsR.own_rd mm.1; exact ⟨a5, c5, rfl, mm⟩)
 clear hm r0 r1 r4 r5
 have HI : Hid _ := And.intro i2 (i3)
 clear i2 i3
 have X0 := heap_on (.cells #[.slice none 0 0, .slice none 0 0, .slice none 0 0, .int .i64 0, .int .i64 0, .int .i64 0, .int .i64 0, .slice none 0 0, .slice none 0 0] 80) (heap_on (.cells #[.slice none 0 0, .slice none 0 0, .slice none 0 0, .int .i64 0, .int .i64 0, .int .i64 0, .int .i64 0, .slice none 0 0, .slice none 0 0] 80) (heap_at w (.cells #[v0, v1, v2, .int .i64 x.2.2.1, .int .i64 x.2.2.2.1, v5, v6, v7, v8] 93)))
 have X1 := heap_on (.cells #[.slice none 0 0, .slice none 0 0, .slice none 0 0, .int .i64 0, .int .i64 0, .int .i64 0, .int .i64 0, .slice none 0 0, .slice none 0 0] 80) (heap_at (w.alloc (.cells #[v0, v1, v2, .int .i64 x.2.2.1, .int .i64 x.2.2.2.1, v5, v6, v7, v8] 93)) (.cells #[.slice none 0 0, .slice none 0 0, .slice none 0 0, .int .i64 0, .int .i64 0, .int .i64 0, .int .i64 0, .slice none 0 0, .slice none 0 0] 80))
 have X2 := heap_at ((w.alloc (.cells #[v0, v1, v2, .int .i64 x.2.2.1, .int .i64 x.2.2.2.1, v5, v6, v7, v8] 93)).alloc (.cells #[.slice none 0 0, .slice none 0 0, .slice none 0 0, .int .i64 0, .int .i64 0, .int .i64 0, .int .i64 0, .slice none 0 0, .slice none 0 0] 80)) (.cells #[.slice none 0 0, .slice none 0 0, .slice none 0 0, .int .i64 0, .int .i64 0, .int .i64 0, .int .i64 0, .slice none 0 0, .slice none 0 0] 80)
 rw [alloc_len] at X1
 rw [alloc_len, alloc_len] at X2
 have B : Below w.heap.size w (((w.alloc (.cells #[v0, v1, v2, .int .i64 x.2.2.1, .int .i64 x.2.2.2.1, v5, v6, v7, v8] 93)).alloc (.cells #[.slice none 0 0, .slice none 0 0, .slice none 0 0, .int .i64 0, .int .i64 0, .int .i64 0, .int .i64 0, .slice none 0 0, .slice none 0 0] 80)).alloc (.cells #[.slice none 0 0, .slice none 0 0, .slice none 0 0, .int .i64 0, .int .i64 0, .int .i64 0, .int .i64 0, .slice none 0 0, .slice none 0 0] 80)) := (((Below.refl _ w).alloc (Nat.le_refl _) _).alloc (by simp) _).alloc (by simp; omega) _
 have e3 : w.heap.size + 1 + 1 + 1 ≤ (((w.alloc (.cells #[v0, v1, v2, .int .i64 x.2.2.1, .int .i64 x.2.2.2.1, v5, v6, v7, v8] 93)).alloc (.cells #[.slice none 0 0, .slice none 0 0, .slice none 0 0, .int .i64 0, .int .i64 0, .int .i64 0, .int .i64 0, .slice none 0 0, .slice none 0 0] 80)).alloc (.cells #[.slice none 0 0, .slice none 0 0, .slice none 0 0, .int .i64 0, .int .i64 0, .int .i64 0, .int .i64 0, .slice none 0 0, .slice none 0 0] 80)).heap.size := by simp
 go_enter Tryz.func52, Tryz.ntmps52
 go_wp2_with fail
 generalize ((w.alloc (.cells #[v0, v1, v2, .int .i64 x.2.2.1, .int .i64 x.2.2.2.1, v5, v6, v7, v8] 93)).alloc (.cells #[.slice none 0 0, .slice none 0 0, .slice none 0 0, .int .i64 0, .int .i64 0, .int .i64 0, .int .i64 0, .slice none 0 0, .slice none 0 0] 80)).alloc (.cells #[.slice none 0 0, .slice none 0 0, .slice none 0 0, .int .i64 0, .int .i64 0, .int .i64 0, .int .i64 0, .slice none 0 0, .slice none 0 0] 80) = u0 at X0 X1 X2 B e3 ⊢
 refine (C0.out _ B).mono ?_
 rintro e w1 ⟨a0, c0, b0, d0, rfl, mm⟩
 have hs0 := mm.2.size
 replace B := below_step B mm.2
 replace X0 := row_keep mm.2 X0
 replace X1 := row_keep mm.2 X1
 replace X2 := row_keep mm.2 X2
 have O0 := mm.1
 clear mm C0
 obtain ⟨p0, p1, p2, p3, p4, p5, p6, p7, p8⟩ := cells_core X0
 obtain ⟨y0, y1, y2, y3, y4, y5, y6, y7, y8⟩ := cells_core X2
 obtain ⟨f0, f1, f2, f3, f4, f5, f6, f7, f8⟩ := froz_core X2
 have HS : Hid _ := And.intro X0 (And.intro X1 (And.intro X2 (And.intro B (O0))))
 clear X0 X1 X2 B O0
 go_wp2_with fail
 clear p0 p1 p2 p3 p4 p5 p6 p7 p8 y0 y1 y2 y3 y4 y5 y6 y7 y8 f0 f1 f2 f3 f4 f5 f6 f7 f8
 obtain ⟨X0, X1, X2, B, O0⟩ := HS.out
 clear HS
 have k0 : (w1.setCell ⟨w.heap.size + 1 + 1, 0, none⟩ (.slice a0 x.1.1.length c0)).heap[w.heap.size + 1 + 1]? = some (.cells #[.slice a0 x.1.1.length c0, .slice none 0 0, .slice none 0 0, .int .i64 0, .int .i64 0, .int .i64 0, .int .i64 0, .slice none 0 0, .slice none 0 0] 80 (0, 0)) := heap_setCell_same _ (w.heap.size + 1 + 1) 0 _ _ (.slice a0 x.1.1.length c0) X2
 have k1 : ((w1.setCell ⟨w.heap.size + 1 + 1, 0, none⟩ (.slice a0 x.1.1.length c0)).setCell ⟨w.heap.size + 1 + 1, 1, none⟩ (.slice b0 x.1.2.length d0)).heap[w.heap.size + 1 + 1]? = some (.cells #[.slice a0 x.1.1.length c0, .slice b0 x.1.2.length d0, .slice none 0 0, .int .i64 0, .int .i64 0, .int .i64 0, .int .i64 0, .slice none 0 0, .slice none 0 0] 80 (0, 0)) := heap_setCell_same _ (w.heap.size + 1 + 1) 1 _ _ (.slice b0 x.1.2.length d0) k0
 have qn0 := (heap_setC (g := w.heap.size + 1 + 1) (o := 1) (v := .slice b0 x.1.2.length d0) (heap_setC (g := w.heap.size + 1 + 1) (o := 0) (v := .slice a0 x.1.1.length c0) X0 (by omega)) (by omega))
 have qn1 := (heap_setC (g := w.heap.size + 1 + 1) (o := 1) (v := .slice b0 x.1.2.length d0) (heap_setC (g := w.heap.size + 1 + 1) (o := 0) (v := .slice a0 x.1.1.length c0) X1 (by omega)) (by omega))
 have qb1 : Below w.heap.size w ((w1.setCell ⟨w.heap.size + 1 + 1, 0, none⟩ (.slice a0 x.1.1.length c0)).setCell ⟨w.heap.size + 1 + 1, 1, none⟩ (.slice b0 x.1.2.length d0)) := (below_setC (below_setC B (by omega)) (by omega))
 have qo0 : cacheR.own ((w1.setCell ⟨w.heap.size + 1 + 1, 0, none⟩ (.slice a0 x.1.1.length c0)).setCell ⟨w.heap.size + 1 + 1, 1, none⟩ (.slice b0 x.1.2.length d0)) _ _ _ := (own_setC (own_setC O0 (fun h => by have := h.1; omega)) (fun h => by have := h.1; omega))
 have qz1 : w1.heap.size ≤ ((w1.setCell ⟨w.heap.size + 1 + 1, 0, none⟩ (.slice a0 x.1.1.length c0)).setCell ⟨w.heap.size + 1 + 1, 1, none⟩ (.slice b0 x.1.2.length d0)).heap.size := by simp
 have qz2 : ((w1.setCell ⟨w.heap.size + 1 + 1, 0, none⟩ (.slice a0 x.1.1.length c0)).setCell ⟨w.heap.size + 1 + 1, 1, none⟩ (.slice b0 x.1.2.length d0)).heap.size ≤ w1.heap.size := by simp
 clear X0 X1 X2 B O0 k0
 generalize ((w1.setCell ⟨w.heap.size + 1 + 1, 0, none⟩ (.slice a0 x.1.1.length c0)).setCell ⟨w.heap.size + 1 + 1, 1, none⟩ (.slice b0 x.1.2.length d0)) = u1 at qn0 qn1 k1 qb1 qz1 qz2 qo0 ⊢
 have X0 := qn0
 have X1 := qn1
 have X2 := k1
 have B := qb1
 have O0 := qo0
 have za0 := qz1
 have zb0 := qz2
 clear qn0 qn1 k1 qb1 qz1 qz2 qo0
 refine (C1.out _ B).mono ?_
 rintro e w2 ⟨a1, c1, rfl, mm⟩
 have hs1 := mm.2.size
 replace B := below_step B mm.2
 replace X0 := row_keep mm.2 X0
 replace X1 := row_keep mm.2 X1
 replace X2 := row_keep mm.2 X2
 replace O0 := own_stay O0 mm.2 (by omega)
 have O1 := mm.1
 clear mm C1
 obtain ⟨p0, p1, p2, p3, p4, p5, p6, p7, p8⟩ := cells_core X0
 obtain ⟨y0, y1, y2, y3, y4, y5, y6, y7, y8⟩ := cells_core X2
 obtain ⟨f0, f1, f2, f3, f4, f5, f6, f7, f8⟩ := froz_core X2
 have HS : Hid _ := And.intro X0 (And.intro X1 (And.intro X2 (And.intro B (And.intro O0 (O1)))))
 clear X0 X1 X2 B O0 O1
 go_wp2_with fail
 clear p0 p1 p2 p3 p4 p5 p6 p7 p8 y0 y1 y2 y3 y4 y5 y6 y7 y8 f0 f1 f2 f3 f4 f5 f6 f7 f8
 obtain ⟨X0, X1, X2, B, O0, O1⟩ := HS.out
 clear HS
 have k0 : (w2.setCell ⟨w.heap.size + 1 + 1, 2, none⟩ (.slice a1 x.2.1.length c1)).heap[w.heap.size + 1 + 1]? = some (.cells #[.slice a0 x.1.1.length c0, .slice b0 x.1.2.length d0, .slice a1 x.2.1.length c1, .int .i64 0, .int .i64 0, .int .i64 0, .int .i64 0, .slice none 0 0, .slice none 0 0] 80 (0, 0)) := heap_setCell_same _ (w.heap.size + 1 + 1) 2 _ _ (.slice a1 x.2.1.length c1) X2
 have k1 : ((w2.setCell ⟨w.heap.size + 1 + 1, 2, none⟩ (.slice a1 x.2.1.length c1)).setCell ⟨w.heap.size + 1 + 1, 3, none⟩ (.int .i64 x.2.2.1)).heap[w.heap.size + 1 + 1]? = some (.cells #[.slice a0 x.1.1.length c0, .slice b0 x.1.2.length d0, .slice a1 x.2.1.length c1, .int .i64 x.2.2.1, .int .i64 0, .int .i64 0, .int .i64 0, .slice none 0 0, .slice none 0 0] 80 (0, 0)) := heap_setCell_same _ (w.heap.size + 1 + 1) 3 _ _ (.int .i64 x.2.2.1) k0
 have k2 : (((w2.setCell ⟨w.heap.size + 1 + 1, 2, none⟩ (.slice a1 x.2.1.length c1)).setCell ⟨w.heap.size + 1 + 1, 3, none⟩ (.int .i64 x.2.2.1)).setCell ⟨w.heap.size + 1 + 1, 4, none⟩ (.int .i64 x.2.2.2.1)).heap[w.heap.size + 1 + 1]? = some (.cells #[.slice a0 x.1.1.length c0, .slice b0 x.1.2.length d0, .slice a1 x.2.1.length c1, .int .i64 x.2.2.1, .int .i64 x.2.2.2.1, .int .i64 0, .int .i64 0, .slice none 0 0, .slice none 0 0] 80 (0, 0)) := heap_setCell_same _ (w.heap.size + 1 + 1) 4 _ _ (.int .i64 x.2.2.2.1) k1
 have qn0 := (heap_setC (g := w.heap.size + 1 + 1) (o := 4) (v := .int .i64 x.2.2.2.1) (heap_setC (g := w.heap.size + 1 + 1) (o := 3) (v := .int .i64 x.2.2.1) (heap_setC (g := w.heap.size + 1 + 1) (o := 2) (v := .slice a1 x.2.1.length c1) X0 (by omega)) (by omega)) (by omega))
 have qn1 := (heap_setC (g := w.heap.size + 1 + 1) (o := 4) (v := .int .i64 x.2.2.2.1) (heap_setC (g := w.heap.size + 1 + 1) (o := 3) (v := .int .i64 x.2.2.1) (heap_setC (g := w.heap.size + 1 + 1) (o := 2) (v := .slice a1 x.2.1.length c1) X1 (by omega)) (by omega)) (by omega))
 have qb1 : Below w.heap.size w (((w2.setCell ⟨w.heap.size + 1 + 1, 2, none⟩ (.slice a1 x.2.1.length c1)).setCell ⟨w.heap.size + 1 + 1, 3, none⟩ (.int .i64 x.2.2.1)).setCell ⟨w.heap.size + 1 + 1, 4, none⟩ (.int .i64 x.2.2.2.1)) := (below_setC (below_setC (below_setC B (by omega)) (by omega)) (by omega))
 have qo0 : cacheR.own (((w2.setCell ⟨w.heap.size + 1 + 1, 2, none⟩ (.slice a1 x.2.1.length c1)).setCell ⟨w.heap.size + 1 + 1, 3, none⟩ (.int .i64 x.2.2.1)).setCell ⟨w.heap.size + 1 + 1, 4, none⟩ (.int .i64 x.2.2.2.1)) _ _ _ := (own_setC (own_setC (own_setC O0 (fun h => by have := h.1; omega)) (fun h => by have := h.1; omega)) (fun h => by have := h.1; omega))
 have qo1 : opsR.own (((w2.setCell ⟨w.heap.size + 1 + 1, 2, none⟩ (.slice a1 x.2.1.length c1)).setCell ⟨w.heap.size + 1 + 1, 3, none⟩ (.int .i64 x.2.2.1)).setCell ⟨w.heap.size + 1 + 1, 4, none⟩ (.int .i64 x.2.2.2.1)) _ _ _ := (own_setC (own_setC (own_setC O1 (fun h => by have := h.1; omega)) (fun h => by have := h.1; omega)) (fun h => by have := h.1; omega))
 have qz1 : w2.heap.size ≤ (((w2.setCell ⟨w.heap.size + 1 + 1, 2, none⟩ (.slice a1 x.2.1.length c1)).setCell ⟨w.heap.size + 1 + 1, 3, none⟩ (.int .i64 x.2.2.1)).setCell ⟨w.heap.size + 1 + 1, 4, none⟩ (.int .i64 x.2.2.2.1)).heap.size := by simp
 have qz2 : (((w2.setCell ⟨w.heap.size + 1 + 1, 2, none⟩ (.slice a1 x.2.1.length c1)).setCell ⟨w.heap.size + 1 + 1, 3, none⟩ (.int .i64 x.2.2.1)).setCell ⟨w.heap.size + 1 + 1, 4, none⟩ (.int .i64 x.2.2.2.1)).heap.size ≤ w2.heap.size := by simp
 clear X0 X1 X2 B O0 O1 k0 k1
 generalize (((w2.setCell ⟨w.heap.size + 1 + 1, 2, none⟩ (.slice a1 x.2.1.length c1)).setCell ⟨w.heap.size + 1 + 1, 3, none⟩ (.int .i64 x.2.2.1)).setCell ⟨w.heap.size + 1 + 1, 4, none⟩ (.int .i64 x.2.2.2.1)) = u2 at qn0 qn1 k2 qb1 qz1 qz2 qo0 qo1 ⊢
 have X0 := qn0
 have X1 := qn1
 have X2 := k2
 have B := qb1
 have O0 := qo0
 have O1 := qo1
 have za1 := qz1
 have zb1 := qz2
 clear qn0 qn1 k2 qb1 qz1 qz2 qo0 qo1
 refine (C4.out _ B).mono ?_
 rintro e w3 ⟨a4, c4, rfl, mm⟩
 have hs4 := mm.2.size
 replace B := below_step B mm.2
 replace X0 := row_keep mm.2 X0
 replace X1 := row_keep mm.2 X1
 replace X2 := row_keep mm.2 X2
 replace O0 := own_stay O0 mm.2 (by omega)
 replace O1 := own_stay O1 mm.2 (by omega)
 have O4 := mm.1
 clear mm C4
 obtain ⟨p0, p1, p2, p3, p4, p5, p6, p7, p8⟩ := cells_core X0
 obtain ⟨y0, y1, y2, y3, y4, y5, y6, y7, y8⟩ := cells_core X2
 obtain ⟨f0, f1, f2, f3, f4, f5, f6, f7, f8⟩ := froz_core X2
 have HS : Hid _ := And.intro X0 (And.intro X1 (And.intro X2 (And.intro B (And.intro O0 (And.intro O1 (O4))))))
 clear X0 X1 X2 B O0 O1 O4
 go_wp2_with fail
 clear p0 p1 p2 p3 p4 p5 p6 p7 p8 y0 y1 y2 y3 y4 y5 y6 y7 y8 f0 f1 f2 f3 f4 f5 f6 f7 f8
 obtain ⟨X0, X1, X2, B, O0, O1, O4⟩ := HS.out
 clear HS
 have k0 : (w3.setCell ⟨w.heap.size + 1 + 1, 5, none⟩ (.int .i64 x.2.2.2.2.1.1)).heap[w.heap.size + 1 + 1]? = some (.cells #[.slice a0 x.1.1.length c0, .slice b0 x.1.2.length d0, .slice a1 x.2.1.length c1, .int .i64 x.2.2.1, .int .i64 x.2.2.2.1, .int .i64 x.2.2.2.2.1.1, .int .i64 0, .slice none 0 0, .slice none 0 0] 80 (0, 0)) := heap_setCell_same _ (w.heap.size + 1 + 1) 5 _ _ (.int .i64 x.2.2.2.2.1.1) X2
 have k1 : ((w3.setCell ⟨w.heap.size + 1 + 1, 5, none⟩ (.int .i64 x.2.2.2.2.1.1)).setCell ⟨w.heap.size + 1 + 1, 6, none⟩ (.int .i64 x.2.2.2.2.1.2.1)).heap[w.heap.size + 1 + 1]? = some (.cells #[.slice a0 x.1.1.length c0, .slice b0 x.1.2.length d0, .slice a1 x.2.1.length c1, .int .i64 x.2.2.1, .int .i64 x.2.2.2.1, .int .i64 x.2.2.2.2.1.1, .int .i64 x.2.2.2.2.1.2.1, .slice none 0 0, .slice none 0 0] 80 (0, 0)) := heap_setCell_same _ (w.heap.size + 1 + 1) 6 _ _ (.int .i64 x.2.2.2.2.1.2.1) k0
 have k2 : (((w3.setCell ⟨w.heap.size + 1 + 1, 5, none⟩ (.int .i64 x.2.2.2.2.1.1)).setCell ⟨w.heap.size + 1 + 1, 6, none⟩ (.int .i64 x.2.2.2.2.1.2.1)).setCell ⟨w.heap.size + 1 + 1, 7, none⟩ (.slice a4 x.2.2.2.2.1.2.2.length c4)).heap[w.heap.size + 1 + 1]? = some (.cells #[.slice a0 x.1.1.length c0, .slice b0 x.1.2.length d0, .slice a1 x.2.1.length c1, .int .i64 x.2.2.1, .int .i64 x.2.2.2.1, .int .i64 x.2.2.2.2.1.1, .int .i64 x.2.2.2.2.1.2.1, .slice a4 x.2.2.2.2.1.2.2.length c4, .slice none 0 0] 80 (0, 0)) := heap_setCell_same _ (w.heap.size + 1 + 1) 7 _ _ (.slice a4 x.2.2.2.2.1.2.2.length c4) k1
 have qn0 := (heap_setC (g := w.heap.size + 1 + 1) (o := 7) (v := .slice a4 x.2.2.2.2.1.2.2.length c4) (heap_setC (g := w.heap.size + 1 + 1) (o := 6) (v := .int .i64 x.2.2.2.2.1.2.1) (heap_setC (g := w.heap.size + 1 + 1) (o := 5) (v := .int .i64 x.2.2.2.2.1.1) X0 (by omega)) (by omega)) (by omega))
 have qn1 := (heap_setC (g := w.heap.size + 1 + 1) (o := 7) (v := .slice a4 x.2.2.2.2.1.2.2.length c4) (heap_setC (g := w.heap.size + 1 + 1) (o := 6) (v := .int .i64 x.2.2.2.2.1.2.1) (heap_setC (g := w.heap.size + 1 + 1) (o := 5) (v := .int .i64 x.2.2.2.2.1.1) X1 (by omega)) (by omega)) (by omega))
 have qb1 : Below w.heap.size w (((w3.setCell ⟨w.heap.size + 1 + 1, 5, none⟩ (.int .i64 x.2.2.2.2.1.1)).setCell ⟨w.heap.size + 1 + 1, 6, none⟩ (.int .i64 x.2.2.2.2.1.2.1)).setCell ⟨w.heap.size + 1 + 1, 7, none⟩ (.slice a4 x.2.2.2.2.1.2.2.length c4)) := (below_setC (below_setC (below_setC B (by omega)) (by omega)) (by omega))
 have qo0 : cacheR.own (((w3.setCell ⟨w.heap.size + 1 + 1, 5, none⟩ (.int .i64 x.2.2.2.2.1.1)).setCell ⟨w.heap.size + 1 + 1, 6, none⟩ (.int .i64 x.2.2.2.2.1.2.1)).setCell ⟨w.heap.size + 1 + 1, 7, none⟩ (.slice a4 x.2.2.2.2.1.2.2.length c4)) _ _ _ := (own_setC (own_setC (own_setC O0 (fun h => by have := h.1; omega)) (fun h => by have := h.1; omega)) (fun h => by have := h.1; omega))
 have qo1 : opsR.own (((w3.setCell ⟨w.heap.size + 1 + 1, 5, none⟩ (.int .i64 x.2.2.2.2.1.1)).setCell ⟨w.heap.size + 1 + 1, 6, none⟩ (.int .i64 x.2.2.2.2.1.2.1)).setCell ⟨w.heap.size + 1 + 1, 7, none⟩ (.slice a4 x.2.2.2.2.1.2.2.length c4)) _ _ _ := (own_setC (own_setC (own_setC O1 (fun h => by have := h.1; omega)) (fun h => by have := h.1; omega)) (fun h => by have := h.1; omega))
 have qo4 : wayR.own (((w3.setCell ⟨w.heap.size + 1 + 1, 5, none⟩ (.int .i64 x.2.2.2.2.1.1)).setCell ⟨w.heap.size + 1 + 1, 6, none⟩ (.int .i64 x.2.2.2.2.1.2.1)).setCell ⟨w.heap.size + 1 + 1, 7, none⟩ (.slice a4 x.2.2.2.2.1.2.2.length c4)) _ _ _ := (own_setC (own_setC (own_setC O4 (fun h => by have := h.1; omega)) (fun h => by have := h.1; omega)) (fun h => by have := h.1; omega))
 have qz1 : w3.heap.size ≤ (((w3.setCell ⟨w.heap.size + 1 + 1, 5, none⟩ (.int .i64 x.2.2.2.2.1.1)).setCell ⟨w.heap.size + 1 + 1, 6, none⟩ (.int .i64 x.2.2.2.2.1.2.1)).setCell ⟨w.heap.size + 1 + 1, 7, none⟩ (.slice a4 x.2.2.2.2.1.2.2.length c4)).heap.size := by simp
 have qz2 : (((w3.setCell ⟨w.heap.size + 1 + 1, 5, none⟩ (.int .i64 x.2.2.2.2.1.1)).setCell ⟨w.heap.size + 1 + 1, 6, none⟩ (.int .i64 x.2.2.2.2.1.2.1)).setCell ⟨w.heap.size + 1 + 1, 7, none⟩ (.slice a4 x.2.2.2.2.1.2.2.length c4)).heap.size ≤ w3.heap.size := by simp
 clear X0 X1 X2 B O0 O1 O4 k0 k1
 generalize (((w3.setCell ⟨w.heap.size + 1 + 1, 5, none⟩ (.int .i64 x.2.2.2.2.1.1)).setCell ⟨w.heap.size + 1 + 1, 6, none⟩ (.int .i64 x.2.2.2.2.1.2.1)).setCell ⟨w.heap.size + 1 + 1, 7, none⟩ (.slice a4 x.2.2.2.2.1.2.2.length c4)) = u3 at qn0 qn1 k2 qb1 qz1 qz2 qo0 qo1 qo4 ⊢
 have X0 := qn0
 have X1 := qn1
 have X2 := k2
 have B := qb1
 have O0 := qo0
 have O1 := qo1
 have O4 := qo4
 have za2 := qz1
 have zb2 := qz2
 clear qn0 qn1 k2 qb1 qz1 qz2 qo0 qo1 qo4
 refine (C5.out _ B).mono ?_
 rintro e w4 ⟨a5, c5, rfl, mm⟩
 have hs5 := mm.2.size
 replace B := below_step B mm.2
 replace X0 := row_keep mm.2 X0
 replace X1 := row_keep mm.2 X1
 replace X2 := row_keep mm.2 X2
 replace O0 := own_stay O0 mm.2 (by omega)
 replace O1 := own_stay O1 mm.2 (by omega)
 replace O4 := own_stay O4 mm.2 (by omega)
 have O5 := mm.1
 clear mm C5
 obtain ⟨p0, p1, p2, p3, p4, p5, p6, p7, p8⟩ := cells_core X0
 obtain ⟨y0, y1, y2, y3, y4, y5, y6, y7, y8⟩ := cells_core X2
 obtain ⟨f0, f1, f2, f3, f4, f5, f6, f7, f8⟩ := froz_core X2
 obtain ⟨z0, z1, z2, z3, z4, z5, z6, z7, z8⟩ := cells_core X1
 obtain ⟨g0, g1, g2, g3, g4, g5, g6, g7, g8⟩ := froz_core X1
 have HS : Hid _ := And.intro X0 (And.intro X1 (And.intro X2 (And.intro B (And.intro O0 (And.intro O1 (And.intro O4 (O5)))))))
 clear X0 X1 X2 B O0 O1 O4 O5
 go_wp2
 clear p0 p1 p2 p3 p4 p5 p6 p7 p8 y0 y1 y2 y3 y4 y5 y6 y7 y8 f0 f1 f2 f3 f4 f5 f6 f7 f8 z0 z1 z2 z3 z4 z5 z6 z7 z8 g0 g1 g2 g3 g4 g5 g6 g7 g8
 obtain ⟨X0, X1, X2, B, O0, O1, O4, O5⟩ := HS.out
 clear HS
 have k0 : (w4.setCell ⟨w.heap.size + 1 + 1, 8, none⟩ (.slice a5 x.2.2.2.2.2.length c5)).heap[w.heap.size + 1 + 1]? = some (.cells #[.slice a0 x.1.1.length c0, .slice b0 x.1.2.length d0, .slice a1 x.2.1.length c1, .int .i64 x.2.2.1, .int .i64 x.2.2.2.1, .int .i64 x.2.2.2.2.1.1, .int .i64 x.2.2.2.2.1.2.1, .slice a4 x.2.2.2.2.1.2.2.length c4, .slice a5 x.2.2.2.2.2.length c5] 80 (0, 0)) := heap_setCell_same _ (w.heap.size + 1 + 1) 8 _ _ (.slice a5 x.2.2.2.2.2.length c5) X2
 have V := put_core (y0 := .slice a0 x.1.1.length c0) (y1 := .slice b0 x.1.2.length d0) (y2 := .slice a1 x.2.1.length c1) (y3 := .int .i64 x.2.2.1) (y4 := .int .i64 x.2.2.2.1) (y5 := .int .i64 x.2.2.2.2.1.1) (y6 := .int .i64 x.2.2.2.2.1.2.1) (y7 := .slice a4 x.2.2.2.2.1.2.2.length c4) (y8 := .slice a5 x.2.2.2.2.2.length c5) (heap_setC (g := w.heap.size + 1 + 1) (o := 8) (v := .slice a5 x.2.2.2.2.2.length c5) X1 (by omega))
 obtain ⟨r0, r1, r2, r3, r4, r5, r6, r7, r8⟩ := cells_core V
 obtain ⟨i2, i3⟩ := HI.out
 refine bodyPost_ret (v := .agg #[.slice a0 x.1.1.length c0, .slice b0 x.1.2.length d0, .slice a1 x.2.1.length c1, .int .i64 x.2.2.1, .int .i64 x.2.2.2.1, .int .i64 x.2.2.2.2.1.1, .int .i64 x.2.2.2.2.1.2.1, .slice a4 x.2.2.2.2.1.2.2.length c4, .slice a5 x.2.2.2.2.2.length c5]) (by simp [results, Tryz.results52, go_sem, r0, r1, r2, r3, r4, r5, r6, r7, r8]) rfl ⟨[.slice a0 x.1.1.length c0, .slice b0 x.1.2.length d0, .slice a1 x.2.1.length c1, .int .i64 x.2.2.1, .int .i64 x.2.2.2.1, .int .i64 x.2.2.2.2.1.1, .int .i64 x.2.2.2.2.1.2.1, .slice a4 x.2.2.2.2.1.2.2.length c4, .slice a5 x.2.2.2.2.2.length c5], rfl, own_core (S0 := rng u0.heap.size w1.heap.size) (S1 := rng u1.heap.size w2.heap.size) (S4 := rng u2.heap.size w3.heap.size) (S5 := rng u3.heap.size w4.heap.size) i2 i3 ?_ ?_ ?_ ?_ (rng_sub (by omega) (by simp <;> omega)) (rng_sub (by omega) (by simp <;> omega)) (rng_sub (by omega) (by simp <;> omega)) (rng_sub (by omega) (by simp <;> omega)) (rng_dis (.inl (by omega))) (rng_dis (.inl (by omega))) (rng_dis (.inl (by omega))) (rng_dis (.inl (by omega))) (rng_dis (.inl (by omega))) (rng_dis (.inl (by omega))), ?_⟩
 ·exact (own_setC (own_setC (own_setC (own_setC (own_setC (own_setC (own_setC (own_setC (own_setC (own_setC O0 (fun h => by have := h.1; omega)) (fun h => by have := h.1; omega)) (fun h => by have := h.1; omega)) (fun h => by have := h.1; omega)) (fun h => by have := h.1; omega)) (fun h => by have := h.1; omega)) (fun h => by have := h.1; omega)) (fun h => by have := h.1; omega)) (fun h => by have := h.1; omega)) (fun h => by have := h.1; omega))
 ·exact (own_setC (own_setC (own_setC (own_setC (own_setC (own_setC (own_setC (own_setC (own_setC (own_setC O1 (fun h => by have := h.1; omega)) (fun h => by have := h.1; omega)) (fun h => by have := h.1; omega)) (fun h => by have := h.1; omega)) (fun h => by have := h.1; omega)) (fun h => by have := h.1; omega)) (fun h => by have := h.1; omega)) (fun h => by have := h.1; omega)) (fun h => by have := h.1; omega)) (fun h => by have := h.1; omega))
 ·exact (own_setC (own_setC (own_setC (own_setC (own_setC (own_setC (own_setC (own_setC (own_setC (own_setC O4 (fun h => by have := h.1; omega)) (fun h => by have := h.1; omega)) (fun h => by have := h.1; omega)) (fun h => by have := h.1; omega)) (fun h => by have := h.1; omega)) (fun h => by have := h.1; omega)) (fun h => by have := h.1; omega)) (fun h => by have := h.1; omega)) (fun h => by have := h.1; omega)) (fun h => by have := h.1; omega))
 ·exact (own_setC (own_setC (own_setC (own_setC (own_setC (own_setC (own_setC (own_setC (own_setC (own_setC O5 (fun h => by have := h.1; omega)) (fun h => by have := h.1; omega)) (fun h => by have := h.1; omega)) (fun h => by have := h.1; omega)) (fun h => by have := h.1; omega)) (fun h => by have := h.1; omega)) (fun h => by have := h.1; omega)) (fun h => by have := h.1; omega)) (fun h => by have := h.1; omega)) (fun h => by have := h.1; omega))
 ·exact (below_setC (below_setC (below_setC (below_setC (below_setC (below_setC (below_setC (below_setC (below_setC (below_setC B (by omega)) (by omega)) (by omega)) (by omega)) (by omega)) (by omega)) (by omega)) (by omega)) (by omega)) (by omega))
theorem core_shape {w : World} {cs : List Value} {x : CoreD} (h : coreR.rd w cs x) : ∃ (a0 : Option Addr) (c0 : Nat) (b0 : Option Addr) (d0 : Nat) (a1 : Option Addr) (c1 : Nat) (a4 : Option Addr) (c4 : Nat) (a5 : Option Addr) (c5 : Nat), cs = [.slice a0 x.1.1.length c0, .slice b0 x.1.2.length d0, .slice a1 x.2.1.length c1, .int .i64 x.2.2.1, .int .i64 x.2.2.2.1, .int .i64 x.2.2.2.2.1.1, .int .i64 x.2.2.2.2.1.2.1, .slice a4 x.2.2.2.2.1.2.2.length c4, .slice a5 x.2.2.2.2.2.length c5] := by
 obtain ⟨v0, v1, v2, v5, v6, v7, v8, rfl, r0, r1, -, -, r4, r5⟩ := core_rd h
 obtain ⟨a0, c0, b0, d0, e0, -⟩ := cache_rd r0
 simp only [List.cons.injEq, and_true] at e0
 obtain ⟨rfl, rfl⟩ := e0
 obtain ⟨a1, c1, e1, -⟩ := r1
 simp only [List.cons.injEq, and_true] at e1
 obtain rfl := e1
 obtain ⟨a4, c4, e4, -⟩ := way_rd r4
 simp only [List.cons.injEq, and_true] at e4
 obtain ⟨rfl, rfl, rfl⟩ := e4
 obtain ⟨a5, c5, e5, -⟩ := r5
 simp only [List.cons.injEq, and_true] at e5
 obtain rfl := e5
 exact ⟨a0, c0, b0, d0, a1, c1, a4, c4, a5, c5, rfl⟩
theorem opens_core : Opens Tryz.prog 93 coreR :=
 opens_struct Tryz.underlying93 (by kernel_rfl) (opensF_cons rfl (by kernel_rfl) opens_cache (opensF_cons rfl (by kernel_rfl) opens_ops (opensF_cons rfl (by kernel_rfl) opens_i64 (opensF_cons rfl (by kernel_rfl) opens_i64 (opensF_cons rfl (by kernel_rfl) opens_way (opensF_one rfl (by kernel_rfl) opens_ints))))))
end Go.Proofs.YtiiipclglngdhaaGreatDoor
