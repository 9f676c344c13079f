import Derived.Test.YtiiipclglngdhaaGreatDoorQ00Box
import Derived.Test.YtiiipclglngdhaaGreatDoorQ07OpL
import Derived.Test.YtiiipclglngdhaaGreatDoorQ29RepInt64SS
import Derived.Test.YtiiipclglngdhaaGreatDoorQ28Forgot
import Derived.Test.YtiiipclglngdhaaGreatDoorQ32FitsEnt
import Derived.Test.YtiiipclglngdhaaGreatDoorQ34EventsL
import Derived.Test.YtiiipclglngdhaaGreatDoorQ13StoreC
import Derived.Test.YtiiipclglngdhaaGreatDoorQ03Bits
namespace Go.Proofs.YtiiipclglngdhaaGreatDoor
set_option maxHeartbeats 8000000
set_option maxRecDepth 20000
open Go.ChangeShapes Go.WideShapes Go.ChangeAt Go.RowKit
set_option linter.unusedVariables false
theorem house_shape1 {w : World} {cs : List Value} {x : HouseD} (h : houseR.rd w cs x) : ∃ (a : Option Addr) (c : Nat) (b : Option Addr) (d : Nat), cs = [.slice a x.1.length c, .slice b x.2.length d] ∧ True := by
 obtain ⟨a, c, b, d, e⟩ := house_shape h
 exact ⟨a, c, b, d, e, trivial⟩
theorem dma_shape1 {w : World} {cs : List Value} {x : DmaD} (h : dmaR.rd w cs x) : ∃ (a : Option Addr) (c : Nat) (b : Option Addr) (d : Nat), cs = [.slice a x.1.length c, .int .i64 x.2.1, .bool x.2.2.1, .slice b x.2.2.2.length d] ∧ True := by
 obtain ⟨a, c, b, d, e⟩ := dma_shape h
 exact ⟨a, c, b, d, e, trivial⟩
abbrev FabricD := CfgD × HouseD × List CoreD × DmaD × List MsgD × List EventD
abbrev fabricR : Rep FabricD := prodR cfgR (prodR houseR (prodR coresR (prodR dmaR (prodR msgsR eventsR))))
abbrev fabricM : Mk FabricD := prodM cfgM (prodM houseM (prodM coresM (prodM dmaM (prodM msgsM eventsM))))
theorem len1fabric {l : List Value} (h : l.length = 1) : ∃ a0, l = [a0] := by
 match l, h with
 | [a0], _ => exact ⟨a0, rfl⟩
theorem len2fabric {l : List Value} (h : l.length = 2) : ∃ a0 a1, l = [a0, a1] := by
 match l, h with
 | [a0, a1], _ => exact ⟨a0, a1, rfl⟩
theorem len4fabric {l : List Value} (h : l.length = 4) : ∃ a0 a1 a2 a3, l = [a0, a1, a2, a3] := by
 match l, h with
 | [a0, a1, a2, a3], _ => exact ⟨a0, a1, a2, a3, rfl⟩
theorem fabric_rd {w : World} {cs : List Value} {x : FabricD} (h : fabricR.rd w cs x) : ∃ v0 v1 v2 v3 v4 v5 v6 v7 v8 v9 v10 v11 v12, cs = [v0, v1, v2, v3, v4, v5, v6, v7, v8, v9, v10, v11, v12] ∧ cfgR.rd w [v0, v1, v2, v3] x.1 ∧ houseR.rd w [v4, v5] x.2.1 ∧ coresR.rd w [v6] x.2.2.1 ∧ dmaR.rd w [v7, v8, v9, v10] x.2.2.2.1 ∧ msgsR.rd w [v11] x.2.2.2.2.1 ∧ eventsR.rd w [v12] x.2.2.2.2.2 := by
 obtain ⟨c0, e0, rfl, h0, ⟨c1, e1, rfl, h1, ⟨c2, e2, rfl, h2, ⟨c3, e3, rfl, h3, ⟨c4, e4, rfl, h4, h5⟩⟩⟩⟩⟩ := h
 obtain ⟨v0, v1, v2, v3, rfl⟩ := len4fabric (cfgR.rd_len h0)
 obtain ⟨v4, v5, rfl⟩ := len2fabric (houseR.rd_len h1)
 obtain ⟨v6, rfl⟩ := len1fabric (coresR.rd_len h2)
 obtain ⟨v7, v8, v9, v10, rfl⟩ := len4fabric (dmaR.rd_len h3)
 obtain ⟨v11, rfl⟩ := len1fabric (msgsR.rd_len h4)
 obtain ⟨v12, rfl⟩ := len1fabric (eventsR.rd_len h5)
 exact ⟨v0, v1, v2, v3, v4, v5, v6, v7, v8, v9, v10, v11, v12, rfl, h0, h1, h2, h3, h4, h5⟩
theorem cells_fabric {w : World} {g : Nat} {x0 x1 x2 x3 x4 x5 x6 x7 x8 x9 x10 x11 x12 : Value} {t : TypeId} (h : w.heap[g]? = some (.cells #[x0, x1, x2, x3, x4, x5, x6, x7, x8, x9, x10, x11, x12] t (0, 0))) : w.cell? ⟨g, 0, none⟩ = some x0 ∧ w.cell? ⟨g, 1, none⟩ = some x1 ∧ w.cell? ⟨g, 2, none⟩ = some x2 ∧ w.cell? ⟨g, 3, none⟩ = some x3 ∧ w.cell? ⟨g, 4, none⟩ = some x4 ∧ w.cell? ⟨g, 5, none⟩ = some x5 ∧ w.cell? ⟨g, 6, none⟩ = some x6 ∧ w.cell? ⟨g, 7, none⟩ = some x7 ∧ w.cell? ⟨g, 8, none⟩ = some x8 ∧ w.cell? ⟨g, 9, none⟩ = some x9 ∧ w.cell? ⟨g, 10, none⟩ = some x10 ∧ w.cell? ⟨g, 11, none⟩ = some x11 ∧ w.cell? ⟨g, 12, none⟩ = some x12 :=
 ⟨by rw [cell_of_row w g 0 _ t (0, 0) h]; rfl, by rw [cell_of_row w g 1 _ t (0, 0) h]; rfl, by rw [cell_of_row w g 2 _ t (0, 0) h]; rfl, by rw [cell_of_row w g 3 _ t (0, 0) h]; rfl, by rw [cell_of_row w g 4 _ t (0, 0) h]; rfl, by rw [cell_of_row w g 5 _ t (0, 0) h]; rfl, by rw [cell_of_row w g 6 _ t (0, 0) h]; rfl, by rw [cell_of_row w g 7 _ t (0, 0) h]; rfl, by rw [cell_of_row w g 8 _ t (0, 0) h]; rfl, by rw [cell_of_row w g 9 _ t (0, 0) h]; rfl, by rw [cell_of_row w g 10 _ t (0, 0) h]; rfl, by rw [cell_of_row w g 11 _ t (0, 0) h]; rfl, by rw [cell_of_row w g 12 _ t (0, 0) h]; rfl⟩
theorem szFabric_u : SzC 5 fabricR fabricM aggV := by
 intro cs x left w h h0 h1
 obtain ⟨v0, v1, v2, v3, v4, v5, v6, v7, v8, v9, v10, v11, v12, rfl, r0, r1, r2, r3, r4, r5⟩ := fabric_rd h
 clear h
 rw [show fabricM.bk x = 0 + (houseM.bk x.2.1 + (coresM.bk x.2.2.1 + (dmaM.bk x.2.2.2.1 + (msgsM.bk x.2.2.2.2.1 + eventsM.bk x.2.2.2.2.2)))) from rfl]
 change Calls Tryz.prog 5 #[.agg #[v0, v1, v2, v3, v4, v5, v6, v7, v8, v9, v10, v11, v12], .int .i64 left] w _
 have C1 : Hid (∀ L W, Below w.heap.size w W → 0 ≤ L → L ≤ 1048576 → Calls Tryz.prog 12 #[.agg #[v4, v5], .int .i64 L] W fun e w' => e = .returned (.int .i64 (szI (houseM.bk x.2.1) L)) ∧ Below W.heap.size W w') := fun L W hb a b => szHouse_u [v4, v5] _ L W (rd_next r1 hb) a b
 have C2 : Hid (∀ L W, Below w.heap.size w W → 0 ≤ L → L ≤ 1048576 → Calls Tryz.prog 13 #[v6, .int .i64 L] W fun e w' => e = .returned (.int .i64 (szI (coresM.bk x.2.2.1) L)) ∧ Below W.heap.size W w') := fun L W hb a b => szCores_u [v6] _ L W (rd_next r2 hb) a b
 have C3 : Hid (∀ L W, Below w.heap.size w W → 0 ≤ L → L ≤ 1048576 → Calls Tryz.prog 14 #[.agg #[v7, v8, v9, v10], .int .i64 L] W fun e w' => e = .returned (.int .i64 (szI (dmaM.bk x.2.2.2.1) L)) ∧ Below W.heap.size W w') := fun L W hb a b => szDma_u [v7, v8, v9, v10] _ L W (rd_next r3 hb) a b
 have C4 : Hid (∀ L W, Below w.heap.size w W → 0 ≤ L → L ≤ 1048576 → Calls Tryz.prog 15 #[v11, .int .i64 L] W fun e w' => e = .returned (.int .i64 (szI (msgsM.bk x.2.2.2.2.1) L)) ∧ Below W.heap.size W w') := fun L W hb a b => szMsgs_u [v11] _ L W (rd_next r4 hb) a b
 have C5 : Hid (∀ L W, Below w.heap.size w W → 0 ≤ L → L ≤ 1048576 → Calls Tryz.prog 16 #[v12, .int .i64 L] W fun e w' => e = .returned (.int .i64 (szI (eventsM.bk x.2.2.2.2.2) L)) ∧ Below W.heap.size W w') := fun L W hb a b => szEvents_u [v12] _ L W (rd_next r5 hb) a b
 clear r0 r1 r2 r3 r4 r5
 generalize houseM.bk x.2.1 = n1 at C1 ⊢
 generalize coresM.bk x.2.2.1 = n2 at C2 ⊢
 generalize dmaM.bk x.2.2.2.1 = n3 at C3 ⊢
 generalize msgsM.bk x.2.2.2.2.1 = n4 at C4 ⊢
 generalize eventsM.bk x.2.2.2.2.2 = n5 at C5 ⊢
 go_enter Tryz.func5, Tryz.ntmps5
 go_wp2_with fail
 generalize hW0 : w.alloc _ = W0
 have X := boxH hW0
 have B := boxB hW0
 clear hW0
 refine (C1.out (left) _ B (by omega) (by omega)).mono ?_
 rintro e w1 ⟨rfl, bq⟩
 replace X := row_keep bq X
 replace B := below_step B bq
 clear bq C1
 by_cases l1 : (n1 : Int) ≤ left
 ·rw [szI_yes l1]
  have g1 : ¬ (left - (n1 : Int) < 0) := by omega
  obtain ⟨y0, y1, y2, y3, y4, y5, y6, y7, y8, y9, y10, y11, y12⟩ := cells_fabric X
  go_wp2_with fail
  clear y0 y1 y2 y3 y4 y5 y6 y7 y8 y9 y10 y11 y12
  refine (C2.out (left - (n1 : Int)) _ B (by omega) (by omega)).mono ?_
  rintro e w2 ⟨rfl, bq⟩
  replace X := row_keep bq X
  replace B := below_step B bq
  clear bq C2
  by_cases l2 : (n2 : Int) ≤ left - (n1 : Int)
  ·rw [szI_yes l2]
   have g2 : ¬ (left - (n1 : Int) - (n2 : Int) < 0) := by omega
   obtain ⟨y0, y1, y2, y3, y4, y5, y6, y7, y8, y9, y10, y11, y12⟩ := cells_fabric X
   go_wp2_with fail
   clear y0 y1 y2 y3 y4 y5 y6 y7 y8 y9 y10 y11 y12
   refine (C3.out (left - (n1 : Int) - (n2 : Int)) _ B (by omega) (by omega)).mono ?_
   rintro e w3 ⟨rfl, bq⟩
   replace X := row_keep bq X
   replace B := below_step B bq
   clear bq C3
   by_cases l3 : (n3 : Int) ≤ left - (n1 : Int) - (n2 : Int)
   ·rw [szI_yes l3]
    have g3 : ¬ (left - (n1 : Int) - (n2 : Int) - (n3 : Int) < 0) := by omega
    obtain ⟨y0, y1, y2, y3, y4, y5, y6, y7, y8, y9, y10, y11, y12⟩ := cells_fabric X
    go_wp2_with fail
    clear y0 y1 y2 y3 y4 y5 y6 y7 y8 y9 y10 y11 y12
    refine (C4.out (left - (n1 : Int) - (n2 : Int) - (n3 : Int)) _ B (by omega) (by omega)).mono ?_
    rintro e w4 ⟨rfl, bq⟩
    replace X := row_keep bq X
    replace B := below_step B bq
    clear bq C4
    by_cases l4 : (n4 : Int) ≤ left - (n1 : Int) - (n2 : Int) - (n3 : Int)
    ·rw [szI_yes l4]
     have g4 : ¬ (left - (n1 : Int) - (n2 : Int) - (n3 : Int) - (n4 : Int) < 0) := by omega
     obtain ⟨y0, y1, y2, y3, y4, y5, y6, y7, y8, y9, y10, y11, y12⟩ := cells_fabric X
     go_wp2_with fail
     clear y0 y1 y2 y3 y4 y5 y6 y7 y8 y9 y10 y11 y12
     refine (C5.out (left - (n1 : Int) - (n2 : Int) - (n3 : Int) - (n4 : Int)) _ B (by omega) (by omega)).mono ?_
     rintro e w5 ⟨rfl, bq⟩
     replace X := row_keep bq X
     replace B := below_step B bq
     clear bq C5
     by_cases l5 : (n5 : Int) ≤ left - (n1 : Int) - (n2 : Int) - (n3 : Int) - (n4 : Int)
     ·rw [szI_yes l5]
      have g5 : ¬ (left - (n1 : Int) - (n2 : Int) - (n3 : Int) - (n4 : Int) - (n5 : Int) < 0) := by omega
      obtain ⟨y0, y1, y2, y3, y4, y5, y6, y7, y8, y9, y10, y11, y12⟩ := cells_fabric X
      clear y0 y1 y2 y3 y4 y5 y6 y7 y8 y9 y10 y11 y12 X
      go_wp2
      go_ret
      exact ⟨ret_int (by rw [szI_yes (by omega)]; omega), B⟩
     ·rw [szI_no l5]
      clear X
      go_wp2
      go_ret
      exact ⟨ret_int (szI_no (by omega)).symm, B⟩
    ·rw [szI_no l4]
     clear X
     go_wp2
     go_ret
     exact ⟨ret_int (szI_no (by omega)).symm, B⟩
   ·rw [szI_no l3]
    clear X
    go_wp2
    go_ret
    exact ⟨ret_int (szI_no (by omega)).symm, B⟩
  ·rw [szI_no l2]
   clear X
   go_wp2
   go_ret
   exact ⟨ret_int (szI_no (by omega)).symm, B⟩
 ·rw [szI_no l1]
  clear X
  go_wp2
  go_ret
  exact ⟨ret_int (szI_no (by omega)).symm, B⟩
theorem eqFabric_u : EqC 9 fabricR fabricM aggV := by
 intro cs ds x w h k hm
 obtain ⟨v0, v1, v2, v3, v4, v5, v6, v7, v8, v9, v10, v11, v12, rfl, r0, r1, r2, r3, r4, r5⟩ := fabric_rd h
 obtain ⟨u0, u1, u2, u3, u4, u5, u6, u7, u8, u9, u10, u11, u12, rfl, s0, s1, s2, s3, s4, s5⟩ := fabric_rd k
 clear h k
 rw [show fabricM.bk x = 0 + (houseM.bk x.2.1 + (coresM.bk x.2.2.1 + (dmaM.bk x.2.2.2.1 + (msgsM.bk x.2.2.2.2.1 + eventsM.bk x.2.2.2.2.2)))) from rfl] at hm
 change Calls Tryz.prog 9 #[.agg #[v0, v1, v2, v3, v4, v5, v6, v7, v8, v9, v10, v11, v12], .agg #[u0, u1, u2, u3, u4, u5, u6, u7, u8, u9, u10, u11, u12]] w _
 have C0 : Hid (∀ W, Below w.heap.size w W → Calls Tryz.prog 27 #[.agg #[v0, v1, v2, v3], .agg #[u0, u1, u2, u3]] W fun e w' => e = .returned (.bool true) ∧ Below W.heap.size W w') := fun W hb => eqConfig_u [v0, v1, v2, v3] [u0, u1, u2, u3] _ W (rd_next r0 hb) (rd_next s0 hb) (Nat.zero_le _)
 have C1 : Hid (∀ W, Below w.heap.size w W → Calls Tryz.prog 28 #[.agg #[v4, v5], .agg #[u4, u5]] W fun e w' => e = .returned (.bool true) ∧ Below W.heap.size W w') := fun W hb => eqHouse_u [v4, v5] [u4, u5] _ W (rd_next r1 hb) (rd_next s1 hb) (by omega)
 have C2 : Hid (∀ W, Below w.heap.size w W → Calls Tryz.prog 29 #[v6, u6] W fun e w' => e = .returned (.bool true) ∧ Below W.heap.size W w') := fun W hb => eqCores_u [v6] [u6] _ W (rd_next r2 hb) (rd_next s2 hb) (by omega)
 have C3 : Hid (∀ W, Below w.heap.size w W → Calls Tryz.prog 30 #[.agg #[v7, v8, v9, v10], .agg #[u7, u8, u9, u10]] W fun e w' => e = .returned (.bool true) ∧ Below W.heap.size W w') := fun W hb => eqDma_u [v7, v8, v9, v10] [u7, u8, u9, u10] _ W (rd_next r3 hb) (rd_next s3 hb) (by omega)
 have C4 : Hid (∀ W, Below w.heap.size w W → Calls Tryz.prog 31 #[v11, u11] W fun e w' => e = .returned (.bool true) ∧ Below W.heap.size W w') := fun W hb => eqMsgs_u [v11] [u11] _ W (rd_next r4 hb) (rd_next s4 hb) (by omega)
 have C5 : Hid (∀ W, Below w.heap.size w W → Calls Tryz.prog 32 #[v12, u12] W fun e w' => e = .returned (.bool true) ∧ Below W.heap.size W w') := fun W hb => eqEvents_u [v12] [u12] _ W (rd_next r5 hb) (rd_next s5 hb) (by omega)
 clear hm r0 s0 r1 s1 r2 s2 r3 s3 r4 s4 r5 s5
 have X := heap_on (.cells #[u0, u1, u2, u3, u4, u5, u6, u7, u8, u9, u10, u11, u12] 49) (heap_at w (.cells #[v0, v1, v2, v3, v4, v5, v6, v7, v8, v9, v10, v11, v12] 49))
 have Y := heap_at (w.alloc (.cells #[v0, v1, v2, v3, v4, v5, v6, v7, v8, v9, v10, v11, v12] 49)) (.cells #[u0, u1, u2, u3, u4, u5, u6, u7, u8, u9, u10, u11, u12] 49)
 rw [alloc_len] at Y
 have B := below_step (box_below w (.cells #[v0, v1, v2, v3, v4, v5, v6, v7, v8, v9, v10, v11, v12] 49)) (box_below _ (.cells #[u0, u1, u2, u3, u4, u5, u6, u7, u8, u9, u10, u11, u12] 49))
 go_enter Tryz.func9, Tryz.ntmps9
 go_wp2_with fail
 generalize (w.alloc (.cells #[v0, v1, v2, v3, v4, v5, v6, v7, v8, v9, v10, v11, v12] 49)).alloc (.cells #[u0, u1, u2, u3, u4, u5, u6, u7, u8, u9, u10, u11, u12] 49) = W0 at X Y B ⊢
 refine (C0.out _ B).mono ?_
 rintro e w1 ⟨rfl, bq⟩
 replace X := row_keep bq X
 replace Y := row_keep bq Y
 replace B := below_step B bq
 clear bq C0
 obtain ⟨y0, y1, y2, y3, y4, y5, y6, y7, y8, y9, y10, y11, y12⟩ := cells_fabric X
 obtain ⟨z0, z1, z2, z3, z4, z5, z6, z7, z8, z9, z10, z11, z12⟩ := cells_fabric Y
 go_wp2_with fail
 clear y0 y1 y2 y3 y4 y5 y6 y7 y8 y9 y10 y11 y12 z0 z1 z2 z3 z4 z5 z6 z7 z8 z9 z10 z11 z12
 refine (C1.out _ B).mono ?_
 rintro e w2 ⟨rfl, bq⟩
 replace X := row_keep bq X
 replace Y := row_keep bq Y
 replace B := below_step B bq
 clear bq C1
 obtain ⟨y0, y1, y2, y3, y4, y5, y6, y7, y8, y9, y10, y11, y12⟩ := cells_fabric X
 obtain ⟨z0, z1, z2, z3, z4, z5, z6, z7, z8, z9, z10, z11, z12⟩ := cells_fabric Y
 go_wp2_with fail
 clear y0 y1 y2 y3 y4 y5 y6 y7 y8 y9 y10 y11 y12 z0 z1 z2 z3 z4 z5 z6 z7 z8 z9 z10 z11 z12
 refine (C2.out _ B).mono ?_
 rintro e w3 ⟨rfl, bq⟩
 replace X := row_keep bq X
 replace Y := row_keep bq Y
 replace B := below_step B bq
 clear bq C2
 obtain ⟨y0, y1, y2, y3, y4, y5, y6, y7, y8, y9, y10, y11, y12⟩ := cells_fabric X
 obtain ⟨z0, z1, z2, z3, z4, z5, z6, z7, z8, z9, z10, z11, z12⟩ := cells_fabric Y
 go_wp2_with fail
 clear y0 y1 y2 y3 y4 y5 y6 y7 y8 y9 y10 y11 y12 z0 z1 z2 z3 z4 z5 z6 z7 z8 z9 z10 z11 z12
 refine (C3.out _ B).mono ?_
 rintro e w4 ⟨rfl, bq⟩
 replace X := row_keep bq X
 replace Y := row_keep bq Y
 replace B := below_step B bq
 clear bq C3
 obtain ⟨y0, y1, y2, y3, y4, y5, y6, y7, y8, y9, y10, y11, y12⟩ := cells_fabric X
 obtain ⟨z0, z1, z2, z3, z4, z5, z6, z7, z8, z9, z10, z11, z12⟩ := cells_fabric Y
 go_wp2_with fail
 clear y0 y1 y2 y3 y4 y5 y6 y7 y8 y9 y10 y11 y12 z0 z1 z2 z3 z4 z5 z6 z7 z8 z9 z10 z11 z12
 refine (C4.out _ B).mono ?_
 rintro e w5 ⟨rfl, bq⟩
 replace X := row_keep bq X
 replace Y := row_keep bq Y
 replace B := below_step B bq
 clear bq C4
 obtain ⟨y0, y1, y2, y3, y4, y5, y6, y7, y8, y9, y10, y11, y12⟩ := cells_fabric X
 obtain ⟨z0, z1, z2, z3, z4, z5, z6, z7, z8, z9, z10, z11, z12⟩ := cells_fabric Y
 go_wp2_with fail
 clear y0 y1 y2 y3 y4 y5 y6 y7 y8 y9 y10 y11 y12 z0 z1 z2 z3 z4 z5 z6 z7 z8 z9 z10 z11 z12
 refine (C5.out _ B).mono ?_
 rintro e w6 ⟨rfl, bq⟩
 replace X := row_keep bq X
 replace Y := row_keep bq Y
 replace B := below_step B bq
 clear bq C5
 obtain ⟨y0, y1, y2, y3, y4, y5, y6, y7, y8, y9, y10, y11, y12⟩ := cells_fabric X
 obtain ⟨z0, z1, z2, z3, z4, z5, z6, z7, z8, z9, z10, z11, z12⟩ := cells_fabric Y
 clear X Y
 go_wp2
 go_ret
 exact ⟨rfl, B⟩
theorem own_fabric {w : World} {S S0 S1 S2 S3 S4 S5 : Foot} {v0 v1 v2 v3 v4 v5 v6 v7 v8 v9 v10 v11 v12 : Value} {x : FabricD}  (h0 : cfgR.own w S0 [v0, v1, v2, v3] x.1) (h1 : houseR.own w S1 [v4, v5] x.2.1) (h2 : coresR.own w S2 [v6] x.2.2.1) (h3 : dmaR.own w S3 [v7, v8, v9, v10] x.2.2.2.1) (h4 : msgsR.own w S4 [v11] x.2.2.2.2.1) (h5 : eventsR.own w S5 [v12] x.2.2.2.2.2) (s0 : Sub S0 S) (s1 : Sub S1 S) (s2 : Sub S2 S) (s3 : Sub S3 S) (s4 : Sub S4 S) (s5 : Sub S5 S) (d01 : Dis S0 S1) (d02 : Dis S0 S2) (d03 : Dis S0 S3) (d04 : Dis S0 S4) (d05 : Dis S0 S5) (d12 : Dis S1 S2) (d13 : Dis S1 S3) (d14 : Dis S1 S4) (d15 : Dis S1 S5) (d23 : Dis S2 S3) (d24 : Dis S2 S4) (d25 : Dis S2 S5) (d34 : Dis S3 S4) (d35 : Dis S3 S5) (d45 : Dis S4 S5) : fabricR.own w S [v0, v1, v2, v3, v4, v5, v6, v7, v8, v9, v10, v11, v12] x := by
 exact ⟨[v0, v1, v2, v3], [v4, v5, v6, v7, v8, v9, v10, v11, v12], S0, (fun q => S1 q ∨ (fun q => S2 q ∨ (fun q => S3 q ∨ (fun q => S4 q ∨ S5 q) q) q) q), rfl, h0, ⟨[v4, v5], [v6, v7, v8, v9, v10, v11, v12], S1, (fun q => S2 q ∨ (fun q => S3 q ∨ (fun q => S4 q ∨ S5 q) q) q), rfl, h1, ⟨[v6], [v7, v8, v9, v10, v11, v12], S2, (fun q => S3 q ∨ (fun q => S4 q ∨ S5 q) q), rfl, h2, ⟨[v7, v8, v9, v10], [v11, v12], S3, (fun q => S4 q ∨ S5 q), rfl, h3, ⟨[v11], [v12], S4, S5, rfl, h4, h5, (fun q h => .inl h), (fun q h => .inr h), (fun q a h => d45 q a h)⟩, (fun q h => .inl h), (fun q h => .inr h), (fun q a h => h.elim (fun ha => d34 q a ha) (fun hb => d35 q a hb))⟩, (fun q h => .inl h), (fun q h => .inr h), (fun q a h => h.elim (fun ha => d23 q a ha) (fun hb => hb.elim (fun hba => d24 q a hba) (fun hbb => d25 q a hbb)))⟩, (fun q h => .inl h), (fun q h => .inr h), (fun q a h => h.elim (fun ha => d12 q a ha) (fun hb => hb.elim (fun hba => d13 q a hba) (fun hbb => hbb.elim (fun hbba => d14 q a hbba) (fun hbbb => d15 q a hbbb))))⟩, s0, (fun q h => h.elim (fun ha => s1 q ha) (fun hb => hb.elim (fun hba => s2 q hba) (fun hbb => hbb.elim (fun hbba => s3 q hbba) (fun hbbb => hbbb.elim (fun hbbba => s4 q hbbba) (fun hbbbb => s5 q hbbbb))))), (fun q a h => h.elim (fun ha => d01 q a ha) (fun hb => hb.elim (fun hba => d02 q a hba) (fun hbb => hbb.elim (fun hbba => d03 q a hbba) (fun hbbb => hbbb.elim (fun hbbba => d04 q a hbbba) (fun hbbbb => d05 q a hbbbb)))))⟩
theorem froz_fabric {w : World} {g : Nat} {cs : Array Value} {t : TypeId} (h : w.heap[g]? = some (.cells cs t (0, 0))) : w.frozen? ⟨g, 0, none⟩ = false ∧ w.frozen? ⟨g, 1, none⟩ = false ∧ w.frozen? ⟨g, 2, none⟩ = false ∧ w.frozen? ⟨g, 3, none⟩ = false ∧ w.frozen? ⟨g, 4, none⟩ = false ∧ w.frozen? ⟨g, 5, none⟩ = false ∧ w.frozen? ⟨g, 6, none⟩ = false ∧ w.frozen? ⟨g, 7, none⟩ = false ∧ w.frozen? ⟨g, 8, none⟩ = false ∧ w.frozen? ⟨g, 9, none⟩ = false ∧ w.frozen? ⟨g, 10, none⟩ = false ∧ w.frozen? ⟨g, 11, none⟩ = false ∧ w.frozen? ⟨g, 12, none⟩ = false :=
 ⟨frozen_of_row w g 0 _ t h, frozen_of_row w g 1 _ t h, frozen_of_row w g 2 _ t h, frozen_of_row w g 3 _ t h, frozen_of_row w g 4 _ t h, frozen_of_row w g 5 _ t h, frozen_of_row w g 6 _ t h, frozen_of_row w g 7 _ t h, frozen_of_row w g 8 _ t h, frozen_of_row w g 9 _ t h, frozen_of_row w g 10 _ t h, frozen_of_row w g 11 _ t h, frozen_of_row w g 12 _ t h⟩
theorem put_fabric {w : World} {g : Nat} {x0 x1 x2 x3 x4 x5 x6 x7 x8 x9 x10 x11 x12 y0 y1 y2 y3 y4 y5 y6 y7 y8 y9 y10 y11 y12 : Value} {t : TypeId} (h : w.heap[g]? = some (.cells #[x0, x1, x2, x3, x4, x5, x6, x7, x8, x9, x10, x11, x12] t (0, 0))) : (((((((((((((w.setCell ⟨g, 0, none⟩ (y0)).setCell ⟨g, 1, none⟩ (y1)).setCell ⟨g, 2, none⟩ (y2)).setCell ⟨g, 3, none⟩ (y3)).setCell ⟨g, 4, none⟩ (y4)).setCell ⟨g, 5, none⟩ (y5)).setCell ⟨g, 6, none⟩ (y6)).setCell ⟨g, 7, none⟩ (y7)).setCell ⟨g, 8, none⟩ (y8)).setCell ⟨g, 9, none⟩ (y9)).setCell ⟨g, 10, none⟩ (y10)).setCell ⟨g, 11, none⟩ (y11)).setCell ⟨g, 12, none⟩ (y12)).heap[g]? = some (.cells #[y0, y1, y2, y3, y4, y5, y6, y7, y8, y9, y10, y11, y12] t (0, 0)) := by
 have h0 : (w.setCell ⟨g, 0, none⟩ (y0)).heap[g]? = some (.cells #[y0, x1, x2, x3, x4, x5, x6, x7, x8, x9, x10, x11, x12] t (0, 0)) := heap_setCell_same _ g 0 _ t y0 h
 have h1 : ((w.setCell ⟨g, 0, none⟩ (y0)).setCell ⟨g, 1, none⟩ (y1)).heap[g]? = some (.cells #[y0, y1, x2, x3, x4, x5, x6, x7, x8, x9, x10, x11, x12] t (0, 0)) := heap_setCell_same _ g 1 _ t y1 h0
 have h2 : (((w.setCell ⟨g, 0, none⟩ (y0)).setCell ⟨g, 1, none⟩ (y1)).setCell ⟨g, 2, none⟩ (y2)).heap[g]? = some (.cells #[y0, y1, y2, x3, x4, x5, x6, x7, x8, x9, x10, x11, x12] t (0, 0)) := heap_setCell_same _ g 2 _ t y2 h1
 have h3 : ((((w.setCell ⟨g, 0, none⟩ (y0)).setCell ⟨g, 1, none⟩ (y1)).setCell ⟨g, 2, none⟩ (y2)).setCell ⟨g, 3, none⟩ (y3)).heap[g]? = some (.cells #[y0, y1, y2, y3, x4, x5, x6, x7, x8, x9, x10, x11, x12] t (0, 0)) := heap_setCell_same _ g 3 _ t y3 h2
 have h4 : (((((w.setCell ⟨g, 0, none⟩ (y0)).setCell ⟨g, 1, none⟩ (y1)).setCell ⟨g, 2, none⟩ (y2)).setCell ⟨g, 3, none⟩ (y3)).setCell ⟨g, 4, none⟩ (y4)).heap[g]? = some (.cells #[y0, y1, y2, y3, y4, x5, x6, x7, x8, x9, x10, x11, x12] t (0, 0)) := heap_setCell_same _ g 4 _ t y4 h3
 have h5 : ((((((w.setCell ⟨g, 0, none⟩ (y0)).setCell ⟨g, 1, none⟩ (y1)).setCell ⟨g, 2, none⟩ (y2)).setCell ⟨g, 3, none⟩ (y3)).setCell ⟨g, 4, none⟩ (y4)).setCell ⟨g, 5, none⟩ (y5)).heap[g]? = some (.cells #[y0, y1, y2, y3, y4, y5, x6, x7, x8, x9, x10, x11, x12] t (0, 0)) := heap_setCell_same _ g 5 _ t y5 h4
 have h6 : (((((((w.setCell ⟨g, 0, none⟩ (y0)).setCell ⟨g, 1, none⟩ (y1)).setCell ⟨g, 2, none⟩ (y2)).setCell ⟨g, 3, none⟩ (y3)).setCell ⟨g, 4, none⟩ (y4)).setCell ⟨g, 5, none⟩ (y5)).setCell ⟨g, 6, none⟩ (y6)).heap[g]? = some (.cells #[y0, y1, y2, y3, y4, y5, y6, x7, x8, x9, x10, x11, x12] t (0, 0)) := heap_setCell_same _ g 6 _ t y6 h5
 have h7 : ((((((((w.setCell ⟨g, 0, none⟩ (y0)).setCell ⟨g, 1, none⟩ (y1)).setCell ⟨g, 2, none⟩ (y2)).setCell ⟨g, 3, none⟩ (y3)).setCell ⟨g, 4, none⟩ (y4)).setCell ⟨g, 5, none⟩ (y5)).setCell ⟨g, 6, none⟩ (y6)).setCell ⟨g, 7, none⟩ (y7)).heap[g]? = some (.cells #[y0, y1, y2, y3, y4, y5, y6, y7, x8, x9, x10, x11, x12] t (0, 0)) := heap_setCell_same _ g 7 _ t y7 h6
 have h8 : (((((((((w.setCell ⟨g, 0, none⟩ (y0)).setCell ⟨g, 1, none⟩ (y1)).setCell ⟨g, 2, none⟩ (y2)).setCell ⟨g, 3, none⟩ (y3)).setCell ⟨g, 4, none⟩ (y4)).setCell ⟨g, 5, none⟩ (y5)).setCell ⟨g, 6, none⟩ (y6)).setCell ⟨g, 7, none⟩ (y7)).setCell ⟨g, 8, none⟩ (y8)).heap[g]? = some (.cells #[y0, y1, y2, y3, y4, y5, y6, y7, y8, x9, x10, x11, x12] t (0, 0)) := heap_setCell_same _ g 8 _ t y8 h7
 have h9 : ((((((((((w.setCell ⟨g, 0, none⟩ (y0)).setCell ⟨g, 1, none⟩ (y1)).setCell ⟨g, 2, none⟩ (y2)).setCell ⟨g, 3, none⟩ (y3)).setCell ⟨g, 4, none⟩ (y4)).setCell ⟨g, 5, none⟩ (y5)).setCell ⟨g, 6, none⟩ (y6)).setCell ⟨g, 7, none⟩ (y7)).setCell ⟨g, 8, none⟩ (y8)).setCell ⟨g, 9, none⟩ (y9)).heap[g]? = some (.cells #[y0, y1, y2, y3, y4, y5, y6, y7, y8, y9, x10, x11, x12] t (0, 0)) := heap_setCell_same _ g 9 _ t y9 h8
 have h10 : (((((((((((w.setCell ⟨g, 0, none⟩ (y0)).setCell ⟨g, 1, none⟩ (y1)).setCell ⟨g, 2, none⟩ (y2)).setCell ⟨g, 3, none⟩ (y3)).setCell ⟨g, 4, none⟩ (y4)).setCell ⟨g, 5, none⟩ (y5)).setCell ⟨g, 6, none⟩ (y6)).setCell ⟨g, 7, none⟩ (y7)).setCell ⟨g, 8, none⟩ (y8)).setCell ⟨g, 9, none⟩ (y9)).setCell ⟨g, 10, none⟩ (y10)).heap[g]? = some (.cells #[y0, y1, y2, y3, y4, y5, y6, y7, y8, y9, y10, x11, x12] t (0, 0)) := heap_setCell_same _ g 10 _ t y10 h9
 have h11 : ((((((((((((w.setCell ⟨g, 0, none⟩ (y0)).setCell ⟨g, 1, none⟩ (y1)).setCell ⟨g, 2, none⟩ (y2)).setCell ⟨g, 3, none⟩ (y3)).setCell ⟨g, 4, none⟩ (y4)).setCell ⟨g, 5, none⟩ (y5)).setCell ⟨g, 6, none⟩ (y6)).setCell ⟨g, 7, none⟩ (y7)).setCell ⟨g, 8, none⟩ (y8)).setCell ⟨g, 9, none⟩ (y9)).setCell ⟨g, 10, none⟩ (y10)).setCell ⟨g, 11, none⟩ (y11)).heap[g]? = some (.cells #[y0, y1, y2, y3, y4, y5, y6, y7, y8, y9, y10, y11, x12] t (0, 0)) := heap_setCell_same _ g 11 _ t y11 h10
 have h12 : (((((((((((((w.setCell ⟨g, 0, none⟩ (y0)).setCell ⟨g, 1, none⟩ (y1)).setCell ⟨g, 2, none⟩ (y2)).setCell ⟨g, 3, none⟩ (y3)).setCell ⟨g, 4, none⟩ (y4)).setCell ⟨g, 5, none⟩ (y5)).setCell ⟨g, 6, none⟩ (y6)).setCell ⟨g, 7, none⟩ (y7)).setCell ⟨g, 8, none⟩ (y8)).setCell ⟨g, 9, none⟩ (y9)).setCell ⟨g, 10, none⟩ (y10)).setCell ⟨g, 11, none⟩ (y11)).setCell ⟨g, 12, none⟩ (y12)).heap[g]? = some (.cells #[y0, y1, y2, y3, y4, y5, y6, y7, y8, y9, y10, y11, y12] t (0, 0)) := heap_setCell_same _ g 12 _ t y12 h11
 exact h12
theorem toFabric_u : ToC 7 fabricR fabricM aggV := by
 intro cs x w h hm
 obtain ⟨v0, v1, v2, v3, v4, v5, v6, v7, v8, v9, v10, v11, v12, rfl, r0, r1, r2, r3, r4, r5⟩ := fabric_rd h
 clear h
 rw [show fabricM.bk x = 0 + (houseM.bk x.2.1 + (coresM.bk x.2.2.1 + (dmaM.bk x.2.2.2.1 + (msgsM.bk x.2.2.2.2.1 + eventsM.bk x.2.2.2.2.2)))) from rfl] at hm
 change Calls Tryz.prog 7 #[.agg #[v0, v1, v2, v3, v4, v5, v6, v7, v8, v9, v10, v11, v12]] w _
 have C0 : Hid (∀ W, Below w.heap.size w W → Calls Tryz.prog 19 #[.agg #[v0, v1, v2, v3]] W fun e w' => e = .returned (.agg #[.int .i64 x.1.1, .int .i64 x.1.2.1, .int .i64 x.1.2.2.1, .int .i64 x.1.2.2.2]) ∧ MadeR cfgR W w' [.int .i64 x.1.1, .int .i64 x.1.2.1, .int .i64 x.1.2.2.1, .int .i64 x.1.2.2.2] x.1) := fun W hb => (toConfig_u [v0, v1, v2, v3] _ W (rd_next r0 hb) (Nat.zero_le _)).mono (by rintro e w' ⟨ds, rfl, mm⟩; obtain ⟨rfl, -⟩ := cfg_rd4 (cfgR.own_rd mm.1); exact ⟨rfl, mm⟩)
 have C1 : Hid (∀ W, Below w.heap.size w W → Calls Tryz.prog 20 #[.agg #[v4, v5]] W fun e w' => ∃ a1 c1 b1 d1, e = .returned (.agg #[.slice a1 x.2.1.1.length c1, .slice b1 x.2.1.2.length d1]) ∧ MadeR houseR W w' [.slice a1 x.2.1.1.length c1, .slice b1 x.2.1.2.length d1] x.2.1) := fun W hb => (toHouse_u [v4, v5] _ W (rd_next r1 hb) (by omega)).mono (by rintro e w' ⟨ds, rfl, mm⟩; obtain ⟨a1, c1, b1, d1, rfl, -⟩ := house_shape1 (houseR.own_rd mm.1); exact ⟨a1, c1, b1, d1, rfl, mm⟩)
 have C2 : Hid (∀ W, Below w.heap.size w W → Calls Tryz.prog 21 #[v6] W fun e w' => ∃ a2 c2, e = .returned (.slice a2 x.2.2.1.length c2) ∧ MadeR coresR W w' [.slice a2 x.2.2.1.length c2] x.2.2.1) := fun W hb => (toCores_u [v6] _ W (rd_next r2 hb) (by omega)).mono (by rintro e w' ⟨ds, rfl, mm⟩; obtain ⟨a2, c2, rfl, -⟩ := coresR.own_rd mm.1; exact ⟨a2, c2, rfl, mm⟩)
 have C3 : Hid (∀ W, Below w.heap.size w W → Calls Tryz.prog 22 #[.agg #[v7, v8, v9, v10]] W fun e w' => ∃ a3 c3 b3 d3, e = .returned (.agg #[.slice a3 x.2.2.2.1.1.length c3, .int .i64 x.2.2.2.1.2.1, .bool x.2.2.2.1.2.2.1, .slice b3 x.2.2.2.1.2.2.2.length d3]) ∧ MadeR dmaR W w' [.slice a3 x.2.2.2.1.1.length c3, .int .i64 x.2.2.2.1.2.1, .bool x.2.2.2.1.2.2.1, .slice b3 x.2.2.2.1.2.2.2.length d3] x.2.2.2.1) := fun W hb => (toDma_u [v7, v8, v9, v10] _ W (rd_next r3 hb) (by omega)).mono (by rintro e w' ⟨ds, rfl, mm⟩; obtain ⟨a3, c3, b3, d3, rfl, -⟩ := dma_shape1 (dmaR.own_rd mm.1); exact ⟨a3, c3, b3, d3, rfl, mm⟩)
 have C4 : Hid (∀ W, Below w.heap.size w W → Calls Tryz.prog 23 #[v11] W fun e w' => ∃ a4 c4, e = .returned (.slice a4 x.2.2.2.2.1.length c4) ∧ MadeR msgsR W w' [.slice a4 x.2.2.2.2.1.length c4] x.2.2.2.2.1) := fun W hb => (toMsgs_u [v11] _ W (rd_next r4 hb) (by omega)).mono (by rintro e w' ⟨ds, rfl, mm⟩; obtain ⟨a4, c4, rfl, -⟩ := msgsR.own_rd mm.1; exact ⟨a4, c4, rfl, mm⟩)
 have C5 : Hid (∀ W, Below w.heap.size w W → Calls Tryz.prog 24 #[v12] W fun e w' => ∃ a5 c5, e = .returned (.slice a5 x.2.2.2.2.2.length c5) ∧ MadeR eventsR W w' [.slice a5 x.2.2.2.2.2.length c5] x.2.2.2.2.2) := fun W hb => (toEvents_u [v12] _ W (rd_next r5 hb) (by omega)).mono (by rintro e w' ⟨ds, rfl, mm⟩; obtain ⟨a5, c5, rfl, -⟩ := eventsR.own_rd mm.1; exact ⟨a5, c5, rfl, mm⟩)
 clear hm r0 r1 r2 r3 r4 r5
 have X0 := heap_on (.cells #[.int .i64 0, .int .i64 0, .int .i64 0, .int .i64 0, .slice none 0 0, .slice none 0 0, .slice none 0 0, .slice none 0 0, .int .i64 0, .bool false, .slice none 0 0, .slice none 0 0, .slice none 0 0] 49) (heap_on (.cells #[.int .i64 0, .int .i64 0, .int .i64 0, .int .i64 0, .slice none 0 0, .slice none 0 0, .slice none 0 0, .slice none 0 0, .int .i64 0, .bool false, .slice none 0 0, .slice none 0 0, .slice none 0 0] 49) (heap_at w (.cells #[v0, v1, v2, v3, v4, v5, v6, v7, v8, v9, v10, v11, v12] 35)))
 have X1 := heap_on (.cells #[.int .i64 0, .int .i64 0, .int .i64 0, .int .i64 0, .slice none 0 0, .slice none 0 0, .slice none 0 0, .slice none 0 0, .int .i64 0, .bool false, .slice none 0 0, .slice none 0 0, .slice none 0 0] 49) (heap_at (w.alloc (.cells #[v0, v1, v2, v3, v4, v5, v6, v7, v8, v9, v10, v11, v12] 35)) (.cells #[.int .i64 0, .int .i64 0, .int .i64 0, .int .i64 0, .slice none 0 0, .slice none 0 0, .slice none 0 0, .slice none 0 0, .int .i64 0, .bool false, .slice none 0 0, .slice none 0 0, .slice none 0 0] 49))
 have X2 := heap_at ((w.alloc (.cells #[v0, v1, v2, v3, v4, v5, v6, v7, v8, v9, v10, v11, v12] 35)).alloc (.cells #[.int .i64 0, .int .i64 0, .int .i64 0, .int .i64 0, .slice none 0 0, .slice none 0 0, .slice none 0 0, .slice none 0 0, .int .i64 0, .bool false, .slice none 0 0, .slice none 0 0, .slice none 0 0] 49)) (.cells #[.int .i64 0, .int .i64 0, .int .i64 0, .int .i64 0, .slice none 0 0, .slice none 0 0, .slice none 0 0, .slice none 0 0, .int .i64 0, .bool false, .slice none 0 0, .slice none 0 0, .slice none 0 0] 49)
 rw [alloc_len] at X1
 rw [alloc_len, alloc_len] at X2
 have B : Below w.heap.size w (((w.alloc (.cells #[v0, v1, v2, v3, v4, v5, v6, v7, v8, v9, v10, v11, v12] 35)).alloc (.cells #[.int .i64 0, .int .i64 0, .int .i64 0, .int .i64 0, .slice none 0 0, .slice none 0 0, .slice none 0 0, .slice none 0 0, .int .i64 0, .bool false, .slice none 0 0, .slice none 0 0, .slice none 0 0] 49)).alloc (.cells #[.int .i64 0, .int .i64 0, .int .i64 0, .int .i64 0, .slice none 0 0, .slice none 0 0, .slice none 0 0, .slice none 0 0, .int .i64 0, .bool false, .slice none 0 0, .slice none 0 0, .slice none 0 0] 49)) := (((Below.refl _ w).alloc (Nat.le_refl _) _).alloc (by simp) _).alloc (by simp; omega) _
 have e3 : w.heap.size + 1 + 1 + 1 ≤ (((w.alloc (.cells #[v0, v1, v2, v3, v4, v5, v6, v7, v8, v9, v10, v11, v12] 35)).alloc (.cells #[.int .i64 0, .int .i64 0, .int .i64 0, .int .i64 0, .slice none 0 0, .slice none 0 0, .slice none 0 0, .slice none 0 0, .int .i64 0, .bool false, .slice none 0 0, .slice none 0 0, .slice none 0 0] 49)).alloc (.cells #[.int .i64 0, .int .i64 0, .int .i64 0, .int .i64 0, .slice none 0 0, .slice none 0 0, .slice none 0 0, .slice none 0 0, .int .i64 0, .bool false, .slice none 0 0, .slice none 0 0, .slice none 0 0] 49)).heap.size := by simp
 go_enter Tryz.func7, Tryz.ntmps7
 go_wp2_with fail
 generalize ((w.alloc (.cells #[v0, v1, v2, v3, v4, v5, v6, v7, v8, v9, v10, v11, v12] 35)).alloc (.cells #[.int .i64 0, .int .i64 0, .int .i64 0, .int .i64 0, .slice none 0 0, .slice none 0 0, .slice none 0 0, .slice none 0 0, .int .i64 0, .bool false, .slice none 0 0, .slice none 0 0, .slice none 0 0] 49)).alloc (.cells #[.int .i64 0, .int .i64 0, .int .i64 0, .int .i64 0, .slice none 0 0, .slice none 0 0, .slice none 0 0, .slice none 0 0, .int .i64 0, .bool false, .slice none 0 0, .slice none 0 0, .slice none 0 0] 49) = u0 at X0 X1 X2 B e3 ⊢
 refine (C0.out _ B).mono ?_
 rintro e w1 ⟨rfl, mm⟩
 have hs0 := mm.2.size
 replace B := below_step B mm.2
 replace X0 := row_keep mm.2 X0
 replace X1 := row_keep mm.2 X1
 replace X2 := row_keep mm.2 X2
 have O0 := mm.1
 clear mm C0
 obtain ⟨p0, p1, p2, p3, p4, p5, p6, p7, p8, p9, p10, p11, p12⟩ := cells_fabric X0
 obtain ⟨y0, y1, y2, y3, y4, y5, y6, y7, y8, y9, y10, y11, y12⟩ := cells_fabric X2
 obtain ⟨f0, f1, f2, f3, f4, f5, f6, f7, f8, f9, f10, f11, f12⟩ := froz_fabric X2
 have HS : Hid _ := And.intro X0 (And.intro X1 (And.intro X2 (And.intro B (O0))))
 clear X0 X1 X2 B O0
 go_wp2_with fail
 clear p0 p1 p2 p3 p4 p5 p6 p7 p8 p9 p10 p11 p12 y0 y1 y2 y3 y4 y5 y6 y7 y8 y9 y10 y11 y12 f0 f1 f2 f3 f4 f5 f6 f7 f8 f9 f10 f11 f12
 obtain ⟨X0, X1, X2, B, O0⟩ := HS.out
 clear HS
 have k0 : (w1.setCell ⟨w.heap.size + 1 + 1, 0, none⟩ (.int .i64 x.1.1)).heap[w.heap.size + 1 + 1]? = some (.cells #[.int .i64 x.1.1, .int .i64 0, .int .i64 0, .int .i64 0, .slice none 0 0, .slice none 0 0, .slice none 0 0, .slice none 0 0, .int .i64 0, .bool false, .slice none 0 0, .slice none 0 0, .slice none 0 0] 49 (0, 0)) := heap_setCell_same _ (w.heap.size + 1 + 1) 0 _ _ (.int .i64 x.1.1) X2
 have k1 : ((w1.setCell ⟨w.heap.size + 1 + 1, 0, none⟩ (.int .i64 x.1.1)).setCell ⟨w.heap.size + 1 + 1, 1, none⟩ (.int .i64 x.1.2.1)).heap[w.heap.size + 1 + 1]? = some (.cells #[.int .i64 x.1.1, .int .i64 x.1.2.1, .int .i64 0, .int .i64 0, .slice none 0 0, .slice none 0 0, .slice none 0 0, .slice none 0 0, .int .i64 0, .bool false, .slice none 0 0, .slice none 0 0, .slice none 0 0] 49 (0, 0)) := heap_setCell_same _ (w.heap.size + 1 + 1) 1 _ _ (.int .i64 x.1.2.1) k0
 have k2 : (((w1.setCell ⟨w.heap.size + 1 + 1, 0, none⟩ (.int .i64 x.1.1)).setCell ⟨w.heap.size + 1 + 1, 1, none⟩ (.int .i64 x.1.2.1)).setCell ⟨w.heap.size + 1 + 1, 2, none⟩ (.int .i64 x.1.2.2.1)).heap[w.heap.size + 1 + 1]? = some (.cells #[.int .i64 x.1.1, .int .i64 x.1.2.1, .int .i64 x.1.2.2.1, .int .i64 0, .slice none 0 0, .slice none 0 0, .slice none 0 0, .slice none 0 0, .int .i64 0, .bool false, .slice none 0 0, .slice none 0 0, .slice none 0 0] 49 (0, 0)) := heap_setCell_same _ (w.heap.size + 1 + 1) 2 _ _ (.int .i64 x.1.2.2.1) k1
 have k3 : ((((w1.setCell ⟨w.heap.size + 1 + 1, 0, none⟩ (.int .i64 x.1.1)).setCell ⟨w.heap.size + 1 + 1, 1, none⟩ (.int .i64 x.1.2.1)).setCell ⟨w.heap.size + 1 + 1, 2, none⟩ (.int .i64 x.1.2.2.1)).setCell ⟨w.heap.size + 1 + 1, 3, none⟩ (.int .i64 x.1.2.2.2)).heap[w.heap.size + 1 + 1]? = some (.cells #[.int .i64 x.1.1, .int .i64 x.1.2.1, .int .i64 x.1.2.2.1, .int .i64 x.1.2.2.2, .slice none 0 0, .slice none 0 0, .slice none 0 0, .slice none 0 0, .int .i64 0, .bool false, .slice none 0 0, .slice none 0 0, .slice none 0 0] 49 (0, 0)) := heap_setCell_same _ (w.heap.size + 1 + 1) 3 _ _ (.int .i64 x.1.2.2.2) k2
 have qn0 := (heap_setC (g := w.heap.size + 1 + 1) (o := 3) (v := .int .i64 x.1.2.2.2) (heap_setC (g := w.heap.size + 1 + 1) (o := 2) (v := .int .i64 x.1.2.2.1) (heap_setC (g := w.heap.size + 1 + 1) (o := 1) (v := .int .i64 x.1.2.1) (heap_setC (g := w.heap.size + 1 + 1) (o := 0) (v := .int .i64 x.1.1) X0 (by omega)) (by omega)) (by omega)) (by omega))
 have qn1 := (heap_setC (g := w.heap.size + 1 + 1) (o := 3) (v := .int .i64 x.1.2.2.2) (heap_setC (g := w.heap.size + 1 + 1) (o := 2) (v := .int .i64 x.1.2.2.1) (heap_setC (g := w.heap.size + 1 + 1) (o := 1) (v := .int .i64 x.1.2.1) (heap_setC (g := w.heap.size + 1 + 1) (o := 0) (v := .int .i64 x.1.1) X1 (by omega)) (by omega)) (by omega)) (by omega))
 have qb1 : Below w.heap.size w ((((w1.setCell ⟨w.heap.size + 1 + 1, 0, none⟩ (.int .i64 x.1.1)).setCell ⟨w.heap.size + 1 + 1, 1, none⟩ (.int .i64 x.1.2.1)).setCell ⟨w.heap.size + 1 + 1, 2, none⟩ (.int .i64 x.1.2.2.1)).setCell ⟨w.heap.size + 1 + 1, 3, none⟩ (.int .i64 x.1.2.2.2)) := (below_setC (below_setC (below_setC (below_setC B (by omega)) (by omega)) (by omega)) (by omega))
 have qo0 : cfgR.own ((((w1.setCell ⟨w.heap.size + 1 + 1, 0, none⟩ (.int .i64 x.1.1)).setCell ⟨w.heap.size + 1 + 1, 1, none⟩ (.int .i64 x.1.2.1)).setCell ⟨w.heap.size + 1 + 1, 2, none⟩ (.int .i64 x.1.2.2.1)).setCell ⟨w.heap.size + 1 + 1, 3, none⟩ (.int .i64 x.1.2.2.2)) _ _ _ := (own_setC (own_setC (own_setC (own_setC O0 (fun h => by have := h.1; omega)) (fun h => by have := h.1; omega)) (fun h => by have := h.1; omega)) (fun h => by have := h.1; omega))
 have qz1 : w1.heap.size ≤ ((((w1.setCell ⟨w.heap.size + 1 + 1, 0, none⟩ (.int .i64 x.1.1)).setCell ⟨w.heap.size + 1 + 1, 1, none⟩ (.int .i64 x.1.2.1)).setCell ⟨w.heap.size + 1 + 1, 2, none⟩ (.int .i64 x.1.2.2.1)).setCell ⟨w.heap.size + 1 + 1, 3, none⟩ (.int .i64 x.1.2.2.2)).heap.size := by simp
 have qz2 : ((((w1.setCell ⟨w.heap.size + 1 + 1, 0, none⟩ (.int .i64 x.1.1)).setCell ⟨w.heap.size + 1 + 1, 1, none⟩ (.int .i64 x.1.2.1)).setCell ⟨w.heap.size + 1 + 1, 2, none⟩ (.int .i64 x.1.2.2.1)).setCell ⟨w.heap.size + 1 + 1, 3, none⟩ (.int .i64 x.1.2.2.2)).heap.size ≤ w1.heap.size := by simp
 clear X0 X1 X2 B O0 k0 k1 k2
 generalize ((((w1.setCell ⟨w.heap.size + 1 + 1, 0, none⟩ (.int .i64 x.1.1)).setCell ⟨w.heap.size + 1 + 1, 1, none⟩ (.int .i64 x.1.2.1)).setCell ⟨w.heap.size + 1 + 1, 2, none⟩ (.int .i64 x.1.2.2.1)).setCell ⟨w.heap.size + 1 + 1, 3, none⟩ (.int .i64 x.1.2.2.2)) = u1 at qn0 qn1 k3 qb1 qz1 qz2 qo0 ⊢
 have X0 := qn0
 have X1 := qn1
 have X2 := k3
 have B := qb1
 have O0 := qo0
 have za0 := qz1
 have zb0 := qz2
 clear qn0 qn1 k3 qb1 qz1 qz2 qo0
 refine (C1.out _ B).mono ?_
 rintro e w2 ⟨a1, c1, b1, d1, rfl, mm⟩
 have hs1 := mm.2.size
 replace B := below_step B mm.2
 replace X0 := row_keep mm.2 X0
 replace X1 := row_keep mm.2 X1
 replace X2 := row_keep mm.2 X2
 replace O0 := own_stay O0 mm.2 (by omega)
 have O1 := mm.1
 clear mm C1
 obtain ⟨p0, p1, p2, p3, p4, p5, p6, p7, p8, p9, p10, p11, p12⟩ := cells_fabric X0
 obtain ⟨y0, y1, y2, y3, y4, y5, y6, y7, y8, y9, y10, y11, y12⟩ := cells_fabric X2
 obtain ⟨f0, f1, f2, f3, f4, f5, f6, f7, f8, f9, f10, f11, f12⟩ := froz_fabric X2
 have HS : Hid _ := And.intro X0 (And.intro X1 (And.intro X2 (And.intro B (And.intro O0 (O1)))))
 clear X0 X1 X2 B O0 O1
 go_wp2_with fail
 clear p0 p1 p2 p3 p4 p5 p6 p7 p8 p9 p10 p11 p12 y0 y1 y2 y3 y4 y5 y6 y7 y8 y9 y10 y11 y12 f0 f1 f2 f3 f4 f5 f6 f7 f8 f9 f10 f11 f12
 obtain ⟨X0, X1, X2, B, O0, O1⟩ := HS.out
 clear HS
 have k0 : (w2.setCell ⟨w.heap.size + 1 + 1, 4, none⟩ (.slice a1 x.2.1.1.length c1)).heap[w.heap.size + 1 + 1]? = some (.cells #[.int .i64 x.1.1, .int .i64 x.1.2.1, .int .i64 x.1.2.2.1, .int .i64 x.1.2.2.2, .slice a1 x.2.1.1.length c1, .slice none 0 0, .slice none 0 0, .slice none 0 0, .int .i64 0, .bool false, .slice none 0 0, .slice none 0 0, .slice none 0 0] 49 (0, 0)) := heap_setCell_same _ (w.heap.size + 1 + 1) 4 _ _ (.slice a1 x.2.1.1.length c1) X2
 have k1 : ((w2.setCell ⟨w.heap.size + 1 + 1, 4, none⟩ (.slice a1 x.2.1.1.length c1)).setCell ⟨w.heap.size + 1 + 1, 5, none⟩ (.slice b1 x.2.1.2.length d1)).heap[w.heap.size + 1 + 1]? = some (.cells #[.int .i64 x.1.1, .int .i64 x.1.2.1, .int .i64 x.1.2.2.1, .int .i64 x.1.2.2.2, .slice a1 x.2.1.1.length c1, .slice b1 x.2.1.2.length d1, .slice none 0 0, .slice none 0 0, .int .i64 0, .bool false, .slice none 0 0, .slice none 0 0, .slice none 0 0] 49 (0, 0)) := heap_setCell_same _ (w.heap.size + 1 + 1) 5 _ _ (.slice b1 x.2.1.2.length d1) k0
 have qn0 := (heap_setC (g := w.heap.size + 1 + 1) (o := 5) (v := .slice b1 x.2.1.2.length d1) (heap_setC (g := w.heap.size + 1 + 1) (o := 4) (v := .slice a1 x.2.1.1.length c1) X0 (by omega)) (by omega))
 have qn1 := (heap_setC (g := w.heap.size + 1 + 1) (o := 5) (v := .slice b1 x.2.1.2.length d1) (heap_setC (g := w.heap.size + 1 + 1) (o := 4) (v := .slice a1 x.2.1.1.length c1) X1 (by omega)) (by omega))
 have qb1 : Below w.heap.size w ((w2.setCell ⟨w.heap.size + 1 + 1, 4, none⟩ (.slice a1 x.2.1.1.length c1)).setCell ⟨w.heap.size + 1 + 1, 5, none⟩ (.slice b1 x.2.1.2.length d1)) := (below_setC (below_setC B (by omega)) (by omega))
 have qo0 : cfgR.own ((w2.setCell ⟨w.heap.size + 1 + 1, 4, none⟩ (.slice a1 x.2.1.1.length c1)).setCell ⟨w.heap.size + 1 + 1, 5, none⟩ (.slice b1 x.2.1.2.length d1)) _ _ _ := (own_setC (own_setC O0 (fun h => by have := h.1; omega)) (fun h => by have := h.1; omega))
 have qo1 : houseR.own ((w2.setCell ⟨w.heap.size + 1 + 1, 4, none⟩ (.slice a1 x.2.1.1.length c1)).setCell ⟨w.heap.size + 1 + 1, 5, none⟩ (.slice b1 x.2.1.2.length d1)) _ _ _ := (own_setC (own_setC O1 (fun h => by have := h.1; omega)) (fun h => by have := h.1; omega))
 have qz1 : w2.heap.size ≤ ((w2.setCell ⟨w.heap.size + 1 + 1, 4, none⟩ (.slice a1 x.2.1.1.length c1)).setCell ⟨w.heap.size + 1 + 1, 5, none⟩ (.slice b1 x.2.1.2.length d1)).heap.size := by simp
 have qz2 : ((w2.setCell ⟨w.heap.size + 1 + 1, 4, none⟩ (.slice a1 x.2.1.1.length c1)).setCell ⟨w.heap.size + 1 + 1, 5, none⟩ (.slice b1 x.2.1.2.length d1)).heap.size ≤ w2.heap.size := by simp
 clear X0 X1 X2 B O0 O1 k0
 generalize ((w2.setCell ⟨w.heap.size + 1 + 1, 4, none⟩ (.slice a1 x.2.1.1.length c1)).setCell ⟨w.heap.size + 1 + 1, 5, none⟩ (.slice b1 x.2.1.2.length d1)) = u2 at qn0 qn1 k1 qb1 qz1 qz2 qo0 qo1 ⊢
 have X0 := qn0
 have X1 := qn1
 have X2 := k1
 have B := qb1
 have O0 := qo0
 have O1 := qo1
 have za1 := qz1
 have zb1 := qz2
 clear qn0 qn1 k1 qb1 qz1 qz2 qo0 qo1
 refine (C2.out _ B).mono ?_
 rintro e w3 ⟨a2, c2, rfl, mm⟩
 have hs2 := mm.2.size
 replace B := below_step B mm.2
 replace X0 := row_keep mm.2 X0
 replace X1 := row_keep mm.2 X1
 replace X2 := row_keep mm.2 X2
 replace O0 := own_stay O0 mm.2 (by omega)
 replace O1 := own_stay O1 mm.2 (by omega)
 have O2 := mm.1
 clear mm C2
 obtain ⟨p0, p1, p2, p3, p4, p5, p6, p7, p8, p9, p10, p11, p12⟩ := cells_fabric X0
 obtain ⟨y0, y1, y2, y3, y4, y5, y6, y7, y8, y9, y10, y11, y12⟩ := cells_fabric X2
 obtain ⟨f0, f1, f2, f3, f4, f5, f6, f7, f8, f9, f10, f11, f12⟩ := froz_fabric X2
 have HS : Hid _ := And.intro X0 (And.intro X1 (And.intro X2 (And.intro B (And.intro O0 (And.intro O1 (O2))))))
 clear X0 X1 X2 B O0 O1 O2
 go_wp2_with fail
 clear p0 p1 p2 p3 p4 p5 p6 p7 p8 p9 p10 p11 p12 y0 y1 y2 y3 y4 y5 y6 y7 y8 y9 y10 y11 y12 f0 f1 f2 f3 f4 f5 f6 f7 f8 f9 f10 f11 f12
 obtain ⟨X0, X1, X2, B, O0, O1, O2⟩ := HS.out
 clear HS
 have k0 : (w3.setCell ⟨w.heap.size + 1 + 1, 6, none⟩ (.slice a2 x.2.2.1.length c2)).heap[w.heap.size + 1 + 1]? = some (.cells #[.int .i64 x.1.1, .int .i64 x.1.2.1, .int .i64 x.1.2.2.1, .int .i64 x.1.2.2.2, .slice a1 x.2.1.1.length c1, .slice b1 x.2.1.2.length d1, .slice a2 x.2.2.1.length c2, .slice none 0 0, .int .i64 0, .bool false, .slice none 0 0, .slice none 0 0, .slice none 0 0] 49 (0, 0)) := heap_setCell_same _ (w.heap.size + 1 + 1) 6 _ _ (.slice a2 x.2.2.1.length c2) X2
 have qn0 := (heap_setC (g := w.heap.size + 1 + 1) (o := 6) (v := .slice a2 x.2.2.1.length c2) X0 (by omega))
 have qn1 := (heap_setC (g := w.heap.size + 1 + 1) (o := 6) (v := .slice a2 x.2.2.1.length c2) X1 (by omega))
 have qb1 : Below w.heap.size w (w3.setCell ⟨w.heap.size + 1 + 1, 6, none⟩ (.slice a2 x.2.2.1.length c2)) := (below_setC B (by omega))
 have qo0 : cfgR.own (w3.setCell ⟨w.heap.size + 1 + 1, 6, none⟩ (.slice a2 x.2.2.1.length c2)) _ _ _ := (own_setC O0 (fun h => by have := h.1; omega))
 have qo1 : houseR.own (w3.setCell ⟨w.heap.size + 1 + 1, 6, none⟩ (.slice a2 x.2.2.1.length c2)) _ _ _ := (own_setC O1 (fun h => by have := h.1; omega))
 have qo2 : coresR.own (w3.setCell ⟨w.heap.size + 1 + 1, 6, none⟩ (.slice a2 x.2.2.1.length c2)) _ _ _ := (own_setC O2 (fun h => by have := h.1; omega))
 have qz1 : w3.heap.size ≤ (w3.setCell ⟨w.heap.size + 1 + 1, 6, none⟩ (.slice a2 x.2.2.1.length c2)).heap.size := by simp
 have qz2 : (w3.setCell ⟨w.heap.size + 1 + 1, 6, none⟩ (.slice a2 x.2.2.1.length c2)).heap.size ≤ w3.heap.size := by simp
 clear X0 X1 X2 B O0 O1 O2 
 generalize (w3.setCell ⟨w.heap.size + 1 + 1, 6, none⟩ (.slice a2 x.2.2.1.length c2)) = u3 at qn0 qn1 k0 qb1 qz1 qz2 qo0 qo1 qo2 ⊢
 have X0 := qn0
 have X1 := qn1
 have X2 := k0
 have B := qb1
 have O0 := qo0
 have O1 := qo1
 have O2 := qo2
 have za2 := qz1
 have zb2 := qz2
 clear qn0 qn1 k0 qb1 qz1 qz2 qo0 qo1 qo2
 refine (C3.out _ B).mono ?_
 rintro e w4 ⟨a3, c3, b3, d3, rfl, mm⟩
 have hs3 := mm.2.size
 replace B := below_step B mm.2
 replace X0 := row_keep mm.2 X0
 replace X1 := row_keep mm.2 X1
 replace X2 := row_keep mm.2 X2
 replace O0 := own_stay O0 mm.2 (by omega)
 replace O1 := own_stay O1 mm.2 (by omega)
 replace O2 := own_stay O2 mm.2 (by omega)
 have O3 := mm.1
 clear mm C3
 obtain ⟨p0, p1, p2, p3, p4, p5, p6, p7, p8, p9, p10, p11, p12⟩ := cells_fabric X0
 obtain ⟨y0, y1, y2, y3, y4, y5, y6, y7, y8, y9, y10, y11, y12⟩ := cells_fabric X2
 obtain ⟨f0, f1, f2, f3, f4, f5, f6, f7, f8, f9, f10, f11, f12⟩ := froz_fabric X2
 have HS : Hid _ := And.intro X0 (And.intro X1 (And.intro X2 (And.intro B (And.intro O0 (And.intro O1 (And.intro O2 (O3)))))))
 clear X0 X1 X2 B O0 O1 O2 O3
 go_wp2_with fail
 clear p0 p1 p2 p3 p4 p5 p6 p7 p8 p9 p10 p11 p12 y0 y1 y2 y3 y4 y5 y6 y7 y8 y9 y10 y11 y12 f0 f1 f2 f3 f4 f5 f6 f7 f8 f9 f10 f11 f12
 obtain ⟨X0, X1, X2, B, O0, O1, O2, O3⟩ := HS.out
 clear HS
 have k0 : (w4.setCell ⟨w.heap.size + 1 + 1, 7, none⟩ (.slice a3 x.2.2.2.1.1.length c3)).heap[w.heap.size + 1 + 1]? = some (.cells #[.int .i64 x.1.1, .int .i64 x.1.2.1, .int .i64 x.1.2.2.1, .int .i64 x.1.2.2.2, .slice a1 x.2.1.1.length c1, .slice b1 x.2.1.2.length d1, .slice a2 x.2.2.1.length c2, .slice a3 x.2.2.2.1.1.length c3, .int .i64 0, .bool false, .slice none 0 0, .slice none 0 0, .slice none 0 0] 49 (0, 0)) := heap_setCell_same _ (w.heap.size + 1 + 1) 7 _ _ (.slice a3 x.2.2.2.1.1.length c3) X2
 have k1 : ((w4.setCell ⟨w.heap.size + 1 + 1, 7, none⟩ (.slice a3 x.2.2.2.1.1.length c3)).setCell ⟨w.heap.size + 1 + 1, 8, none⟩ (.int .i64 x.2.2.2.1.2.1)).heap[w.heap.size + 1 + 1]? = some (.cells #[.int .i64 x.1.1, .int .i64 x.1.2.1, .int .i64 x.1.2.2.1, .int .i64 x.1.2.2.2, .slice a1 x.2.1.1.length c1, .slice b1 x.2.1.2.length d1, .slice a2 x.2.2.1.length c2, .slice a3 x.2.2.2.1.1.length c3, .int .i64 x.2.2.2.1.2.1, .bool false, .slice none 0 0, .slice none 0 0, .slice none 0 0] 49 (0, 0)) := heap_setCell_same _ (w.heap.size + 1 + 1) 8 _ _ (.int .i64 x.2.2.2.1.2.1) k0
 have k2 : (((w4.setCell ⟨w.heap.size + 1 + 1, 7, none⟩ (.slice a3 x.2.2.2.1.1.length c3)).setCell ⟨w.heap.size + 1 + 1, 8, none⟩ (.int .i64 x.2.2.2.1.2.1)).setCell ⟨w.heap.size + 1 + 1, 9, none⟩ (.bool x.2.2.2.1.2.2.1)).heap[w.heap.size + 1 + 1]? = some (.cells #[.int .i64 x.1.1, .int .i64 x.1.2.1, .int .i64 x.1.2.2.1, .int .i64 x.1.2.2.2, .slice a1 x.2.1.1.length c1, .slice b1 x.2.1.2.length d1, .slice a2 x.2.2.1.length c2, .slice a3 x.2.2.2.1.1.length c3, .int .i64 x.2.2.2.1.2.1, .bool x.2.2.2.1.2.2.1, .slice none 0 0, .slice none 0 0, .slice none 0 0] 49 (0, 0)) := heap_setCell_same _ (w.heap.size + 1 + 1) 9 _ _ (.bool x.2.2.2.1.2.2.1) k1
 have k3 : ((((w4.setCell ⟨w.heap.size + 1 + 1, 7, none⟩ (.slice a3 x.2.2.2.1.1.length c3)).setCell ⟨w.heap.size + 1 + 1, 8, none⟩ (.int .i64 x.2.2.2.1.2.1)).setCell ⟨w.heap.size + 1 + 1, 9, none⟩ (.bool x.2.2.2.1.2.2.1)).setCell ⟨w.heap.size + 1 + 1, 10, none⟩ (.slice b3 x.2.2.2.1.2.2.2.length d3)).heap[w.heap.size + 1 + 1]? = some (.cells #[.int .i64 x.1.1, .int .i64 x.1.2.1, .int .i64 x.1.2.2.1, .int .i64 x.1.2.2.2, .slice a1 x.2.1.1.length c1, .slice b1 x.2.1.2.length d1, .slice a2 x.2.2.1.length c2, .slice a3 x.2.2.2.1.1.length c3, .int .i64 x.2.2.2.1.2.1, .bool x.2.2.2.1.2.2.1, .slice b3 x.2.2.2.1.2.2.2.length d3, .slice none 0 0, .slice none 0 0] 49 (0, 0)) := heap_setCell_same _ (w.heap.size + 1 + 1) 10 _ _ (.slice b3 x.2.2.2.1.2.2.2.length d3) k2
 have qn0 := (heap_setC (g := w.heap.size + 1 + 1) (o := 10) (v := .slice b3 x.2.2.2.1.2.2.2.length d3) (heap_setC (g := w.heap.size + 1 + 1) (o := 9) (v := .bool x.2.2.2.1.2.2.1) (heap_setC (g := w.heap.size + 1 + 1) (o := 8) (v := .int .i64 x.2.2.2.1.2.1) (heap_setC (g := w.heap.size + 1 + 1) (o := 7) (v := .slice a3 x.2.2.2.1.1.length c3) X0 (by omega)) (by omega)) (by omega)) (by omega))
 have qn1 := (heap_setC (g := w.heap.size + 1 + 1) (o := 10) (v := .slice b3 x.2.2.2.1.2.2.2.length d3) (heap_setC (g := w.heap.size + 1 + 1) (o := 9) (v := .bool x.2.2.2.1.2.2.1) (heap_setC (g := w.heap.size + 1 + 1) (o := 8) (v := .int .i64 x.2.2.2.1.2.1) (heap_setC (g := w.heap.size + 1 + 1) (o := 7) (v := .slice a3 x.2.2.2.1.1.length c3) X1 (by omega)) (by omega)) (by omega)) (by omega))
 have qb1 : Below w.heap.size w ((((w4.setCell ⟨w.heap.size + 1 + 1, 7, none⟩ (.slice a3 x.2.2.2.1.1.length c3)).setCell ⟨w.heap.size + 1 + 1, 8, none⟩ (.int .i64 x.2.2.2.1.2.1)).setCell ⟨w.heap.size + 1 + 1, 9, none⟩ (.bool x.2.2.2.1.2.2.1)).setCell ⟨w.heap.size + 1 + 1, 10, none⟩ (.slice b3 x.2.2.2.1.2.2.2.length d3)) := (below_setC (below_setC (below_setC (below_setC B (by omega)) (by omega)) (by omega)) (by omega))
 have qo0 : cfgR.own ((((w4.setCell ⟨w.heap.size + 1 + 1, 7, none⟩ (.slice a3 x.2.2.2.1.1.length c3)).setCell ⟨w.heap.size + 1 + 1, 8, none⟩ (.int .i64 x.2.2.2.1.2.1)).setCell ⟨w.heap.size + 1 + 1, 9, none⟩ (.bool x.2.2.2.1.2.2.1)).setCell ⟨w.heap.size + 1 + 1, 10, none⟩ (.slice b3 x.2.2.2.1.2.2.2.length d3)) _ _ _ := (own_setC (own_setC (own_setC (own_setC O0 (fun h => by have := h.1; omega)) (fun h => by have := h.1; omega)) (fun h => by have := h.1; omega)) (fun h => by have := h.1; omega))
 have qo1 : houseR.own ((((w4.setCell ⟨w.heap.size + 1 + 1, 7, none⟩ (.slice a3 x.2.2.2.1.1.length c3)).setCell ⟨w.heap.size + 1 + 1, 8, none⟩ (.int .i64 x.2.2.2.1.2.1)).setCell ⟨w.heap.size + 1 + 1, 9, none⟩ (.bool x.2.2.2.1.2.2.1)).setCell ⟨w.heap.size + 1 + 1, 10, none⟩ (.slice b3 x.2.2.2.1.2.2.2.length d3)) _ _ _ := (own_setC (own_setC (own_setC (own_setC O1 (fun h => by have := h.1; omega)) (fun h => by have := h.1; omega)) (fun h => by have := h.1; omega)) (fun h => by have := h.1; omega))
 have qo2 : coresR.own ((((w4.setCell ⟨w.heap.size + 1 + 1, 7, none⟩ (.slice a3 x.2.2.2.1.1.length c3)).setCell ⟨w.heap.size + 1 + 1, 8, none⟩ (.int .i64 x.2.2.2.1.2.1)).setCell ⟨w.heap.size + 1 + 1, 9, none⟩ (.bool x.2.2.2.1.2.2.1)).setCell ⟨w.heap.size + 1 + 1, 10, none⟩ (.slice b3 x.2.2.2.1.2.2.2.length d3)) _ _ _ := (own_setC (own_setC (own_setC (own_setC O2 (fun h => by have := h.1; omega)) (fun h => by have := h.1; omega)) (fun h => by have := h.1; omega)) (fun h => by have := h.1; omega))
 have qo3 : dmaR.own ((((w4.setCell ⟨w.heap.size + 1 + 1, 7, none⟩ (.slice a3 x.2.2.2.1.1.length c3)).setCell ⟨w.heap.size + 1 + 1, 8, none⟩ (.int .i64 x.2.2.2.1.2.1)).setCell ⟨w.heap.size + 1 + 1, 9, none⟩ (.bool x.2.2.2.1.2.2.1)).setCell ⟨w.heap.size + 1 + 1, 10, none⟩ (.slice b3 x.2.2.2.1.2.2.2.length d3)) _ _ _ := (own_setC (own_setC (own_setC (own_setC O3 (fun h => by have := h.1; omega)) (fun h => by have := h.1; omega)) (fun h => by have := h.1; omega)) (fun h => by have := h.1; omega))
 have qz1 : w4.heap.size ≤ ((((w4.setCell ⟨w.heap.size + 1 + 1, 7, none⟩ (.slice a3 x.2.2.2.1.1.length c3)).setCell ⟨w.heap.size + 1 + 1, 8, none⟩ (.int .i64 x.2.2.2.1.2.1)).setCell ⟨w.heap.size + 1 + 1, 9, none⟩ (.bool x.2.2.2.1.2.2.1)).setCell ⟨w.heap.size + 1 + 1, 10, none⟩ (.slice b3 x.2.2.2.1.2.2.2.length d3)).heap.size := by simp
 have qz2 : ((((w4.setCell ⟨w.heap.size + 1 + 1, 7, none⟩ (.slice a3 x.2.2.2.1.1.length c3)).setCell ⟨w.heap.size + 1 + 1, 8, none⟩ (.int .i64 x.2.2.2.1.2.1)).setCell ⟨w.heap.size + 1 + 1, 9, none⟩ (.bool x.2.2.2.1.2.2.1)).setCell ⟨w.heap.size + 1 + 1, 10, none⟩ (.slice b3 x.2.2.2.1.2.2.2.length d3)).heap.size ≤ w4.heap.size := by simp
 clear X0 X1 X2 B O0 O1 O2 O3 k0 k1 k2
 generalize ((((w4.setCell ⟨w.heap.size + 1 + 1, 7, none⟩ (.slice a3 x.2.2.2.1.1.length c3)).setCell ⟨w.heap.size + 1 + 1, 8, none⟩ (.int .i64 x.2.2.2.1.2.1)).setCell ⟨w.heap.size + 1 + 1, 9, none⟩ (.bool x.2.2.2.1.2.2.1)).setCell ⟨w.heap.size + 1 + 1, 10, none⟩ (.slice b3 x.2.2.2.1.2.2.2.length d3)) = u4 at qn0 qn1 k3 qb1 qz1 qz2 qo0 qo1 qo2 qo3 ⊢
 have X0 := qn0
 have X1 := qn1
 have X2 := k3
 have B := qb1
 have O0 := qo0
 have O1 := qo1
 have O2 := qo2
 have O3 := qo3
 have za3 := qz1
 have zb3 := qz2
 clear qn0 qn1 k3 qb1 qz1 qz2 qo0 qo1 qo2 qo3
 refine (C4.out _ B).mono ?_
 rintro e w5 ⟨a4, c4, rfl, mm⟩
 have hs4 := mm.2.size
 replace B := below_step B mm.2
 replace X0 := row_keep mm.2 X0
 replace X1 := row_keep mm.2 X1
 replace X2 := row_keep mm.2 X2
 replace O0 := own_stay O0 mm.2 (by omega)
 replace O1 := own_stay O1 mm.2 (by omega)
 replace O2 := own_stay O2 mm.2 (by omega)
 replace O3 := own_stay O3 mm.2 (by omega)
 have O4 := mm.1
 clear mm C4
 obtain ⟨p0, p1, p2, p3, p4, p5, p6, p7, p8, p9, p10, p11, p12⟩ := cells_fabric X0
 obtain ⟨y0, y1, y2, y3, y4, y5, y6, y7, y8, y9, y10, y11, y12⟩ := cells_fabric X2
 obtain ⟨f0, f1, f2, f3, f4, f5, f6, f7, f8, f9, f10, f11, f12⟩ := froz_fabric X2
 have HS : Hid _ := And.intro X0 (And.intro X1 (And.intro X2 (And.intro B (And.intro O0 (And.intro O1 (And.intro O2 (And.intro O3 (O4))))))))
 clear X0 X1 X2 B O0 O1 O2 O3 O4
 go_wp2_with fail
 clear p0 p1 p2 p3 p4 p5 p6 p7 p8 p9 p10 p11 p12 y0 y1 y2 y3 y4 y5 y6 y7 y8 y9 y10 y11 y12 f0 f1 f2 f3 f4 f5 f6 f7 f8 f9 f10 f11 f12
 obtain ⟨X0, X1, X2, B, O0, O1, O2, O3, O4⟩ := HS.out
 clear HS
 have k0 : (w5.setCell ⟨w.heap.size + 1 + 1, 11, none⟩ (.slice a4 x.2.2.2.2.1.length c4)).heap[w.heap.size + 1 + 1]? = some (.cells #[.int .i64 x.1.1, .int .i64 x.1.2.1, .int .i64 x.1.2.2.1, .int .i64 x.1.2.2.2, .slice a1 x.2.1.1.length c1, .slice b1 x.2.1.2.length d1, .slice a2 x.2.2.1.length c2, .slice a3 x.2.2.2.1.1.length c3, .int .i64 x.2.2.2.1.2.1, .bool x.2.2.2.1.2.2.1, .slice b3 x.2.2.2.1.2.2.2.length d3, .slice a4 x.2.2.2.2.1.length c4, .slice none 0 0] 49 (0, 0)) := heap_setCell_same _ (w.heap.size + 1 + 1) 11 _ _ (.slice a4 x.2.2.2.2.1.length c4) X2
 have qn0 := (heap_setC (g := w.heap.size + 1 + 1) (o := 11) (v := .slice a4 x.2.2.2.2.1.length c4) X0 (by omega))
 have qn1 := (heap_setC (g := w.heap.size + 1 + 1) (o := 11) (v := .slice a4 x.2.2.2.2.1.length c4) X1 (by omega))
 have qb1 : Below w.heap.size w (w5.setCell ⟨w.heap.size + 1 + 1, 11, none⟩ (.slice a4 x.2.2.2.2.1.length c4)) := (below_setC B (by omega))
 have qo0 : cfgR.own (w5.setCell ⟨w.heap.size + 1 + 1, 11, none⟩ (.slice a4 x.2.2.2.2.1.length c4)) _ _ _ := (own_setC O0 (fun h => by have := h.1; omega))
 have qo1 : houseR.own (w5.setCell ⟨w.heap.size + 1 + 1, 11, none⟩ (.slice a4 x.2.2.2.2.1.length c4)) _ _ _ := (own_setC O1 (fun h => by have := h.1; omega))
 have qo2 : coresR.own (w5.setCell ⟨w.heap.size + 1 + 1, 11, none⟩ (.slice a4 x.2.2.2.2.1.length c4)) _ _ _ := (own_setC O2 (fun h => by have := h.1; omega))
 have qo3 : dmaR.own (w5.setCell ⟨w.heap.size + 1 + 1, 11, none⟩ (.slice a4 x.2.2.2.2.1.length c4)) _ _ _ := (own_setC O3 (fun h => by have := h.1; omega))
 have qo4 : msgsR.own (w5.setCell ⟨w.heap.size + 1 + 1, 11, none⟩ (.slice a4 x.2.2.2.2.1.length c4)) _ _ _ := (own_setC O4 (fun h => by have := h.1; omega))
 have qz1 : w5.heap.size ≤ (w5.setCell ⟨w.heap.size + 1 + 1, 11, none⟩ (.slice a4 x.2.2.2.2.1.length c4)).heap.size := by simp
 have qz2 : (w5.setCell ⟨w.heap.size + 1 + 1, 11, none⟩ (.slice a4 x.2.2.2.2.1.length c4)).heap.size ≤ w5.heap.size := by simp
 clear X0 X1 X2 B O0 O1 O2 O3 O4 
 generalize (w5.setCell ⟨w.heap.size + 1 + 1, 11, none⟩ (.slice a4 x.2.2.2.2.1.length c4)) = u5 at qn0 qn1 k0 qb1 qz1 qz2 qo0 qo1 qo2 qo3 qo4 ⊢
 have X0 := qn0
 have X1 := qn1
 have X2 := k0
 have B := qb1
 have O0 := qo0
 have O1 := qo1
 have O2 := qo2
 have O3 := qo3
 have O4 := qo4
 have za4 := qz1
 have zb4 := qz2
 clear qn0 qn1 k0 qb1 qz1 qz2 qo0 qo1 qo2 qo3 qo4
 refine (C5.out _ B).mono ?_
 rintro e w6 ⟨a5, c5, rfl, mm⟩
 have hs5 := mm.2.size
 replace B := below_step B mm.2
 replace X0 := row_keep mm.2 X0
 replace X1 := row_keep mm.2 X1
 replace X2 := row_keep mm.2 X2
 replace O0 := own_stay O0 mm.2 (by omega)
 replace O1 := own_stay O1 mm.2 (by omega)
 replace O2 := own_stay O2 mm.2 (by omega)
 replace O3 := own_stay O3 mm.2 (by omega)
 replace O4 := own_stay O4 mm.2 (by omega)
 have O5 := mm.1
 clear mm C5
 obtain ⟨p0, p1, p2, p3, p4, p5, p6, p7, p8, p9, p10, p11, p12⟩ := cells_fabric X0
 obtain ⟨y0, y1, y2, y3, y4, y5, y6, y7, y8, y9, y10, y11, y12⟩ := cells_fabric X2
 obtain ⟨f0, f1, f2, f3, f4, f5, f6, f7, f8, f9, f10, f11, f12⟩ := froz_fabric X2
 obtain ⟨z0, z1, z2, z3, z4, z5, z6, z7, z8, z9, z10, z11, z12⟩ := cells_fabric X1
 obtain ⟨g0, g1, g2, g3, g4, g5, g6, g7, g8, g9, g10, g11, g12⟩ := froz_fabric X1
 have HS : Hid _ := And.intro X0 (And.intro X1 (And.intro X2 (And.intro B (And.intro O0 (And.intro O1 (And.intro O2 (And.intro O3 (And.intro O4 (O5)))))))))
 clear X0 X1 X2 B O0 O1 O2 O3 O4 O5
 go_wp2
 clear p0 p1 p2 p3 p4 p5 p6 p7 p8 p9 p10 p11 p12 y0 y1 y2 y3 y4 y5 y6 y7 y8 y9 y10 y11 y12 f0 f1 f2 f3 f4 f5 f6 f7 f8 f9 f10 f11 f12 z0 z1 z2 z3 z4 z5 z6 z7 z8 z9 z10 z11 z12 g0 g1 g2 g3 g4 g5 g6 g7 g8 g9 g10 g11 g12
 obtain ⟨X0, X1, X2, B, O0, O1, O2, O3, O4, O5⟩ := HS.out
 clear HS
 have k0 : (w6.setCell ⟨w.heap.size + 1 + 1, 12, none⟩ (.slice a5 x.2.2.2.2.2.length c5)).heap[w.heap.size + 1 + 1]? = some (.cells #[.int .i64 x.1.1, .int .i64 x.1.2.1, .int .i64 x.1.2.2.1, .int .i64 x.1.2.2.2, .slice a1 x.2.1.1.length c1, .slice b1 x.2.1.2.length d1, .slice a2 x.2.2.1.length c2, .slice a3 x.2.2.2.1.1.length c3, .int .i64 x.2.2.2.1.2.1, .bool x.2.2.2.1.2.2.1, .slice b3 x.2.2.2.1.2.2.2.length d3, .slice a4 x.2.2.2.2.1.length c4, .slice a5 x.2.2.2.2.2.length c5] 49 (0, 0)) := heap_setCell_same _ (w.heap.size + 1 + 1) 12 _ _ (.slice a5 x.2.2.2.2.2.length c5) X2
 have V := put_fabric (y0 := .int .i64 x.1.1) (y1 := .int .i64 x.1.2.1) (y2 := .int .i64 x.1.2.2.1) (y3 := .int .i64 x.1.2.2.2) (y4 := .slice a1 x.2.1.1.length c1) (y5 := .slice b1 x.2.1.2.length d1) (y6 := .slice a2 x.2.2.1.length c2) (y7 := .slice a3 x.2.2.2.1.1.length c3) (y8 := .int .i64 x.2.2.2.1.2.1) (y9 := .bool x.2.2.2.1.2.2.1) (y10 := .slice b3 x.2.2.2.1.2.2.2.length d3) (y11 := .slice a4 x.2.2.2.2.1.length c4) (y12 := .slice a5 x.2.2.2.2.2.length c5) (heap_setC (g := w.heap.size + 1 + 1) (o := 12) (v := .slice a5 x.2.2.2.2.2.length c5) X1 (by omega))
 obtain ⟨r0, r1, r2, r3, r4, r5, r6, r7, r8, r9, r10, r11, r12⟩ := cells_fabric V
 refine bodyPost_ret (v := .agg #[.int .i64 x.1.1, .int .i64 x.1.2.1, .int .i64 x.1.2.2.1, .int .i64 x.1.2.2.2, .slice a1 x.2.1.1.length c1, .slice b1 x.2.1.2.length d1, .slice a2 x.2.2.1.length c2, .slice a3 x.2.2.2.1.1.length c3, .int .i64 x.2.2.2.1.2.1, .bool x.2.2.2.1.2.2.1, .slice b3 x.2.2.2.1.2.2.2.length d3, .slice a4 x.2.2.2.2.1.length c4, .slice a5 x.2.2.2.2.2.length c5]) (by simp [results, Tryz.results7, go_sem, r0, r1, r2, r3, r4, r5, r6, r7, r8, r9, r10, r11, r12]) rfl ⟨[.int .i64 x.1.1, .int .i64 x.1.2.1, .int .i64 x.1.2.2.1, .int .i64 x.1.2.2.2, .slice a1 x.2.1.1.length c1, .slice b1 x.2.1.2.length d1, .slice a2 x.2.2.1.length c2, .slice a3 x.2.2.2.1.1.length c3, .int .i64 x.2.2.2.1.2.1, .bool x.2.2.2.1.2.2.1, .slice b3 x.2.2.2.1.2.2.2.length d3, .slice a4 x.2.2.2.2.1.length c4, .slice a5 x.2.2.2.2.2.length c5], rfl, own_fabric (S0 := rng u0.heap.size w1.heap.size) (S1 := rng u1.heap.size w2.heap.size) (S2 := rng u2.heap.size w3.heap.size) (S3 := rng u3.heap.size w4.heap.size) (S4 := rng u4.heap.size w5.heap.size) (S5 := rng u5.heap.size w6.heap.size)  ?_ ?_ ?_ ?_ ?_ ?_ (rng_sub (by omega) (by simp <;> omega)) (rng_sub (by omega) (by simp <;> omega)) (rng_sub (by omega) (by simp <;> omega)) (rng_sub (by omega) (by simp <;> omega)) (rng_sub (by omega) (by simp <;> omega)) (rng_sub (by omega) (by simp <;> omega)) (rng_dis (.inl (by omega))) (rng_dis (.inl (by omega))) (rng_dis (.inl (by omega))) (rng_dis (.inl (by omega))) (rng_dis (.inl (by omega))) (rng_dis (.inl (by omega))) (rng_dis (.inl (by omega))) (rng_dis (.inl (by omega))) (rng_dis (.inl (by omega))) (rng_dis (.inl (by omega))) (rng_dis (.inl (by omega))) (rng_dis (.inl (by omega))) (rng_dis (.inl (by omega))) (rng_dis (.inl (by omega))) (rng_dis (.inl (by omega))), ?_⟩
 ·exact (own_setC (own_setC (own_setC (own_setC (own_setC (own_setC (own_setC (own_setC (own_setC (own_setC (own_setC (own_setC (own_setC (own_setC O0 (fun h => by have := h.1; omega)) (fun h => by have := h.1; omega)) (fun h => by have := h.1; omega)) (fun h => by have := h.1; omega)) (fun h => by have := h.1; omega)) (fun h => by have := h.1; omega)) (fun h => by have := h.1; omega)) (fun h => by have := h.1; omega)) (fun h => by have := h.1; omega)) (fun h => by have := h.1; omega)) (fun h => by have := h.1; omega)) (fun h => by have := h.1; omega)) (fun h => by have := h.1; omega)) (fun h => by have := h.1; omega))
 ·exact (own_setC (own_setC (own_setC (own_setC (own_setC (own_setC (own_setC (own_setC (own_setC (own_setC (own_setC (own_setC (own_setC (own_setC O1 (fun h => by have := h.1; omega)) (fun h => by have := h.1; omega)) (fun h => by have := h.1; omega)) (fun h => by have := h.1; omega)) (fun h => by have := h.1; omega)) (fun h => by have := h.1; omega)) (fun h => by have := h.1; omega)) (fun h => by have := h.1; omega)) (fun h => by have := h.1; omega)) (fun h => by have := h.1; omega)) (fun h => by have := h.1; omega)) (fun h => by have := h.1; omega)) (fun h => by have := h.1; omega)) (fun h => by have := h.1; omega))
 ·exact (own_setC (own_setC (own_setC (own_setC (own_setC (own_setC (own_setC (own_setC (own_setC (own_setC (own_setC (own_setC (own_setC (own_setC O2 (fun h => by have := h.1; omega)) (fun h => by have := h.1; omega)) (fun h => by have := h.1; omega)) (fun h => by have := h.1; omega)) (fun h => by have := h.1; omega)) (fun h => by have := h.1; omega)) (fun h => by have := h.1; omega)) (fun h => by have := h.1; omega)) (fun h => by have := h.1; omega)) (fun h => by have := h.1; omega)) (fun h => by have := h.1; omega)) (fun h => by have := h.1; omega)) (fun h => by have := h.1; omega)) (fun h => by have := h.1; omega))
 ·exact (own_setC (own_setC (own_setC (own_setC (own_setC (own_setC (own_setC (own_setC (own_setC (own_setC (own_setC (own_setC (own_setC (own_setC O3 (fun h => by have := h.1; omega)) (fun h => by have := h.1; omega)) (fun h => by have := h.1; omega)) (fun h => by have := h.1; omega)) (fun h => by have := h.1; omega)) (fun h => by have := h.1; omega)) (fun h => by have := h.1; omega)) (fun h => by have := h.1; omega)) (fun h => by have := h.1; omega)) (fun h => by have := h.1; omega)) (fun h => by have := h.1; omega)) (fun h => by have := h.1; omega)) (fun h => by have := h.1; omega)) (fun h => by have := h.1; omega))
 ·exact (own_setC (own_setC (own_setC (own_setC (own_setC (own_setC (own_setC (own_setC (own_setC (own_setC (own_setC (own_setC (own_setC (own_setC O4 (fun h => by have := h.1; omega)) (fun h => by have := h.1; omega)) (fun h => by have := h.1; omega)) (fun h => by have := h.1; omega)) (fun h => by have := h.1; omega)) (fun h => by have := h.1; omega)) (fun h => by have := h.1; omega)) (fun h => by have := h.1; omega)) (fun h => by have := h.1; omega)) (fun h => by have := h.1; omega)) (fun h => by have := h.1; omega)) (fun h => by have := h.1; omega)) (fun h => by have := h.1; omega)) (fun h => by have := h.1; omega))
 ·exact (own_setC (own_setC (own_setC (own_setC (own_setC (own_setC (own_setC (own_setC (own_setC (own_setC (own_setC (own_setC (own_setC (own_setC O5 (fun h => by have := h.1; omega)) (fun h => by have := h.1; omega)) (fun h => by have := h.1; omega)) (fun h => by have := h.1; omega)) (fun h => by have := h.1; omega)) (fun h => by have := h.1; omega)) (fun h => by have := h.1; omega)) (fun h => by have := h.1; omega)) (fun h => by have := h.1; omega)) (fun h => by have := h.1; omega)) (fun h => by have := h.1; omega)) (fun h => by have := h.1; omega)) (fun h => by have := h.1; omega)) (fun h => by have := h.1; omega))
 ·exact (below_setC (below_setC (below_setC (below_setC (below_setC (below_setC (below_setC (below_setC (below_setC (below_setC (below_setC (below_setC (below_setC (below_setC B (by omega)) (by omega)) (by omega)) (by omega)) (by omega)) (by omega)) (by omega)) (by omega)) (by omega)) (by omega)) (by omega)) (by omega)) (by omega)) (by omega))
theorem fabric_shape {w : World} {cs : List Value} {x : FabricD} (h : fabricR.rd w cs x) : ∃ (a1 : Option Addr) (c1 : Nat) (b1 : Option Addr) (d1 : Nat) (a2 : Option Addr) (c2 : Nat) (a3 : Option Addr) (c3 : Nat) (b3 : Option Addr) (d3 : Nat) (a4 : Option Addr) (c4 : Nat) (a5 : Option Addr) (c5 : Nat), cs = [.int .i64 x.1.1, .int .i64 x.1.2.1, .int .i64 x.1.2.2.1, .int .i64 x.1.2.2.2, .slice a1 x.2.1.1.length c1, .slice b1 x.2.1.2.length d1, .slice a2 x.2.2.1.length c2, .slice a3 x.2.2.2.1.1.length c3, .int .i64 x.2.2.2.1.2.1, .bool x.2.2.2.1.2.2.1, .slice b3 x.2.2.2.1.2.2.2.length d3, .slice a4 x.2.2.2.2.1.length c4, .slice a5 x.2.2.2.2.2.length c5] := by
 obtain ⟨v0, v1, v2, v3, v4, v5, v6, v7, v8, v9, v10, v11, v12, rfl, r0, r1, r2, r3, r4, r5⟩ := fabric_rd h
 obtain ⟨e0, -⟩ := cfg_rd4 r0
 simp only [List.cons.injEq, and_true] at e0
 obtain ⟨rfl, rfl, rfl, rfl⟩ := e0
 obtain ⟨a1, c1, b1, d1, e1, -⟩ := house_shape1 r1
 simp only [List.cons.injEq, and_true] at e1
 obtain ⟨rfl, rfl⟩ := e1
 obtain ⟨a2, c2, e2, -⟩ := r2
 simp only [List.cons.injEq, and_true] at e2
 obtain rfl := e2
 obtain ⟨a3, c3, b3, d3, e3, -⟩ := dma_shape1 r3
 simp only [List.cons.injEq, and_true] at e3
 obtain ⟨rfl, rfl, rfl, rfl⟩ := e3
 obtain ⟨a4, c4, e4, -⟩ := r4
 simp only [List.cons.injEq, and_true] at e4
 obtain rfl := e4
 obtain ⟨a5, c5, e5, -⟩ := r5
 simp only [List.cons.injEq, and_true] at e5
 obtain rfl := e5
 exact ⟨a1, c1, b1, d1, a2, c2, a3, c3, b3, d3, a4, c4, a5, c5, rfl⟩
theorem opens_fabric : Opens Tryz.prog 35 fabricR :=
 opens_struct Tryz.underlying35 (by kernel_rfl) (opensF_cons rfl (by kernel_rfl) opens_cfg (opensF_cons rfl (by kernel_rfl) opens_house (opensF_cons rfl (by kernel_rfl) opens_cores (opensF_cons rfl (by kernel_rfl) opens_dma (opensF_cons rfl (by kernel_rfl) opens_msgs (opensF_one rfl (by kernel_rfl) opens_events))))))
end Go.Proofs.YtiiipclglngdhaaGreatDoor
