import Derived.Test.YthnfkacboijneaaGreatDoorP14OpSS
import Derived.Test.YthnfkacboijneaaGreatDoorP17UEnt
import Derived.Test.YthnfkacboijneaaGreatDoorP26CoresL
import Derived.Test.YthnfkacboijneaaGreatDoorP28MsgMarks
import Derived.Test.YthnfkacboijneaaGreatDoorP30EventsL
import Derived.Test.YthnfkacboijneaaGreatDoorP05Boxes
namespace Go.Proofs.YthnfkacboijneaaGreatDoor
open Go.ChangeShapes Go.WideShapes Go.ChangeAt Go.RowKit
set_option linter.unusedVariables false
theorem house_shape1 {w : World} {cs : List Value} {x : HouseD} (h : houseR.rd w cs x) : ∃ (a : Option Addr) (c : Nat) (b : Option Addr) (d : Nat), cs = [.slice a x.1.length c, .slice b x.2.length d] ∧ True := by
 obtain ⟨a, c, b, d, e⟩ := house_shape h
 exact ⟨a, c, b, d, e, trivial⟩
theorem dma_shape1 {w : World} {cs : List Value} {x : DmaD} (h : dmaR.rd w cs x) : ∃ (a : Option Addr) (c : Nat) (b : Option Addr) (d : Nat), cs = [.slice a x.1.length c, .int .i64 x.2.1, .bool x.2.2.1, .slice b x.2.2.2.length d] ∧ True := by
 obtain ⟨a, c, b, d, e⟩ := dma_shape h
 exact ⟨a, c, b, d, e, trivial⟩
abbrev FabricD := CfgD × HouseD × List CoreD × DmaD × List MsgD × List EventD
abbrev fabricR : Rep FabricD := prodR cfgR (prodR houseR (prodR coresR (prodR dmaR (prodR msgsR eventsR))))
abbrev fabricM : Mk FabricD := prodM cfgM (prodM houseM (prodM coresM (prodM dmaM (prodM msgsM eventsM))))
theorem len1fabric {l : List Value} (h : l.length = 1) : ∃ a0, l = [a0] := by
 match l, h with
 | [a0], _ => exact ⟨a0, rfl⟩
theorem len2fabric {l : List Value} (h : l.length = 2) : ∃ a0 a1, l = [a0, a1] := by
 match l, h with
 | [a0, a1], _ => exact ⟨a0, a1, rfl⟩
theorem len4fabric {l : List Value} (h : l.length = 4) : ∃ a0 a1 a2 a3, l = [a0, a1, a2, a3] := by
 match l, h with
 | [a0, a1, a2, a3], _ => exact ⟨a0, a1, a2, a3, rfl⟩
theorem fabric_rd {w : World} {cs : List Value} {x : FabricD} (h : fabricR.rd w cs x) : ∃ v0 v1 v2 v3 v4 v5 v6 v7 v8 v9 v10 v11 v12, cs = [v0, v1, v2, v3, v4, v5, v6, v7, v8, v9, v10, v11, v12] ∧ cfgR.rd w [v0, v1, v2, v3] x.1 ∧ houseR.rd w [v4, v5] x.2.1 ∧ coresR.rd w [v6] x.2.2.1 ∧ dmaR.rd w [v7, v8, v9, v10] x.2.2.2.1 ∧ msgsR.rd w [v11] x.2.2.2.2.1 ∧ eventsR.rd w [v12] x.2.2.2.2.2 := by
 obtain ⟨c0, e0, rfl, h0, ⟨c1, e1, rfl, h1, ⟨c2, e2, rfl, h2, ⟨c3, e3, rfl, h3, ⟨c4, e4, rfl, h4, h5⟩⟩⟩⟩⟩ := h
 obtain ⟨v0, v1, v2, v3, rfl⟩ := len4fabric (cfgR.rd_len h0)
 obtain ⟨v4, v5, rfl⟩ := len2fabric (houseR.rd_len h1)
 obtain ⟨v6, rfl⟩ := len1fabric (coresR.rd_len h2)
 obtain ⟨v7, v8, v9, v10, rfl⟩ := len4fabric (dmaR.rd_len h3)
 obtain ⟨v11, rfl⟩ := len1fabric (msgsR.rd_len h4)
 obtain ⟨v12, rfl⟩ := len1fabric (eventsR.rd_len h5)
 exact ⟨v0, v1, v2, v3, v4, v5, v6, v7, v8, v9, v10, v11, v12, rfl, h0, h1, h2, h3, h4, h5⟩
theorem cells_fabric {w : World} {g : Nat} {x0 x1 x2 x3 x4 x5 x6 x7 x8 x9 x10 x11 x12 : Value} {t : TypeId} (h : w.heap[g]? = some (.cells #[x0, x1, x2, x3, x4, x5, x6, x7, x8, x9, x10, x11, x12] t (0, 0))) : w.cell? ⟨g, 0, none⟩ = some x0 ∧ w.cell? ⟨g, 1, none⟩ = some x1 ∧ w.cell? ⟨g, 2, none⟩ = some x2 ∧ w.cell? ⟨g, 3, none⟩ = some x3 ∧ w.cell? ⟨g, 4, none⟩ = some x4 ∧ w.cell? ⟨g, 5, none⟩ = some x5 ∧ w.cell? ⟨g, 6, none⟩ = some x6 ∧ w.cell? ⟨g, 7, none⟩ = some x7 ∧ w.cell? ⟨g, 8, none⟩ = some x8 ∧ w.cell? ⟨g, 9, none⟩ = some x9 ∧ w.cell? ⟨g, 10, none⟩ = some x10 ∧ w.cell? ⟨g, 11, none⟩ = some x11 ∧ w.cell? ⟨g, 12, none⟩ = some x12 :=
 ⟨by rw [cell_of_row w g 0 _ t (0, 0) h]; rfl, by rw [cell_of_row w g 1 _ t (0, 0) h]; rfl, by rw [cell_of_row w g 2 _ t (0, 0) h]; rfl, by rw [cell_of_row w g 3 _ t (0, 0) h]; rfl, by rw [cell_of_row w g 4 _ t (0, 0) h]; rfl, by rw [cell_of_row w g 5 _ t (0, 0) h]; rfl, by rw [cell_of_row w g 6 _ t (0, 0) h]; rfl, by rw [cell_of_row w g 7 _ t (0, 0) h]; rfl, by rw [cell_of_row w g 8 _ t (0, 0) h]; rfl, by rw [cell_of_row w g 9 _ t (0, 0) h]; rfl, by rw [cell_of_row w g 10 _ t (0, 0) h]; rfl, by rw [cell_of_row w g 11 _ t (0, 0) h]; rfl, by rw [cell_of_row w g 12 _ t (0, 0) h]; rfl⟩
set_option maxHeartbeats 4000000 in
theorem eqFabric_u : EqC 9 fabricR fabricM aggV := by
 intro cs ds x w h k hm
 obtain ⟨v0, v1, v2, v3, v4, v5, v6, v7, v8, v9, v10, v11, v12, rfl, r0, r1, r2, r3, r4, r5⟩ := fabric_rd h
 obtain ⟨u0, u1, u2, u3, u4, u5, u6, u7, u8, u9, u10, u11, u12, rfl, s0, s1, s2, s3, s4, s5⟩ := fabric_rd k
 clear h k
 rw [show fabricM.bk x = 0 + (houseM.bk x.2.1 + (coresM.bk x.2.2.1 + (dmaM.bk x.2.2.2.1 + (msgsM.bk x.2.2.2.2.1 + eventsM.bk x.2.2.2.2.2)))) from rfl] at hm
 change Calls Tryz.prog 9 #[.agg #[v0, v1, v2, v3, v4, v5, v6, v7, v8, v9, v10, v11, v12], .agg #[u0, u1, u2, u3, u4, u5, u6, u7, u8, u9, u10, u11, u12]] w _
 have C0 : Hid (∀ W, Below w.heap.size w W → Calls Tryz.prog 48 #[.agg #[v0, v1, v2, v3], .agg #[u0, u1, u2, u3]] W fun e w' => e = .returned (.bool true) ∧ Below W.heap.size W w') := fun W hb => eqConfig_u [v0, v1, v2, v3] [u0, u1, u2, u3] _ W (rd_next r0 hb) (rd_next s0 hb) (Nat.zero_le _)
 have C1 : Hid (∀ W, Below w.heap.size w W → Calls Tryz.prog 49 #[.agg #[v4, v5], .agg #[u4, u5]] W fun e w' => e = .returned (.bool true) ∧ Below W.heap.size W w') := fun W hb => eqHouse_u [v4, v5] [u4, u5] _ W (rd_next r1 hb) (rd_next s1 hb) (by omega)
 have C2 : Hid (∀ W, Below w.heap.size w W → Calls Tryz.prog 50 #[v6, u6] W fun e w' => e = .returned (.bool true) ∧ Below W.heap.size W w') := fun W hb => eqCores_u [v6] [u6] _ W (rd_next r2 hb) (rd_next s2 hb) (by omega)
 have C3 : Hid (∀ W, Below w.heap.size w W → Calls Tryz.prog 51 #[.agg #[v7, v8, v9, v10], .agg #[u7, u8, u9, u10]] W fun e w' => e = .returned (.bool true) ∧ Below W.heap.size W w') := fun W hb => eqDma_u [v7, v8, v9, v10] [u7, u8, u9, u10] _ W (rd_next r3 hb) (rd_next s3 hb) (by omega)
 have C4 : Hid (∀ W, Below w.heap.size w W → Calls Tryz.prog 52 #[v11, u11] W fun e w' => e = .returned (.bool true) ∧ Below W.heap.size W w') := fun W hb => eqMsgs_u [v11] [u11] _ W (rd_next r4 hb) (rd_next s4 hb) (by omega)
 have C5 : Hid (∀ W, Below w.heap.size w W → Calls Tryz.prog 53 #[v12, u12] W fun e w' => e = .returned (.bool true) ∧ Below W.heap.size W w') := fun W hb => eqEvents_u [v12] [u12] _ W (rd_next r5 hb) (rd_next s5 hb) (by omega)
 clear hm r0 s0 r1 s1 r2 s2 r3 s3 r4 s4 r5 s5
 have X := heap_on (.cells #[u0, u1, u2, u3, u4, u5, u6, u7, u8, u9, u10, u11, u12] 49) (heap_at w (.cells #[v0, v1, v2, v3, v4, v5, v6, v7, v8, v9, v10, v11, v12] 49))
 have Y := heap_at (w.alloc (.cells #[v0, v1, v2, v3, v4, v5, v6, v7, v8, v9, v10, v11, v12] 49)) (.cells #[u0, u1, u2, u3, u4, u5, u6, u7, u8, u9, u10, u11, u12] 49)
 rw [alloc_len] at Y
 have B := below_step (box_below w (.cells #[v0, v1, v2, v3, v4, v5, v6, v7, v8, v9, v10, v11, v12] 49)) (box_below _ (.cells #[u0, u1, u2, u3, u4, u5, u6, u7, u8, u9, u10, u11, u12] 49))
 go_enter Tryz.func9, Tryz.ntmps9
 go_wp2_with fail
 generalize (w.alloc (.cells #[v0, v1, v2, v3, v4, v5, v6, v7, v8, v9, v10, v11, v12] 49)).alloc (.cells #[u0, u1, u2, u3, u4, u5, u6, u7, u8, u9, u10, u11, u12] 49) = W0 at X Y B ⊢
 refine (C0.out _ B).mono ?_
 rintro e w1 ⟨rfl, bq⟩
 replace X := row_keep bq X
 replace Y := row_keep bq Y
 replace B := below_step B bq
 clear bq C0
 obtain ⟨y0, y1, y2, y3, y4, y5, y6, y7, y8, y9, y10, y11, y12⟩ := cells_fabric X
 obtain ⟨z0, z1, z2, z3, z4, z5, z6, z7, z8, z9, z10, z11, z12⟩ := cells_fabric Y
 go_wp2_with fail
 clear y0 y1 y2 y3 y4 y5 y6 y7 y8 y9 y10 y11 y12 z0 z1 z2 z3 z4 z5 z6 z7 z8 z9 z10 z11 z12
 refine (C1.out _ B).mono ?_
 rintro e w2 ⟨rfl, bq⟩
 replace X := row_keep bq X
 replace Y := row_keep bq Y
 replace B := below_step B bq
 clear bq C1
 obtain ⟨y0, y1, y2, y3, y4, y5, y6, y7, y8, y9, y10, y11, y12⟩ := cells_fabric X
 obtain ⟨z0, z1, z2, z3, z4, z5, z6, z7, z8, z9, z10, z11, z12⟩ := cells_fabric Y
 go_wp2_with fail
 clear y0 y1 y2 y3 y4 y5 y6 y7 y8 y9 y10 y11 y12 z0 z1 z2 z3 z4 z5 z6 z7 z8 z9 z10 z11 z12
 refine (C2.out _ B).mono ?_
 rintro e w3 ⟨rfl, bq⟩
 replace X := row_keep bq X
 replace Y := row_keep bq Y
 replace B := below_step B bq
 clear bq C2
 obtain ⟨y0, y1, y2, y3, y4, y5, y6, y7, y8, y9, y10, y11, y12⟩ := cells_fabric X
 obtain ⟨z0, z1, z2, z3, z4, z5, z6, z7, z8, z9, z10, z11, z12⟩ := cells_fabric Y
 go_wp2_with fail
 clear y0 y1 y2 y3 y4 y5 y6 y7 y8 y9 y10 y11 y12 z0 z1 z2 z3 z4 z5 z6 z7 z8 z9 z10 z11 z12
 refine (C3.out _ B).mono ?_
 rintro e w4 ⟨rfl, bq⟩
 replace X := row_keep bq X
 replace Y := row_keep bq Y
 replace B := below_step B bq
 clear bq C3
 obtain ⟨y0, y1, y2, y3, y4, y5, y6, y7, y8, y9, y10, y11, y12⟩ := cells_fabric X
 obtain ⟨z0, z1, z2, z3, z4, z5, z6, z7, z8, z9, z10, z11, z12⟩ := cells_fabric Y
 go_wp2_with fail
 clear y0 y1 y2 y3 y4 y5 y6 y7 y8 y9 y10 y11 y12 z0 z1 z2 z3 z4 z5 z6 z7 z8 z9 z10 z11 z12
 refine (C4.out _ B).mono ?_
 rintro e w5 ⟨rfl, bq⟩
 replace X := row_keep bq X
 replace Y := row_keep bq Y
 replace B := below_step B bq
 clear bq C4
 obtain ⟨y0, y1, y2, y3, y4, y5, y6, y7, y8, y9, y10, y11, y12⟩ := cells_fabric X
 obtain ⟨z0, z1, z2, z3, z4, z5, z6, z7, z8, z9, z10, z11, z12⟩ := cells_fabric Y
 go_wp2_with fail
 clear y0 y1 y2 y3 y4 y5 y6 y7 y8 y9 y10 y11 y12 z0 z1 z2 z3 z4 z5 z6 z7 z8 z9 z10 z11 z12
 refine (C5.out _ B).mono ?_
 rintro e w6 ⟨rfl, bq⟩
 replace X := row_keep bq X
 replace Y := row_keep bq Y
 replace B := below_step B bq
 clear bq C5
 obtain ⟨y0, y1, y2, y3, y4, y5, y6, y7, y8, y9, y10, y11, y12⟩ := cells_fabric X
 obtain ⟨z0, z1, z2, z3, z4, z5, z6, z7, z8, z9, z10, z11, z12⟩ := cells_fabric Y
 clear X Y
 go_wp2
 go_ret
 exact ⟨rfl, B⟩
theorem fabric_cV (x : FabricD) : fabricM.cV x = 0 + (houseM.cV x.2.1 + (coresM.cV x.2.2.1 + (dmaM.cV x.2.2.2.1 + (msgsM.cV x.2.2.2.2.1 + eventsM.cV x.2.2.2.2.2)))) := rfl
theorem fabric_mV (k : Int) (x : FabricD) : fabricM.mV k x = (cfgM.mV k x.1, houseM.mV (k + ((cfgM.cV x.1 : Nat) : Int)) x.2.1, coresM.mV ((k + ((cfgM.cV x.1 : Nat) : Int)) + ((houseM.cV x.2.1 : Nat) : Int)) x.2.2.1, dmaM.mV (((k + ((cfgM.cV x.1 : Nat) : Int)) + ((houseM.cV x.2.1 : Nat) : Int)) + ((coresM.cV x.2.2.1 : Nat) : Int)) x.2.2.2.1, msgsM.mV ((((k + ((cfgM.cV x.1 : Nat) : Int)) + ((houseM.cV x.2.1 : Nat) : Int)) + ((coresM.cV x.2.2.1 : Nat) : Int)) + ((dmaM.cV x.2.2.2.1 : Nat) : Int)) x.2.2.2.2.1, eventsM.mV (((((k + ((cfgM.cV x.1 : Nat) : Int)) + ((houseM.cV x.2.1 : Nat) : Int)) + ((coresM.cV x.2.2.1 : Nat) : Int)) + ((dmaM.cV x.2.2.2.1 : Nat) : Int)) + ((msgsM.cV x.2.2.2.2.1 : Nat) : Int)) x.2.2.2.2.2) := rfl
theorem fabric_own {w : World} {S : Foot} {cs : List Value} {x : FabricD} (h : fabricR.own w S cs x) : ∃ v0 v1 v2 v3 v4 v5 v6 v7 v8 v9 v10 v11 v12 S0 S1 S2 S3 S4 S5, cs = [v0, v1, v2, v3, v4, v5, v6, v7, v8, v9, v10, v11, v12] ∧ cfgR.own w S0 [v0, v1, v2, v3] x.1 ∧ houseR.own w S1 [v4, v5] x.2.1 ∧ coresR.own w S2 [v6] x.2.2.1 ∧ dmaR.own w S3 [v7, v8, v9, v10] x.2.2.2.1 ∧ msgsR.own w S4 [v11] x.2.2.2.2.1 ∧ eventsR.own w S5 [v12] x.2.2.2.2.2 ∧ Sub S0 S ∧ Sub S1 S ∧ Sub S2 S ∧ Sub S3 S ∧ Sub S4 S ∧ Sub S5 S ∧ Dis S0 S1 ∧ Dis S0 S2 ∧ Dis S0 S3 ∧ Dis S0 S4 ∧ Dis S0 S5 ∧ Dis S1 S2 ∧ Dis S1 S3 ∧ Dis S1 S4 ∧ Dis S1 S5 ∧ Dis S2 S3 ∧ Dis S2 S4 ∧ Dis S2 S5 ∧ Dis S3 S4 ∧ Dis S3 S5 ∧ Dis S4 S5 := by
 obtain ⟨c0, e0, S0, T1, rfl, h0, ⟨c1, e1, S1, T2, rfl, h1, ⟨c2, e2, S2, T3, rfl, h2, ⟨c3, e3, S3, T4, rfl, h3, ⟨c4, e4, S4, T5, rfl, h4, h5, a4, b4, d4⟩, a3, b3, d3⟩, a2, b2, d2⟩, a1, b1, d1⟩, a0, b0, d0⟩ := h
 obtain ⟨v0, v1, v2, v3, rfl⟩ := len4fabric (cfgR.rd_len (cfgR.own_rd h0))
 obtain ⟨v4, v5, rfl⟩ := len2fabric (houseR.rd_len (houseR.own_rd h1))
 obtain ⟨v6, rfl⟩ := len1fabric (coresR.rd_len (coresR.own_rd h2))
 obtain ⟨v7, v8, v9, v10, rfl⟩ := len4fabric (dmaR.rd_len (dmaR.own_rd h3))
 obtain ⟨v11, rfl⟩ := len1fabric (msgsR.rd_len (msgsR.own_rd h4))
 obtain ⟨v12, rfl⟩ := len1fabric (eventsR.rd_len (eventsR.own_rd h5))
 exact ⟨v0, v1, v2, v3, v4, v5, v6, v7, v8, v9, v10, v11, v12, S0, S1, S2, S3, S4, T5, rfl, h0, h1, h2, h3, h4, h5, a0, (a1).trans b0, ((a2).trans b1).trans b0, (((a3).trans b2).trans b1).trans b0, ((((a4).trans b3).trans b2).trans b1).trans b0, (((((Sub.refl _).trans b4).trans b3).trans b2).trans b1).trans b0, d0.sub (Sub.refl _) (a1), d0.sub (Sub.refl _) ((a2).trans b1), d0.sub (Sub.refl _) (((a3).trans b2).trans b1), d0.sub (Sub.refl _) ((((a4).trans b3).trans b2).trans b1), d0.sub (Sub.refl _) (((((Sub.refl _).trans b4).trans b3).trans b2).trans b1), d1.sub (Sub.refl _) (a2), d1.sub (Sub.refl _) ((a3).trans b2), d1.sub (Sub.refl _) (((a4).trans b3).trans b2), d1.sub (Sub.refl _) ((((Sub.refl _).trans b4).trans b3).trans b2), d2.sub (Sub.refl _) (a3), d2.sub (Sub.refl _) ((a4).trans b3), d2.sub (Sub.refl _) (((Sub.refl _).trans b4).trans b3), d3.sub (Sub.refl _) (a4), d3.sub (Sub.refl _) ((Sub.refl _).trans b4), d4.sub (Sub.refl _) (Sub.refl _)⟩
theorem own_fabric {w : World} {S S0 S1 S2 S3 S4 S5 : Foot} {v0 v1 v2 v3 v4 v5 v6 v7 v8 v9 v10 v11 v12 : Value} {x : FabricD}  (h0 : cfgR.own w S0 [v0, v1, v2, v3] x.1) (h1 : houseR.own w S1 [v4, v5] x.2.1) (h2 : coresR.own w S2 [v6] x.2.2.1) (h3 : dmaR.own w S3 [v7, v8, v9, v10] x.2.2.2.1) (h4 : msgsR.own w S4 [v11] x.2.2.2.2.1) (h5 : eventsR.own w S5 [v12] x.2.2.2.2.2) (s0 : Sub S0 S) (s1 : Sub S1 S) (s2 : Sub S2 S) (s3 : Sub S3 S) (s4 : Sub S4 S) (s5 : Sub S5 S) (d01 : Dis S0 S1) (d02 : Dis S0 S2) (d03 : Dis S0 S3) (d04 : Dis S0 S4) (d05 : Dis S0 S5) (d12 : Dis S1 S2) (d13 : Dis S1 S3) (d14 : Dis S1 S4) (d15 : Dis S1 S5) (d23 : Dis S2 S3) (d24 : Dis S2 S4) (d25 : Dis S2 S5) (d34 : Dis S3 S4) (d35 : Dis S3 S5) (d45 : Dis S4 S5) : fabricR.own w S [v0, v1, v2, v3, v4, v5, v6, v7, v8, v9, v10, v11, v12] x := by
 exact ⟨[v0, v1, v2, v3], [v4, v5, v6, v7, v8, v9, v10, v11, v12], S0, (fun q => S1 q ∨ (fun q => S2 q ∨ (fun q => S3 q ∨ (fun q => S4 q ∨ S5 q) q) q) q), rfl, h0, ⟨[v4, v5], [v6, v7, v8, v9, v10, v11, v12], S1, (fun q => S2 q ∨ (fun q => S3 q ∨ (fun q => S4 q ∨ S5 q) q) q), rfl, h1, ⟨[v6], [v7, v8, v9, v10, v11, v12], S2, (fun q => S3 q ∨ (fun q => S4 q ∨ S5 q) q), rfl, h2, ⟨[v7, v8, v9, v10], [v11, v12], S3, (fun q => S4 q ∨ S5 q), rfl, h3, ⟨[v11], [v12], S4, S5, rfl, h4, h5, (fun q h => .inl h), (fun q h => .inr h), (fun q a h => d45 q a h)⟩, (fun q h => .inl h), (fun q h => .inr h), (fun q a h => h.elim (fun ha => d34 q a ha) (fun hb => d35 q a hb))⟩, (fun q h => .inl h), (fun q h => .inr h), (fun q a h => h.elim (fun ha => d23 q a ha) (fun hb => hb.elim (fun hba => d24 q a hba) (fun hbb => d25 q a hbb)))⟩, (fun q h => .inl h), (fun q h => .inr h), (fun q a h => h.elim (fun ha => d12 q a ha) (fun hb => hb.elim (fun hba => d13 q a hba) (fun hbb => hbb.elim (fun hbba => d14 q a hbba) (fun hbbb => d15 q a hbbb))))⟩, s0, (fun q h => h.elim (fun ha => s1 q ha) (fun hb => hb.elim (fun hba => s2 q hba) (fun hbb => hbb.elim (fun hbba => s3 q hbba) (fun hbbb => hbbb.elim (fun hbbba => s4 q hbbba) (fun hbbbb => s5 q hbbbb))))), (fun q a h => h.elim (fun ha => d01 q a ha) (fun hb => hb.elim (fun hba => d02 q a hba) (fun hbb => hbb.elim (fun hbba => d03 q a hbba) (fun hbbb => hbbb.elim (fun hbbba => d04 q a hbbba) (fun hbbbb => d05 q a hbbbb)))))⟩
theorem froz_fabric {w : World} {g : Nat} {cs : Array Value} {t : TypeId} (h : w.heap[g]? = some (.cells cs t (0, 0))) : w.frozen? ⟨g, 0, none⟩ = false ∧ w.frozen? ⟨g, 1, none⟩ = false ∧ w.frozen? ⟨g, 2, none⟩ = false ∧ w.frozen? ⟨g, 3, none⟩ = false ∧ w.frozen? ⟨g, 4, none⟩ = false ∧ w.frozen? ⟨g, 5, none⟩ = false ∧ w.frozen? ⟨g, 6, none⟩ = false ∧ w.frozen? ⟨g, 7, none⟩ = false ∧ w.frozen? ⟨g, 8, none⟩ = false ∧ w.frozen? ⟨g, 9, none⟩ = false ∧ w.frozen? ⟨g, 10, none⟩ = false ∧ w.frozen? ⟨g, 11, none⟩ = false ∧ w.frozen? ⟨g, 12, none⟩ = false :=
 ⟨frozen_of_row w g 0 _ t h, frozen_of_row w g 1 _ t h, frozen_of_row w g 2 _ t h, frozen_of_row w g 3 _ t h, frozen_of_row w g 4 _ t h, frozen_of_row w g 5 _ t h, frozen_of_row w g 6 _ t h, frozen_of_row w g 7 _ t h, frozen_of_row w g 8 _ t h, frozen_of_row w g 9 _ t h, frozen_of_row w g 10 _ t h, frozen_of_row w g 11 _ t h, frozen_of_row w g 12 _ t h⟩
theorem put_fabric {w : World} {g : Nat} {x0 x1 x2 x3 x4 x5 x6 x7 x8 x9 x10 x11 x12 y0 y1 y2 y3 y4 y5 y6 y7 y8 y9 y10 y11 y12 : Value} {t : TypeId} (h : w.heap[g]? = some (.cells #[x0, x1, x2, x3, x4, x5, x6, x7, x8, x9, x10, x11, x12] t (0, 0))) : (((((((((((((w.setCell ⟨g, 0, none⟩ (y0)).setCell ⟨g, 1, none⟩ (y1)).setCell ⟨g, 2, none⟩ (y2)).setCell ⟨g, 3, none⟩ (y3)).setCell ⟨g, 4, none⟩ (y4)).setCell ⟨g, 5, none⟩ (y5)).setCell ⟨g, 6, none⟩ (y6)).setCell ⟨g, 7, none⟩ (y7)).setCell ⟨g, 8, none⟩ (y8)).setCell ⟨g, 9, none⟩ (y9)).setCell ⟨g, 10, none⟩ (y10)).setCell ⟨g, 11, none⟩ (y11)).setCell ⟨g, 12, none⟩ (y12)).heap[g]? = some (.cells #[y0, y1, y2, y3, y4, y5, y6, y7, y8, y9, y10, y11, y12] t (0, 0)) := by
 have h0 : (w.setCell ⟨g, 0, none⟩ (y0)).heap[g]? = some (.cells #[y0, x1, x2, x3, x4, x5, x6, x7, x8, x9, x10, x11, x12] t (0, 0)) := heap_setCell_same _ g 0 _ t y0 h
 have h1 : ((w.setCell ⟨g, 0, none⟩ (y0)).setCell ⟨g, 1, none⟩ (y1)).heap[g]? = some (.cells #[y0, y1, x2, x3, x4, x5, x6, x7, x8, x9, x10, x11, x12] t (0, 0)) := heap_setCell_same _ g 1 _ t y1 h0
 have h2 : (((w.setCell ⟨g, 0, none⟩ (y0)).setCell ⟨g, 1, none⟩ (y1)).setCell ⟨g, 2, none⟩ (y2)).heap[g]? = some (.cells #[y0, y1, y2, x3, x4, x5, x6, x7, x8, x9, x10, x11, x12] t (0, 0)) := heap_setCell_same _ g 2 _ t y2 h1
 have h3 : ((((w.setCell ⟨g, 0, none⟩ (y0)).setCell ⟨g, 1, none⟩ (y1)).setCell ⟨g, 2, none⟩ (y2)).setCell ⟨g, 3, none⟩ (y3)).heap[g]? = some (.cells #[y0, y1, y2, y3, x4, x5, x6, x7, x8, x9, x10, x11, x12] t (0, 0)) := heap_setCell_same _ g 3 _ t y3 h2
 have h4 : (((((w.setCell ⟨g, 0, none⟩ (y0)).setCell ⟨g, 1, none⟩ (y1)).setCell ⟨g, 2, none⟩ (y2)).setCell ⟨g, 3, none⟩ (y3)).setCell ⟨g, 4, none⟩ (y4)).heap[g]? = some (.cells #[y0, y1, y2, y3, y4, x5, x6, x7, x8, x9, x10, x11, x12] t (0, 0)) := heap_setCell_same _ g 4 _ t y4 h3
 have h5 : ((((((w.setCell ⟨g, 0, none⟩ (y0)).setCell ⟨g, 1, none⟩ (y1)).setCell ⟨g, 2, none⟩ (y2)).setCell ⟨g, 3, none⟩ (y3)).setCell ⟨g, 4, none⟩ (y4)).setCell ⟨g, 5, none⟩ (y5)).heap[g]? = some (.cells #[y0, y1, y2, y3, y4, y5, x6, x7, x8, x9, x10, x11, x12] t (0, 0)) := heap_setCell_same _ g 5 _ t y5 h4
 have h6 : (((((((w.setCell ⟨g, 0, none⟩ (y0)).setCell ⟨g, 1, none⟩ (y1)).setCell ⟨g, 2, none⟩ (y2)).setCell ⟨g, 3, none⟩ (y3)).setCell ⟨g, 4, none⟩ (y4)).setCell ⟨g, 5, none⟩ (y5)).setCell ⟨g, 6, none⟩ (y6)).heap[g]? = some (.cells #[y0, y1, y2, y3, y4, y5, y6, x7, x8, x9, x10, x11, x12] t (0, 0)) := heap_setCell_same _ g 6 _ t y6 h5
 have h7 : ((((((((w.setCell ⟨g, 0, none⟩ (y0)).setCell ⟨g, 1, none⟩ (y1)).setCell ⟨g, 2, none⟩ (y2)).setCell ⟨g, 3, none⟩ (y3)).setCell ⟨g, 4, none⟩ (y4)).setCell ⟨g, 5, none⟩ (y5)).setCell ⟨g, 6, none⟩ (y6)).setCell ⟨g, 7, none⟩ (y7)).heap[g]? = some (.cells #[y0, y1, y2, y3, y4, y5, y6, y7, x8, x9, x10, x11, x12] t (0, 0)) := heap_setCell_same _ g 7 _ t y7 h6
 have h8 : (((((((((w.setCell ⟨g, 0, none⟩ (y0)).setCell ⟨g, 1, none⟩ (y1)).setCell ⟨g, 2, none⟩ (y2)).setCell ⟨g, 3, none⟩ (y3)).setCell ⟨g, 4, none⟩ (y4)).setCell ⟨g, 5, none⟩ (y5)).setCell ⟨g, 6, none⟩ (y6)).setCell ⟨g, 7, none⟩ (y7)).setCell ⟨g, 8, none⟩ (y8)).heap[g]? = some (.cells #[y0, y1, y2, y3, y4, y5, y6, y7, y8, x9, x10, x11, x12] t (0, 0)) := heap_setCell_same _ g 8 _ t y8 h7
 have h9 : ((((((((((w.setCell ⟨g, 0, none⟩ (y0)).setCell ⟨g, 1, none⟩ (y1)).setCell ⟨g, 2, none⟩ (y2)).setCell ⟨g, 3, none⟩ (y3)).setCell ⟨g, 4, none⟩ (y4)).setCell ⟨g, 5, none⟩ (y5)).setCell ⟨g, 6, none⟩ (y6)).setCell ⟨g, 7, none⟩ (y7)).setCell ⟨g, 8, none⟩ (y8)).setCell ⟨g, 9, none⟩ (y9)).heap[g]? = some (.cells #[y0, y1, y2, y3, y4, y5, y6, y7, y8, y9, x10, x11, x12] t (0, 0)) := heap_setCell_same _ g 9 _ t y9 h8
 have h10 : (((((((((((w.setCell ⟨g, 0, none⟩ (y0)).setCell ⟨g, 1, none⟩ (y1)).setCell ⟨g, 2, none⟩ (y2)).setCell ⟨g, 3, none⟩ (y3)).setCell ⟨g, 4, none⟩ (y4)).setCell ⟨g, 5, none⟩ (y5)).setCell ⟨g, 6, none⟩ (y6)).setCell ⟨g, 7, none⟩ (y7)).setCell ⟨g, 8, none⟩ (y8)).setCell ⟨g, 9, none⟩ (y9)).setCell ⟨g, 10, none⟩ (y10)).heap[g]? = some (.cells #[y0, y1, y2, y3, y4, y5, y6, y7, y8, y9, y10, x11, x12] t (0, 0)) := heap_setCell_same _ g 10 _ t y10 h9
 have h11 : ((((((((((((w.setCell ⟨g, 0, none⟩ (y0)).setCell ⟨g, 1, none⟩ (y1)).setCell ⟨g, 2, none⟩ (y2)).setCell ⟨g, 3, none⟩ (y3)).setCell ⟨g, 4, none⟩ (y4)).setCell ⟨g, 5, none⟩ (y5)).setCell ⟨g, 6, none⟩ (y6)).setCell ⟨g, 7, none⟩ (y7)).setCell ⟨g, 8, none⟩ (y8)).setCell ⟨g, 9, none⟩ (y9)).setCell ⟨g, 10, none⟩ (y10)).setCell ⟨g, 11, none⟩ (y11)).heap[g]? = some (.cells #[y0, y1, y2, y3, y4, y5, y6, y7, y8, y9, y10, y11, x12] t (0, 0)) := heap_setCell_same _ g 11 _ t y11 h10
 have h12 : (((((((((((((w.setCell ⟨g, 0, none⟩ (y0)).setCell ⟨g, 1, none⟩ (y1)).setCell ⟨g, 2, none⟩ (y2)).setCell ⟨g, 3, none⟩ (y3)).setCell ⟨g, 4, none⟩ (y4)).setCell ⟨g, 5, none⟩ (y5)).setCell ⟨g, 6, none⟩ (y6)).setCell ⟨g, 7, none⟩ (y7)).setCell ⟨g, 8, none⟩ (y8)).setCell ⟨g, 9, none⟩ (y9)).setCell ⟨g, 10, none⟩ (y10)).setCell ⟨g, 11, none⟩ (y11)).setCell ⟨g, 12, none⟩ (y12)).heap[g]? = some (.cells #[y0, y1, y2, y3, y4, y5, y6, y7, y8, y9, y10, y11, y12] t (0, 0)) := heap_setCell_same _ g 12 _ t y12 h11
 exact h12
theorem fabric_shape {w : World} {cs : List Value} {x : FabricD} (h : fabricR.rd w cs x) : ∃ (a1 : Option Addr) (c1 : Nat) (b1 : Option Addr) (d1 : Nat) (a2 : Option Addr) (c2 : Nat) (a3 : Option Addr) (c3 : Nat) (b3 : Option Addr) (d3 : Nat) (a4 : Option Addr) (c4 : Nat) (a5 : Option Addr) (c5 : Nat), cs = [.int .i64 x.1.1, .int .i64 x.1.2.1, .int .i64 x.1.2.2.1, .int .i64 x.1.2.2.2, .slice a1 x.2.1.1.length c1, .slice b1 x.2.1.2.length d1, .slice a2 x.2.2.1.length c2, .slice a3 x.2.2.2.1.1.length c3, .int .i64 x.2.2.2.1.2.1, .bool x.2.2.2.1.2.2.1, .slice b3 x.2.2.2.1.2.2.2.length d3, .slice a4 x.2.2.2.2.1.length c4, .slice a5 x.2.2.2.2.2.length c5] := by
 obtain ⟨v0, v1, v2, v3, v4, v5, v6, v7, v8, v9, v10, v11, v12, rfl, r0, r1, r2, r3, r4, r5⟩ := fabric_rd h
 obtain ⟨e0, -⟩ := cfg_rd4 r0
 simp only [List.cons.injEq, and_true] at e0
 obtain ⟨rfl, rfl, rfl, rfl⟩ := e0
 obtain ⟨a1, c1, b1, d1, e1, -⟩ := house_shape1 r1
 simp only [List.cons.injEq, and_true] at e1
 obtain ⟨rfl, rfl⟩ := e1
 obtain ⟨a2, c2, e2, -⟩ := r2
 simp only [List.cons.injEq, and_true] at e2
 obtain rfl := e2
 obtain ⟨a3, c3, b3, d3, e3, -⟩ := dma_shape1 r3
 simp only [List.cons.injEq, and_true] at e3
 obtain ⟨rfl, rfl, rfl, rfl⟩ := e3
 obtain ⟨a4, c4, e4, -⟩ := r4
 simp only [List.cons.injEq, and_true] at e4
 obtain rfl := e4
 obtain ⟨a5, c5, e5, -⟩ := r5
 simp only [List.cons.injEq, and_true] at e5
 obtain rfl := e5
 exact ⟨a1, c1, b1, d1, a2, c2, a3, c3, b3, d3, a4, c4, a5, c5, rfl⟩
end Go.Proofs.YthnfkacboijneaaGreatDoor
