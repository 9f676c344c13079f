import Derived.Test.YthnfkacboijneaaGreatDoorP31FabricU
import Derived.Test.YthnfkacboijneaaGreatDoorP49DescMarks
import Derived.Test.YthnfkacboijneaaGreatDoorP50CoresMk
import Derived.Test.YthnfkacboijneaaGreatDoorP28MsgMarks
import Derived.Test.YthnfkacboijneaaGreatDoorP05Boxes
namespace Go.Proofs.YthnfkacboijneaaGreatDoor
set_option maxHeartbeats 8000000
set_option maxRecDepth 20000
open Go.ChangeShapes Go.WideShapes Go.ChangeAt Go.RowKit
set_option linter.unusedVariables false
set_option linter.unusedSimpArgs false
theorem markEventS_nil (k : Int) (w : World) :
    Calls Tryz.prog 73 #[.slice none 0 0, .int .i64 k] w fun e' w' => e' = .returned (.int .i64 k) ∧ w' = w := by
 go_enter Tryz.func73, Tryz.ntmps73
 go_wp2
 refine wp_loop_rounds 1 ?_
 rw [rounds_succ]
 go_wp2
 go_ret
 exact ⟨rfl, rfl⟩
theorem mkEvents_z (S : Foot) (cs : List Value) (x : List EventD) (he : x = []) (k : Int) (w : World) (h : eventsR.own w S cs x) :
    Calls Tryz.prog 73 #[cell1 cs, .int .i64 k] w fun e w' => e = .returned (.int .i64 (k + (eventsM.cV x : Int))) ∧ eventsR.own w' S cs (eventsM.mV k x) ∧ Chg S w w' := by
 subst he
 obtain ⟨v, rfl⟩ := own_cell h
 rcases slown_form h with ⟨rfl, -⟩ | ⟨G, cap, rfl, hG⟩
 ·exact (markEventS_nil k w).mono fun e w' ⟨e1, e2⟩ => ⟨by rw [e1, show eventsM.cV ([] : List EventD) = 0 from rfl]; simp, by rw [e2]; exact h, by rw [e2]; exact Chg.refl _ _⟩
 ·change Calls Tryz.prog 73 #[.slice (some ⟨G, 0, none⟩) 0 cap, .int .i64 k] w _
  go_enter Tryz.func73, Tryz.ntmps73
  go_wp2
  refine wp_loop_rounds 1 ?_
  rw [rounds_succ]
  go_wp2
  go_ret
  exact ⟨ret_int (by rw [show eventsM.cV ([] : List EventD) = 0 from rfl]; simp), h, Chg.refl _ _⟩
theorem hdEvents_z (cs : List Value) (x : List EventD) (he : x = []) (k : Int) (w : World) (h : eventsR.rd w cs (eventsM.mV k x)) :
    Calls Tryz.prog 78 #[cell1 cs, .int .i64 k] w fun e w' => e = .returned (.int .i64 (k + (eventsM.cV x : Int))) ∧ Below w.heap.size w w' := by
 subst he
 obtain ⟨a, cap, rfl, l1, l2, l3⟩ := h
 change Calls Tryz.prog 78 #[.slice a 0 cap, .int .i64 k] w _
 go_enter Tryz.func78, Tryz.ntmps78
 go_wp2
 refine wp_loop_rounds 1 ?_
 rw [rounds_succ]
 go_wp2
 go_ret
 exact ⟨ret_int (by rw [show eventsM.cV ([] : List EventD) = 0 from rfl]; simp), Below.refl _ _⟩
theorem mkFab_z (S : Foot) (cs : List Value) (x : FabricD) (k : Int) (w : World) (he : x.2.2.2.2.2 = []) (h : fabricR.own w S cs x) (h0 : 0 ≤ k) (hm : k + (fabricM.cV x : Int) ≤ (lot : Int)) (hb : fabricM.bk x ≤ lot) :
    Calls Tryz.prog 21 #[aggV cs, .int .i64 k] w fun e w' => e = .returned (.int .i64 (k + (fabricM.cV x : Int))) ∧ fabricR.own w' S cs (fabricM.mV k x) ∧ Chg S w w' := by
 obtain ⟨v0, v1, v2, v3, v4, v5, v6, v7, v8, v9, v10, v11, v12, S0, S1, S2, S3, S4, S5, rfl, o0, o1, o2, o3, o4, o5, s0, s1, s2, s3, s4, s5, d01, d02, d03, d04, d05, d12, d13, d14, d15, d23, d24, d25, d34, d35, d45⟩ := fabric_own h
 clear h
 rw [fabric_cV] at hm ⊢
 rw [show fabricM.bk x = 0 + (houseM.bk x.2.1 + (coresM.bk x.2.2.1 + (dmaM.bk x.2.2.2.1 + (msgsM.bk x.2.2.2.2.1 + eventsM.bk x.2.2.2.2.2)))) from rfl] at hb
 have el : lot = 4398046511104 := rfl
 change Calls Tryz.prog 21 #[.agg #[v0, v1, v2, v3, v4, v5, v6, v7, v8, v9, v10, v11, v12], .int .i64 k] w _
 have C1 : Hid (∀ L W, houseR.own W (Old w S1) [v4, v5] x.2.1 → 0 ≤ L → L + (houseM.cV x.2.1 : Int) ≤ (lot : Int) → Calls Tryz.prog 69 #[.agg #[v4, v5], .int .i64 L] W fun e w' => e = .returned (.int .i64 (L + (houseM.cV x.2.1 : Int))) ∧ houseR.own w' (Old w S1) [v4, v5] (houseM.mV L x.2.1) ∧ Chg (Old w S1) W w') := fun L W ho h1 h2 => mkHouse_u (Old w S1) [v4, v5] x.2.1 L W ho h1 h2 (by omega)
 have C2 : Hid (∀ L W, coresR.own W (Old w S2) [v6] x.2.2.1 → 0 ≤ L → L + (coresM.cV x.2.2.1 : Int) ≤ (lot : Int) → Calls Tryz.prog 70 #[v6, .int .i64 L] W fun e w' => e = .returned (.int .i64 (L + (coresM.cV x.2.2.1 : Int))) ∧ coresR.own w' (Old w S2) [v6] (coresM.mV L x.2.2.1) ∧ Chg (Old w S2) W w') := fun L W ho h1 h2 => mkCores_u (Old w S2) [v6] x.2.2.1 L W ho h1 h2 (by omega)
 have C3 : Hid (∀ L W, dmaR.own W (Old w S3) [v7, v8, v9, v10] x.2.2.2.1 → 0 ≤ L → L + (dmaM.cV x.2.2.2.1 : Int) ≤ (lot : Int) → Calls Tryz.prog 71 #[.agg #[v7, v8, v9, v10], .int .i64 L] W fun e w' => e = .returned (.int .i64 (L + (dmaM.cV x.2.2.2.1 : Int))) ∧ dmaR.own w' (Old w S3) [v7, v8, v9, v10] (dmaM.mV L x.2.2.2.1) ∧ Chg (Old w S3) W w') := fun L W ho h1 h2 => mkDma_u (Old w S3) [v7, v8, v9, v10] x.2.2.2.1 L W ho h1 h2 (by omega)
 have C4 : Hid (∀ L W, msgsR.own W (Old w S4) [v11] x.2.2.2.2.1 → 0 ≤ L → L + (msgsM.cV x.2.2.2.2.1 : Int) ≤ (lot : Int) → Calls Tryz.prog 72 #[v11, .int .i64 L] W fun e w' => e = .returned (.int .i64 (L + (msgsM.cV x.2.2.2.2.1 : Int))) ∧ msgsR.own w' (Old w S4) [v11] (msgsM.mV L x.2.2.2.2.1) ∧ Chg (Old w S4) W w') := fun L W ho h1 h2 => mkMsgs_u (Old w S4) [v11] x.2.2.2.2.1 L W ho h1 h2 (by omega)
 have C5 : Hid (∀ L W, eventsR.own W (Old w S5) [v12] x.2.2.2.2.2 → 0 ≤ L → L + (eventsM.cV x.2.2.2.2.2 : Int) ≤ (lot : Int) → Calls Tryz.prog 73 #[v12, .int .i64 L] W fun e w' => e = .returned (.int .i64 (L + (eventsM.cV x.2.2.2.2.2 : Int))) ∧ eventsR.own w' (Old w S5) [v12] (eventsM.mV L x.2.2.2.2.2) ∧ Chg (Old w S5) W w') := fun L W ho h1 h2 => mkEvents_z (Old w S5) [v12] x.2.2.2.2.2 he L W ho
 have X := heap_at w (.cells #[v0, v1, v2, v3, v4, v5, v6, v7, v8, v9, v10, v11, v12] 49)
 have hs : w.heap.size < (w.alloc (.cells #[v0, v1, v2, v3, v4, v5, v6, v7, v8, v9, v10, v11, v12] 49)).heap.size := by simp
 have CH : Chg S (w.alloc (.cells #[v0, v1, v2, v3, v4, v5, v6, v7, v8, v9, v10, v11, v12] 49)) (w.alloc (.cells #[v0, v1, v2, v3, v4, v5, v6, v7, v8, v9, v10, v11, v12] 49)) := Chg.refl _ _
 have FB : ∀ W, Chg S (w.alloc (.cells #[v0, v1, v2, v3, v4, v5, v6, v7, v8, v9, v10, v11, v12] 49)) W → Chg S w W := fun W => chg_from_box
 have A0 := own_box (.cells #[v0, v1, v2, v3, v4, v5, v6, v7, v8, v9, v10, v11, v12] 49) (own_old o0)
 have A1 := own_box (.cells #[v0, v1, v2, v3, v4, v5, v6, v7, v8, v9, v10, v11, v12] 49) (own_old o1)
 have A2 := own_box (.cells #[v0, v1, v2, v3, v4, v5, v6, v7, v8, v9, v10, v11, v12] 49) (own_old o2)
 have A3 := own_box (.cells #[v0, v1, v2, v3, v4, v5, v6, v7, v8, v9, v10, v11, v12] 49) (own_old o3)
 have A4 := own_box (.cells #[v0, v1, v2, v3, v4, v5, v6, v7, v8, v9, v10, v11, v12] 49) (own_old o4)
 have A5 := own_box (.cells #[v0, v1, v2, v3, v4, v5, v6, v7, v8, v9, v10, v11, v12] 49) (own_old o5)
 have hn0 : ¬ Old w S0 w.heap.size := fun h => by have := h.2; omega
 have hn1 : ¬ Old w S1 w.heap.size := fun h => by have := h.2; omega
 have hn2 : ¬ Old w S2 w.heap.size := fun h => by have := h.2; omega
 have hn3 : ¬ Old w S3 w.heap.size := fun h => by have := h.2; omega
 have hn4 : ¬ Old w S4 w.heap.size := fun h => by have := h.2; omega
 have hn5 : ¬ Old w S5 w.heap.size := fun h => by have := h.2; omega
 have t01 : Dis (Old w S0) (Old w S1) := d01.sub old_sub old_sub
 have t02 : Dis (Old w S0) (Old w S2) := d02.sub old_sub old_sub
 have t03 : Dis (Old w S0) (Old w S3) := d03.sub old_sub old_sub
 have t04 : Dis (Old w S0) (Old w S4) := d04.sub old_sub old_sub
 have t05 : Dis (Old w S0) (Old w S5) := d05.sub old_sub old_sub
 have t12 : Dis (Old w S1) (Old w S2) := d12.sub old_sub old_sub
 have t13 : Dis (Old w S1) (Old w S3) := d13.sub old_sub old_sub
 have t14 : Dis (Old w S1) (Old w S4) := d14.sub old_sub old_sub
 have t15 : Dis (Old w S1) (Old w S5) := d15.sub old_sub old_sub
 have t23 : Dis (Old w S2) (Old w S3) := d23.sub old_sub old_sub
 have t24 : Dis (Old w S2) (Old w S4) := d24.sub old_sub old_sub
 have t25 : Dis (Old w S2) (Old w S5) := d25.sub old_sub old_sub
 have t34 : Dis (Old w S3) (Old w S4) := d34.sub old_sub old_sub
 have t35 : Dis (Old w S3) (Old w S5) := d35.sub old_sub old_sub
 have t45 : Dis (Old w S4) (Old w S5) := d45.sub old_sub old_sub
 have HD : Hid _ := And.intro t01 (And.intro t02 (And.intro t03 (And.intro t04 (And.intro t05 (And.intro t12 (And.intro t13 (And.intro t14 (And.intro t15 (And.intro t23 (And.intro t24 (And.intro t25 (And.intro t34 (And.intro t35 (And.intro t45 (And.intro hn0 (And.intro hn1 (And.intro hn2 (And.intro hn3 (And.intro hn4 (And.intro hn5 (And.intro s0 (And.intro s1 (And.intro s2 (And.intro s3 (And.intro s4 (s5))))))))))))))))))))))))))
 have HF : Hid _ := FB
 clear FB o0 o1 o2 o3 o4 o5 d01 d02 d03 d04 d05 d12 d13 d14 d15 d23 d24 d25 d34 d35 d45 t01 t02 t03 t04 t05 t12 t13 t14 t15 t23 t24 t25 t34 t35 t45 hn0 hn1 hn2 hn3 hn4 hn5 s0 s1 s2 s3 s4 s5
 have HMV : Hid (∀ (P : FabricD → Prop), P (cfgM.mV k x.1, houseM.mV (k + ((cfgM.cV x.1 : Nat) : Int)) x.2.1, coresM.mV ((k + ((cfgM.cV x.1 : Nat) : Int)) + ((houseM.cV x.2.1 : Nat) : Int)) x.2.2.1, dmaM.mV (((k + ((cfgM.cV x.1 : Nat) : Int)) + ((houseM.cV x.2.1 : Nat) : Int)) + ((coresM.cV x.2.2.1 : Nat) : Int)) x.2.2.2.1, msgsM.mV ((((k + ((cfgM.cV x.1 : Nat) : Int)) + ((houseM.cV x.2.1 : Nat) : Int)) + ((coresM.cV x.2.2.1 : Nat) : Int)) + ((dmaM.cV x.2.2.2.1 : Nat) : Int)) x.2.2.2.2.1, eventsM.mV (((((k + ((cfgM.cV x.1 : Nat) : Int)) + ((houseM.cV x.2.1 : Nat) : Int)) + ((coresM.cV x.2.2.1 : Nat) : Int)) + ((dmaM.cV x.2.2.2.1 : Nat) : Int)) + ((msgsM.cV x.2.2.2.2.1 : Nat) : Int)) x.2.2.2.2.2) → P (fabricM.mV k x)) := fun P hp => by rw [fabric_mV]; exact hp
 have z0 : ((cfgM.cV x.1 : Nat) : Int) = 0 := rfl
 rw [z0, Int.add_zero] at HMV
 clear z0
 generalize houseM.cV x.2.1 = n1 at C1 C2 C3 C4 C5 HMV hm ⊢
 generalize coresM.cV x.2.2.1 = n2 at C2 C3 C4 C5 HMV hm ⊢
 generalize dmaM.cV x.2.2.2.1 = n3 at C3 C4 C5 HMV hm ⊢
 generalize msgsM.cV x.2.2.2.2.1 = n4 at C4 C5 HMV hm ⊢
 generalize eventsM.cV x.2.2.2.2.2 = n5 at C5 HMV hm ⊢
 go_enter Tryz.func21, Tryz.ntmps21
 go_wp2_with fail
 generalize w.alloc (.cells #[v0, v1, v2, v3, v4, v5, v6, v7, v8, v9, v10, v11, v12] 49) = W0 at X hs CH HF A0 A1 A2 A3 A4 A5 ⊢
 refine (C1.out (k) _ A1 (by omega) (by omega)).mono ?_
 rintro e w1 ⟨rfl, A1, cq⟩
 obtain ⟨t01, t02, t03, t04, t05, t12, t13, t14, t15, t23, t24, t25, t34, t35, t45, hn0, hn1, hn2, hn3, hn4, hn5, s0, s1, s2, s3, s4, s5⟩ := HD.out
 replace X := (cq.block w.heap.size hs hn1).trans X
 replace hs := Nat.lt_of_lt_of_le hs cq.size
 replace CH := CH.trans (cq.mono (old_sub.trans s1))
 replace A0 := own_chg A0 cq t01
 replace A2 := own_chg A2 cq (Dis.symm t12)
 replace A3 := own_chg A3 cq (Dis.symm t13)
 replace A4 := own_chg A4 cq (Dis.symm t14)
 replace A5 := own_chg A5 cq (Dis.symm t15)
 clear cq C1 t01 t02 t03 t04 t05 t12 t13 t14 t15 t23 t24 t25 t34 t35 t45 hn0 hn1 hn2 hn3 hn4 hn5 s0 s1 s2 s3 s4 s5
 obtain ⟨y0, y1, y2, y3, y4, y5, y6, y7, y8, y9, y10, y11, y12⟩ := cells_fabric X
 have HS : Hid _ := And.intro CH (And.intro A0 (And.intro A1 (And.intro A2 (And.intro A3 (And.intro A4 (A5))))))
 clear CH A0 A1 A2 A3 A4 A5
 go_wp2_with fail
 clear y0 y1 y2 y3 y4 y5 y6 y7 y8 y9 y10 y11 y12
 obtain ⟨CH, A0, A1, A2, A3, A4, A5⟩ := HS.out
 clear HS
 refine (C2.out (k + (n1 : Int)) _ A2 (by omega) (by omega)).mono ?_
 rintro e w2 ⟨rfl, A2, cq⟩
 obtain ⟨t01, t02, t03, t04, t05, t12, t13, t14, t15, t23, t24, t25, t34, t35, t45, hn0, hn1, hn2, hn3, hn4, hn5, s0, s1, s2, s3, s4, s5⟩ := HD.out
 replace X := (cq.block w.heap.size hs hn2).trans X
 replace hs := Nat.lt_of_lt_of_le hs cq.size
 replace CH := CH.trans (cq.mono (old_sub.trans s2))
 replace A0 := own_chg A0 cq t02
 replace A1 := own_chg A1 cq t12
 replace A3 := own_chg A3 cq (Dis.symm t23)
 replace A4 := own_chg A4 cq (Dis.symm t24)
 replace A5 := own_chg A5 cq (Dis.symm t25)
 clear cq C2 t01 t02 t03 t04 t05 t12 t13 t14 t15 t23 t24 t25 t34 t35 t45 hn0 hn1 hn2 hn3 hn4 hn5 s0 s1 s2 s3 s4 s5
 obtain ⟨y0, y1, y2, y3, y4, y5, y6, y7, y8, y9, y10, y11, y12⟩ := cells_fabric X
 have HS : Hid _ := And.intro CH (And.intro A0 (And.intro A1 (And.intro A2 (And.intro A3 (And.intro A4 (A5))))))
 clear CH A0 A1 A2 A3 A4 A5
 go_wp2_with fail
 clear y0 y1 y2 y3 y4 y5 y6 y7 y8 y9 y10 y11 y12
 obtain ⟨CH, A0, A1, A2, A3, A4, A5⟩ := HS.out
 clear HS
 refine (C3.out (k + (n1 : Int) + (n2 : Int)) _ A3 (by omega) (by omega)).mono ?_
 rintro e w3 ⟨rfl, A3, cq⟩
 obtain ⟨t01, t02, t03, t04, t05, t12, t13, t14, t15, t23, t24, t25, t34, t35, t45, hn0, hn1, hn2, hn3, hn4, hn5, s0, s1, s2, s3, s4, s5⟩ := HD.out
 replace X := (cq.block w.heap.size hs hn3).trans X
 replace hs := Nat.lt_of_lt_of_le hs cq.size
 replace CH := CH.trans (cq.mono (old_sub.trans s3))
 replace A0 := own_chg A0 cq t03
 replace A1 := own_chg A1 cq t13
 replace A2 := own_chg A2 cq t23
 replace A4 := own_chg A4 cq (Dis.symm t34)
 replace A5 := own_chg A5 cq (Dis.symm t35)
 clear cq C3 t01 t02 t03 t04 t05 t12 t13 t14 t15 t23 t24 t25 t34 t35 t45 hn0 hn1 hn2 hn3 hn4 hn5 s0 s1 s2 s3 s4 s5
 obtain ⟨y0, y1, y2, y3, y4, y5, y6, y7, y8, y9, y10, y11, y12⟩ := cells_fabric X
 have HS : Hid _ := And.intro CH (And.intro A0 (And.intro A1 (And.intro A2 (And.intro A3 (And.intro A4 (A5))))))
 clear CH A0 A1 A2 A3 A4 A5
 go_wp2_with fail
 clear y0 y1 y2 y3 y4 y5 y6 y7 y8 y9 y10 y11 y12
 obtain ⟨CH, A0, A1, A2, A3, A4, A5⟩ := HS.out
 clear HS
 refine (C4.out (k + (n1 : Int) + (n2 : Int) + (n3 : Int)) _ A4 (by omega) (by omega)).mono ?_
 rintro e w4 ⟨rfl, A4, cq⟩
 obtain ⟨t01, t02, t03, t04, t05, t12, t13, t14, t15, t23, t24, t25, t34, t35, t45, hn0, hn1, hn2, hn3, hn4, hn5, s0, s1, s2, s3, s4, s5⟩ := HD.out
 replace X := (cq.block w.heap.size hs hn4).trans X
 replace hs := Nat.lt_of_lt_of_le hs cq.size
 replace CH := CH.trans (cq.mono (old_sub.trans s4))
 replace A0 := own_chg A0 cq t04
 replace A1 := own_chg A1 cq t14
 replace A2 := own_chg A2 cq t24
 replace A3 := own_chg A3 cq t34
 replace A5 := own_chg A5 cq (Dis.symm t45)
 clear cq C4 t01 t02 t03 t04 t05 t12 t13 t14 t15 t23 t24 t25 t34 t35 t45 hn0 hn1 hn2 hn3 hn4 hn5 s0 s1 s2 s3 s4 s5
 obtain ⟨y0, y1, y2, y3, y4, y5, y6, y7, y8, y9, y10, y11, y12⟩ := cells_fabric X
 have HS : Hid _ := And.intro CH (And.intro A0 (And.intro A1 (And.intro A2 (And.intro A3 (And.intro A4 (A5))))))
 clear CH A0 A1 A2 A3 A4 A5
 go_wp2_with fail
 clear y0 y1 y2 y3 y4 y5 y6 y7 y8 y9 y10 y11 y12
 obtain ⟨CH, A0, A1, A2, A3, A4, A5⟩ := HS.out
 clear HS
 refine (C5.out (k + (n1 : Int) + (n2 : Int) + (n3 : Int) + (n4 : Int)) _ A5 (by omega) (by omega)).mono ?_
 rintro e w5 ⟨rfl, A5, cq⟩
 obtain ⟨t01, t02, t03, t04, t05, t12, t13, t14, t15, t23, t24, t25, t34, t35, t45, hn0, hn1, hn2, hn3, hn4, hn5, s0, s1, s2, s3, s4, s5⟩ := HD.out
 replace X := (cq.block w.heap.size hs hn5).trans X
 replace hs := Nat.lt_of_lt_of_le hs cq.size
 replace CH := CH.trans (cq.mono (old_sub.trans s5))
 replace A0 := own_chg A0 cq t05
 replace A1 := own_chg A1 cq t15
 replace A2 := own_chg A2 cq t25
 replace A3 := own_chg A3 cq t35
 replace A4 := own_chg A4 cq t45
 clear cq C5 t01 t02 t03 t04 t05 t12 t13 t14 t15 t23 t24 t25 t34 t35 t45 hn0 hn1 hn2 hn3 hn4 hn5 s0 s1 s2 s3 s4 s5
 clear X
 have HS : Hid _ := And.intro CH (And.intro A0 (And.intro A1 (And.intro A2 (And.intro A3 (And.intro A4 (A5))))))
 clear CH A0 A1 A2 A3 A4 A5
 go_wp2
 go_ret
 obtain ⟨CH, A0, A1, A2, A3, A4, A5⟩ := HS.out
 obtain ⟨t01, t02, t03, t04, t05, t12, t13, t14, t15, t23, t24, t25, t34, t35, t45, hn0, hn1, hn2, hn3, hn4, hn5, s0, s1, s2, s3, s4, s5⟩ := HD.out
 exact ⟨ret_int (by omega), HMV.out (fun y => fabricR.own _ S _ y) (own_fabric (x := (cfgM.mV k x.1, houseM.mV (k) x.2.1, coresM.mV (k + (n1 : Int)) x.2.2.1, dmaM.mV (k + (n1 : Int) + (n2 : Int)) x.2.2.2.1, msgsM.mV (k + (n1 : Int) + (n2 : Int) + (n3 : Int)) x.2.2.2.2.1, eventsM.mV (k + (n1 : Int) + (n2 : Int) + (n3 : Int) + (n4 : Int)) x.2.2.2.2.2)) A0 A1 A2 A3 A4 A5 (old_sub.trans s0) (old_sub.trans s1) (old_sub.trans s2) (old_sub.trans s3) (old_sub.trans s4) (old_sub.trans s5) t01 t02 t03 t04 t05 t12 t13 t14 t15 t23 t24 t25 t34 t35 t45), HF.out _ CH⟩
theorem hdFab_z (cs : List Value) (x : FabricD) (k : Int) (w : World) (he : x.2.2.2.2.2 = []) (h : fabricR.rd w cs (fabricM.mV k x)) (h0 : 0 ≤ k) (hm : k + (fabricM.cV x : Int) ≤ (lot : Int)) (hb : fabricM.bk x ≤ lot) :
    Calls Tryz.prog 22 #[aggV cs, .int .i64 k] w fun e w' => e = .returned (.int .i64 (k + (fabricM.cV x : Int))) ∧ Below w.heap.size w w' := by
 rw [fabric_mV] at h
 have z0 : ((cfgM.cV x.1 : Nat) : Int) = 0 := rfl
 rw [z0, Int.add_zero] at h
 clear z0
 obtain ⟨v0, v1, v2, v3, v4, v5, v6, v7, v8, v9, v10, v11, v12, rfl, r0, r1, r2, r3, r4, r5⟩ := fabric_rd h
 clear h r0
 simp only at r1 r2 r3 r4 r5
 rw [fabric_cV] at hm ⊢
 rw [show fabricM.bk x = 0 + (houseM.bk x.2.1 + (coresM.bk x.2.2.1 + (dmaM.bk x.2.2.2.1 + (msgsM.bk x.2.2.2.2.1 + eventsM.bk x.2.2.2.2.2)))) from rfl] at hb
 have el : lot = 4398046511104 := rfl
 change Calls Tryz.prog 22 #[.agg #[v0, v1, v2, v3, v4, v5, v6, v7, v8, v9, v10, v11, v12], .int .i64 k] w _
 have C1 : Hid (∀ W, Below w.heap.size w W → Calls Tryz.prog 74 #[.agg #[v4, v5], .int .i64 k] W fun e w' => e = .returned (.int .i64 (k + (houseM.cV x.2.1 : Int))) ∧ Below W.heap.size W w') := fun W hb9 => hdHouse_u [v4, v5] x.2.1 k W (rd_next r1 hb9) (by omega) (by omega) (by omega)
 have C2 : Hid (∀ W, Below w.heap.size w W → Calls Tryz.prog 75 #[v6, .int .i64 (k + ((houseM.cV x.2.1 : Nat) : Int))] W fun e w' => e = .returned (.int .i64 ((k + ((houseM.cV x.2.1 : Nat) : Int)) + (coresM.cV x.2.2.1 : Int))) ∧ Below W.heap.size W w') := fun W hb9 => hdCores_u [v6] x.2.2.1 (k + ((houseM.cV x.2.1 : Nat) : Int)) W (rd_next r2 hb9) (by omega) (by omega) (by omega)
 have C3 : Hid (∀ W, Below w.heap.size w W → Calls Tryz.prog 76 #[.agg #[v7, v8, v9, v10], .int .i64 ((k + ((houseM.cV x.2.1 : Nat) : Int)) + ((coresM.cV x.2.2.1 : Nat) : Int))] W fun e w' => e = .returned (.int .i64 (((k + ((houseM.cV x.2.1 : Nat) : Int)) + ((coresM.cV x.2.2.1 : Nat) : Int)) + (dmaM.cV x.2.2.2.1 : Int))) ∧ Below W.heap.size W w') := fun W hb9 => hdDma_u [v7, v8, v9, v10] x.2.2.2.1 ((k + ((houseM.cV x.2.1 : Nat) : Int)) + ((coresM.cV x.2.2.1 : Nat) : Int)) W (rd_next r3 hb9) (by omega) (by omega) (by omega)
 have C4 : Hid (∀ W, Below w.heap.size w W → Calls Tryz.prog 77 #[v11, .int .i64 (((k + ((houseM.cV x.2.1 : Nat) : Int)) + ((coresM.cV x.2.2.1 : Nat) : Int)) + ((dmaM.cV x.2.2.2.1 : Nat) : Int))] W fun e w' => e = .returned (.int .i64 ((((k + ((houseM.cV x.2.1 : Nat) : Int)) + ((coresM.cV x.2.2.1 : Nat) : Int)) + ((dmaM.cV x.2.2.2.1 : Nat) : Int)) + (msgsM.cV x.2.2.2.2.1 : Int))) ∧ Below W.heap.size W w') := fun W hb9 => hdMsgs_u [v11] x.2.2.2.2.1 (((k + ((houseM.cV x.2.1 : Nat) : Int)) + ((coresM.cV x.2.2.1 : Nat) : Int)) + ((dmaM.cV x.2.2.2.1 : Nat) : Int)) W (rd_next r4 hb9) (by omega) (by omega) (by omega)
 have C5 : Hid (∀ W, Below w.heap.size w W → Calls Tryz.prog 78 #[v12, .int .i64 ((((k + ((houseM.cV x.2.1 : Nat) : Int)) + ((coresM.cV x.2.2.1 : Nat) : Int)) + ((dmaM.cV x.2.2.2.1 : Nat) : Int)) + ((msgsM.cV x.2.2.2.2.1 : Nat) : Int))] W fun e w' => e = .returned (.int .i64 (((((k + ((houseM.cV x.2.1 : Nat) : Int)) + ((coresM.cV x.2.2.1 : Nat) : Int)) + ((dmaM.cV x.2.2.2.1 : Nat) : Int)) + ((msgsM.cV x.2.2.2.2.1 : Nat) : Int)) + (eventsM.cV x.2.2.2.2.2 : Int))) ∧ Below W.heap.size W w') := fun W hb9 => hdEvents_z [v12] x.2.2.2.2.2 he ((((k + ((houseM.cV x.2.1 : Nat) : Int)) + ((coresM.cV x.2.2.1 : Nat) : Int)) + ((dmaM.cV x.2.2.2.1 : Nat) : Int)) + ((msgsM.cV x.2.2.2.2.1 : Nat) : Int)) W (rd_next r5 hb9)
 clear r1 r2 r3 r4 r5
 generalize houseM.cV x.2.1 = n1 at C1 C2 C3 C4 C5 hm ⊢
 generalize coresM.cV x.2.2.1 = n2 at C2 C3 C4 C5 hm ⊢
 generalize dmaM.cV x.2.2.2.1 = n3 at C3 C4 C5 hm ⊢
 generalize msgsM.cV x.2.2.2.2.1 = n4 at C4 C5 hm ⊢
 generalize eventsM.cV x.2.2.2.2.2 = n5 at C5 hm ⊢
 have g1 : ¬ (k + (n1 : Int) < 0) := by omega
 have g2 : ¬ (k + (n1 : Int) + (n2 : Int) < 0) := by omega
 have g3 : ¬ (k + (n1 : Int) + (n2 : Int) + (n3 : Int) < 0) := by omega
 have g4 : ¬ (k + (n1 : Int) + (n2 : Int) + (n3 : Int) + (n4 : Int) < 0) := by omega
 have g5 : ¬ (k + (n1 : Int) + (n2 : Int) + (n3 : Int) + (n4 : Int) + (n5 : Int) < 0) := by omega
 have X := heap_at w (.cells #[v0, v1, v2, v3, v4, v5, v6, v7, v8, v9, v10, v11, v12] 49)
 have B := box_below w (.cells #[v0, v1, v2, v3, v4, v5, v6, v7, v8, v9, v10, v11, v12] 49)
 go_enter Tryz.func22, Tryz.ntmps22
 go_wp2_with fail
 generalize w.alloc (.cells #[v0, v1, v2, v3, v4, v5, v6, v7, v8, v9, v10, v11, v12] 49) = W0 at X B ⊢
 refine (C1.out _ B).mono ?_
 rintro e w1 ⟨rfl, bq⟩
 replace B := below_step B bq
 replace X := row_keep bq X
 clear bq
 obtain ⟨y0, y1, y2, y3, y4, y5, y6, y7, y8, y9, y10, y11, y12⟩ := cells_fabric X
 have HB : Hid _ := B
 clear B
 go_wp2_with fail
 clear y0 y1 y2 y3 y4 y5 y6 y7 y8 y9 y10 y11 y12
 have B := HB.out
 clear HB
 refine (C2.out _ B).mono ?_
 rintro e w2 ⟨rfl, bq⟩
 replace B := below_step B bq
 replace X := row_keep bq X
 clear bq
 obtain ⟨y0, y1, y2, y3, y4, y5, y6, y7, y8, y9, y10, y11, y12⟩ := cells_fabric X
 have HB : Hid _ := B
 clear B
 go_wp2_with fail
 clear y0 y1 y2 y3 y4 y5 y6 y7 y8 y9 y10 y11 y12
 have B := HB.out
 clear HB
 refine (C3.out _ B).mono ?_
 rintro e w3 ⟨rfl, bq⟩
 replace B := below_step B bq
 replace X := row_keep bq X
 clear bq
 obtain ⟨y0, y1, y2, y3, y4, y5, y6, y7, y8, y9, y10, y11, y12⟩ := cells_fabric X
 have HB : Hid _ := B
 clear B
 go_wp2_with fail
 clear y0 y1 y2 y3 y4 y5 y6 y7 y8 y9 y10 y11 y12
 have B := HB.out
 clear HB
 refine (C4.out _ B).mono ?_
 rintro e w4 ⟨rfl, bq⟩
 replace B := below_step B bq
 replace X := row_keep bq X
 clear bq
 obtain ⟨y0, y1, y2, y3, y4, y5, y6, y7, y8, y9, y10, y11, y12⟩ := cells_fabric X
 have HB : Hid _ := B
 clear B
 go_wp2_with fail
 clear y0 y1 y2 y3 y4 y5 y6 y7 y8 y9 y10 y11 y12
 have B := HB.out
 clear HB
 refine (C5.out _ B).mono ?_
 rintro e w5 ⟨rfl, bq⟩
 replace B := below_step B bq
 replace X := row_keep bq X
 clear bq
 clear X
 have HB : Hid _ := B
 clear B
 go_wp2
 go_ret
 exact ⟨ret_int (by omega), HB.out⟩
end Go.Proofs.YthnfkacboijneaaGreatDoor
