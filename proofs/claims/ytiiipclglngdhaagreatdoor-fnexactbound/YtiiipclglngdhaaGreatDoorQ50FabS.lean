import Derived.Test.YtiiipclglngdhaaGreatDoorQ00Box
import Derived.Test.YtiiipclglngdhaaGreatDoorQ46FabL1
import Derived.Test.YtiiipclglngdhaaGreatDoorQ47FabL2
import Derived.Test.YtiiipclglngdhaaGreatDoorQ48FabL3
import Derived.Test.YtiiipclglngdhaaGreatDoorQ49FabL4
namespace Go.Proofs.YtiiipclglngdhaaGreatDoor
open Go.ChangeShapes Go.WideShapes Go.ChangeAt Go.RowKit
set_option linter.unusedVariables false
set_option linter.unusedSimpArgs false
theorem fab_house {x : FabricD} (h : fabricM.bk x ≤ 1048576) : houseM.bk x.2.1 ≤ 1048576 := by
 have e : fabricM.bk x = 0 + (houseM.bk x.2.1 + (coresM.bk x.2.2.1 + (dmaM.bk x.2.2.2.1 + (msgsM.bk x.2.2.2.2.1 + eventsM.bk x.2.2.2.2.2)))) := rfl
 omega
set_option maxHeartbeats 8000000 in
set_option maxRecDepth 100000 in
theorem specFabricOk_u (cs : List Value) (x : FabricD) (w : World) (h : fabricR.rd w cs x) (hbk : fabricM.bk x ≤ 1048576) :
    Calls Tryz.prog 17 #[aggV cs] w fun e w' => e = .returned (.bool (fabS x)) ∧ Below w.heap.size w w' := by
 obtain ⟨a1, c1, b1, d1, a2, c2, a3, c3, b3, d3, a4, c4, a5, c5, rfl, R⟩ := fab_open h
 have hhk := fab_house hbk
 have HC : Hid (∀ W, Below w.heap.size w W → Calls Tryz.prog 41 #[.agg #[.int .i64 x.1.1, .int .i64 x.1.2.1, .int .i64 x.1.2.2.1, .int .i64 x.1.2.2.2]] W fun e w' => e = .returned (.int .i64 (codeI x.1.1 x.1.2.1 x.1.2.2.1 x.1.2.2.2)) ∧ Below W.heap.size W w') := fun W hb => specCode_any x.1.1 x.1.2.1 x.1.2.2.1 x.1.2.2.2 W
 have HH : Hid (∀ W, Below w.heap.size w W → Calls Tryz.prog 42 #[.agg #[.slice a1 x.2.1.1.length c1, .slice b1 x.2.1.2.length d1]] W fun e w' => e = .returned (.bool (houseB x.2.1)) ∧ Below W.heap.size W w') := fun W hb => specHouseOk_u _ x.2.1 W (rd_next R.house hb) hhk
 have HD : Hid (∀ W, Below w.heap.size w W → Calls Tryz.prog 43 #[.agg #[.slice a3 x.2.2.2.1.1.length c3, .int .i64 x.2.2.2.1.2.1, .bool x.2.2.2.1.2.2.1, .slice b3 x.2.2.2.1.2.2.2.length d3]] W fun e w' => e = .returned (.bool (dmaS x.2.2.2.1)) ∧ Below W.heap.size W w') := fun W hb => specDmaOk_u _ x.2.2.2.1 W (rd_next R.dma hb)
 have HE : Hid (∀ W, Below w.heap.size w W → Calls Tryz.prog 44 #[.agg #[.int .i64 x.1.1, .int .i64 x.1.2.1, .int .i64 x.1.2.2.1, .int .i64 x.1.2.2.2], .slice a3 x.2.2.2.1.1.length c3] W fun e w' => e = .returned (.int .i64 (descI x.1.1 x.1.2.1 x.1.2.2.1 x.1.2.2.2 x.2.2.2.1.1)) ∧ Below W.heap.size W w') := fun W hb => specDescCode_any x.1.1 x.1.2.1 x.1.2.2.1 x.1.2.2.2 a3 x.2.2.2.1.1 c3 W (slrd_next R.descs hb) R.descsl
 have HT : Hid (∀ W, Below w.heap.size w W → Calls Tryz.prog 45 #[.slice a4 x.2.2.2.2.1.length c4] W fun e w' => e = .returned (.bool (netB x.2.2.2.2.1)) ∧ Below W.heap.size W w') := fun W hb => specNetOk_any a4 x.2.2.2.2.1 c4 W (slrd_next R.net hb) R.netl
 have RR : Hid (∀ W, Below w.heap.size w W → FabRd W x a1 c1 b1 d1 a2 c2 a3 c3 b3 d3 a4 c4 a5 c5) := fun W hb => fab_next R hb
 have l1 : x.2.1.2.length ≤ 9223372036854775807 := R.bookl
 have l2 : x.2.2.1.length ≤ 9223372036854775807 := R.coresl
 have l3 : x.2.2.2.2.1.length ≤ 9223372036854775807 := R.netl
 have l4 : x.2.2.2.2.2.length ≤ 9223372036854775807 := R.evsl
 rw [show aggV [.int .i64 x.1.1, .int .i64 x.1.2.1, .int .i64 x.1.2.2.1, .int .i64 x.1.2.2.2, .slice a1 x.2.1.1.length c1, .slice b1 x.2.1.2.length d1, .slice a2 x.2.2.1.length c2, .slice a3 x.2.2.2.1.1.length c3, .int .i64 x.2.2.2.1.2.1, .bool x.2.2.2.1.2.2.1, .slice b3 x.2.2.2.1.2.2.2.length d3, .slice a4 x.2.2.2.2.1.length c4, .slice a5 x.2.2.2.2.2.length c5] = .agg #[.int .i64 x.1.1, .int .i64 x.1.2.1, .int .i64 x.1.2.2.1, .int .i64 x.1.2.2.2, .slice a1 x.2.1.1.length c1, .slice b1 x.2.1.2.length d1, .slice a2 x.2.2.1.length c2, .slice a3 x.2.2.2.1.1.length c3, .int .i64 x.2.2.2.1.2.1, .bool x.2.2.2.1.2.2.1, .slice b3 x.2.2.2.1.2.2.2.length d3, .slice a4 x.2.2.2.2.1.length c4, .slice a5 x.2.2.2.2.2.length c5] from rfl]
 clear h hbk hhk R
 have B := Below.refl w.heap.size w
 go_enter Tryz.func17, Tryz.ntmps17
 go_upto_region 1 with fail
 generalize hu1w : w.alloc _ = u1w
 have F := boxH hu1w
 have bz := boxB hu1w
 have zF := boxL hu1w
 clear hu1w
 replace B := below_step B bz
 clear bz
 have zFa := Nat.le_of_eq zF
 have zFb := Nat.le_of_eq zF.symm
 clear zF
 go_cut [66] (fun q wx => q = .bool (!headF x) ∧ Below w.heap.size w wx ∧ wx.heap[w.heap.size]? = some (.cells #[.int .i64 x.1.1, .int .i64 x.1.2.1, .int .i64 x.1.2.2.1, .int .i64 x.1.2.2.2, .slice a1 x.2.1.1.length c1, .slice b1 x.2.1.2.length d1, .slice a2 x.2.2.1.length c2, .slice a3 x.2.2.2.1.1.length c3, .int .i64 x.2.2.2.1.2.1, .bool x.2.2.2.1.2.2.1, .slice b3 x.2.2.2.1.2.2.2.length d3, .slice a4 x.2.2.2.2.1.length c4, .slice a5 x.2.2.2.2.2.length c5] 49 (0, 0)))
 case first =>
  as_aux_lemma =>
   obtain ⟨kc, hkc⟩ : ∃ kc, kc = codeI x.1.1 x.1.2.1 x.1.2.2.1 x.1.2.2.2 := ⟨_, rfl⟩
   rw [← hkc] at HC
   have Ekc : Hid (codeI x.1.1 x.1.2.1 x.1.2.2.1 x.1.2.2.2 = kc) := hkc.symm
   clear hkc
   obtain ⟨Fc0, Fc1, Fc2, Fc3, Fc4, Fc5, Fc6, Fc7, Fc8, Fc9, Fc10, Fc11, Fc12⟩ := cells_fabric F
   have Flt := (Array.getElem?_eq_some_iff.1 F).1
   go_wp2_with fail
   clear Fc0 Fc1 Fc2 Fc3 Fc4 Fc5 Fc6 Fc7 Fc8 Fc9 Fc10 Fc11 Fc12 Flt
   refine (HC.out _ B).mono ?_
   rintro e u2w ⟨rfl, bq⟩
   have tu2w : u1w.heap.size ≤ u2w.heap.size := bq.size
   replace B := below_step B bq
   replace F := row_keep bq F
   clear bq
   by_cases zkc : kc = 0
   ·have ykc : (kc != 0) = false := by simp [zkc]
    have Zkc : Hid (kc = 0) := zkc
    clear zkc
    cases qHH : houseB x.2.1
    ·rw [qHH] at HH
     obtain ⟨Fc0, Fc1, Fc2, Fc3, Fc4, Fc5, Fc6, Fc7, Fc8, Fc9, Fc10, Fc11, Fc12⟩ := cells_fabric F
     have Flt := (Array.getElem?_eq_some_iff.1 F).1
     go_wp2_with fail
     clear Fc0 Fc1 Fc2 Fc3 Fc4 Fc5 Fc6 Fc7 Fc8 Fc9 Fc10 Fc11 Fc12 Flt
     refine (HH.out _ B).mono ?_
     rintro e u3w ⟨rfl, bq⟩
     have tu3w : u2w.heap.size ≤ u3w.heap.size := bq.size
     replace B := below_step B bq
     replace F := row_keep bq F
     clear bq
     obtain ⟨Fc0, Fc1, Fc2, Fc3, Fc4, Fc5, Fc6, Fc7, Fc8, Fc9, Fc10, Fc11, Fc12⟩ := cells_fabric F
     have Flt := (Array.getElem?_eq_some_iff.1 F).1
     have HZ : Hid _ := And.intro B F
     clear B F
     go_wp2_with fail
     go_meet
     exact ⟨by simp [headF, Ekc.out, Zkc.out, qHH] <;> omega, HZ.out.1, HZ.out.2⟩
    ·rw [qHH] at HH
     obtain ⟨Fc0, Fc1, Fc2, Fc3, Fc4, Fc5, Fc6, Fc7, Fc8, Fc9, Fc10, Fc11, Fc12⟩ := cells_fabric F
     have Flt := (Array.getElem?_eq_some_iff.1 F).1
     go_wp2_with fail
     clear Fc0 Fc1 Fc2 Fc3 Fc4 Fc5 Fc6 Fc7 Fc8 Fc9 Fc10 Fc11 Fc12 Flt
     refine (HH.out _ B).mono ?_
     rintro e u4w ⟨rfl, bq⟩
     have tu4w : u2w.heap.size ≤ u4w.heap.size := bq.size
     replace B := below_step B bq
     replace F := row_keep bq F
     clear bq
     by_cases zeb : (x.2.1.2.length : Int) = x.1.2.2.2
     ·have yeb : ((x.2.1.2.length : Int) != x.1.2.2.2) = false := by simp [zeb]
      have Zeb : Hid ((x.2.1.2.length : Int) = x.1.2.2.2) := zeb
      clear zeb
      by_cases zec : (x.2.2.1.length : Int) = x.1.1
      ·have yec : ((x.2.2.1.length : Int) != x.1.1) = false := by simp [zec]
       have Zec : Hid ((x.2.2.1.length : Int) = x.1.1) := zec
       clear zec
       cases qHD : dmaS x.2.2.2.1
       ·rw [qHD] at HD
        obtain ⟨Fc0, Fc1, Fc2, Fc3, Fc4, Fc5, Fc6, Fc7, Fc8, Fc9, Fc10, Fc11, Fc12⟩ := cells_fabric F
        have Flt := (Array.getElem?_eq_some_iff.1 F).1
        go_wp2_with fail
        clear Fc0 Fc1 Fc2 Fc3 Fc4 Fc5 Fc6 Fc7 Fc8 Fc9 Fc10 Fc11 Fc12 Flt
        refine (HD.out _ B).mono ?_
        rintro e u5w ⟨rfl, bq⟩
        have tu5w : u4w.heap.size ≤ u5w.heap.size := bq.size
        replace B := below_step B bq
        replace F := row_keep bq F
        clear bq
        obtain ⟨Fc0, Fc1, Fc2, Fc3, Fc4, Fc5, Fc6, Fc7, Fc8, Fc9, Fc10, Fc11, Fc12⟩ := cells_fabric F
        have Flt := (Array.getElem?_eq_some_iff.1 F).1
        have HZ : Hid _ := And.intro B F
        clear B F
        go_wp2_with fail
        go_meet
        exact ⟨by simp [headF, Ekc.out, Zkc.out, qHH, Zeb.out, Zec.out, qHD] <;> omega, HZ.out.1, HZ.out.2⟩
       ·rw [qHD] at HD
        obtain ⟨Fc0, Fc1, Fc2, Fc3, Fc4, Fc5, Fc6, Fc7, Fc8, Fc9, Fc10, Fc11, Fc12⟩ := cells_fabric F
        have Flt := (Array.getElem?_eq_some_iff.1 F).1
        go_wp2_with fail
        clear Fc0 Fc1 Fc2 Fc3 Fc4 Fc5 Fc6 Fc7 Fc8 Fc9 Fc10 Fc11 Fc12 Flt
        refine (HD.out _ B).mono ?_
        rintro e u6w ⟨rfl, bq⟩
        have tu6w : u4w.heap.size ≤ u6w.heap.size := bq.size
        replace B := below_step B bq
        replace F := row_keep bq F
        clear bq
        obtain ⟨kd, hkd⟩ : ∃ kd, kd = descI x.1.1 x.1.2.1 x.1.2.2.1 x.1.2.2.2 x.2.2.2.1.1 := ⟨_, rfl⟩
        rw [← hkd] at HE
        have Ekd : Hid (descI x.1.1 x.1.2.1 x.1.2.2.1 x.1.2.2.2 x.2.2.2.1.1 = kd) := hkd.symm
        clear hkd
        obtain ⟨Fc0, Fc1, Fc2, Fc3, Fc4, Fc5, Fc6, Fc7, Fc8, Fc9, Fc10, Fc11, Fc12⟩ := cells_fabric F
        have Flt := (Array.getElem?_eq_some_iff.1 F).1
        go_wp2_with fail
        clear Fc0 Fc1 Fc2 Fc3 Fc4 Fc5 Fc6 Fc7 Fc8 Fc9 Fc10 Fc11 Fc12 Flt
        refine (HE.out _ B).mono ?_
        rintro e u7w ⟨rfl, bq⟩
        have tu7w : u6w.heap.size ≤ u7w.heap.size := bq.size
        replace B := below_step B bq
        replace F := row_keep bq F
        clear bq
        by_cases zkd : kd = 0
        ·have ykd : (kd != 0) = false := by simp [zkd]
         have Zkd : Hid (kd = 0) := zkd
         clear zkd
         cases qHT : netB x.2.2.2.2.1
         ·rw [qHT] at HT
          obtain ⟨Fc0, Fc1, Fc2, Fc3, Fc4, Fc5, Fc6, Fc7, Fc8, Fc9, Fc10, Fc11, Fc12⟩ := cells_fabric F
          have Flt := (Array.getElem?_eq_some_iff.1 F).1
          go_wp2_with fail
          clear Fc0 Fc1 Fc2 Fc3 Fc4 Fc5 Fc6 Fc7 Fc8 Fc9 Fc10 Fc11 Fc12 Flt
          refine (HT.out _ B).mono ?_
          rintro e u8w ⟨rfl, bq⟩
          have tu8w : u7w.heap.size ≤ u8w.heap.size := bq.size
          replace B := below_step B bq
          replace F := row_keep bq F
          clear bq
          obtain ⟨Fc0, Fc1, Fc2, Fc3, Fc4, Fc5, Fc6, Fc7, Fc8, Fc9, Fc10, Fc11, Fc12⟩ := cells_fabric F
          have Flt := (Array.getElem?_eq_some_iff.1 F).1
          have HZ : Hid _ := And.intro B F
          clear B F
          go_wp2_with fail
          go_meet
          exact ⟨by simp [headF, Ekc.out, Zkc.out, qHH, Zeb.out, Zec.out, qHD, Ekd.out, Zkd.out, qHT] <;> omega, HZ.out.1, HZ.out.2⟩
         ·rw [qHT] at HT
          obtain ⟨Fc0, Fc1, Fc2, Fc3, Fc4, Fc5, Fc6, Fc7, Fc8, Fc9, Fc10, Fc11, Fc12⟩ := cells_fabric F
          have Flt := (Array.getElem?_eq_some_iff.1 F).1
          go_wp2_with fail
          clear Fc0 Fc1 Fc2 Fc3 Fc4 Fc5 Fc6 Fc7 Fc8 Fc9 Fc10 Fc11 Fc12 Flt
          refine (HT.out _ B).mono ?_
          rintro e u9w ⟨rfl, bq⟩
          have tu9w : u7w.heap.size ≤ u9w.heap.size := bq.size
          replace B := below_step B bq
          replace F := row_keep bq F
          clear bq
          by_cases ze : x.2.2.2.2.2.length ≤ 200
          ·have ye : ¬ (200 < (x.2.2.2.2.2.length : Int)) := by omega
           obtain ⟨Fc0, Fc1, Fc2, Fc3, Fc4, Fc5, Fc6, Fc7, Fc8, Fc9, Fc10, Fc11, Fc12⟩ := cells_fabric F
           have Flt := (Array.getElem?_eq_some_iff.1 F).1
           have HZ : Hid _ := And.intro B F
           clear B F
           go_wp2_with fail
           go_meet
           exact ⟨by simp [headF, Ekc.out, Zkc.out, qHH, Zeb.out, Zec.out, qHD, Ekd.out, Zkd.out, qHT, ze] <;> omega, HZ.out.1, HZ.out.2⟩
          ·have ye : 200 < (x.2.2.2.2.2.length : Int) := by omega
           obtain ⟨Fc0, Fc1, Fc2, Fc3, Fc4, Fc5, Fc6, Fc7, Fc8, Fc9, Fc10, Fc11, Fc12⟩ := cells_fabric F
           have Flt := (Array.getElem?_eq_some_iff.1 F).1
           have HZ : Hid _ := And.intro B F
           clear B F
           go_wp2_with fail
           go_meet
           exact ⟨by simp [headF, Ekc.out, Zkc.out, qHH, Zeb.out, Zec.out, qHD, Ekd.out, Zkd.out, qHT, ze] <;> omega, HZ.out.1, HZ.out.2⟩
        ·have ykd : (kd != 0) = true := by simp [zkd]
         have Zkd : Hid (¬ kd = 0) := zkd
         clear zkd
         obtain ⟨Fc0, Fc1, Fc2, Fc3, Fc4, Fc5, Fc6, Fc7, Fc8, Fc9, Fc10, Fc11, Fc12⟩ := cells_fabric F
         have Flt := (Array.getElem?_eq_some_iff.1 F).1
         have HZ : Hid _ := And.intro B F
         clear B F
         go_wp2_with fail
         go_meet
         exact ⟨by simp [headF, Ekc.out, Zkc.out, qHH, Zeb.out, Zec.out, qHD, Ekd.out, Zkd.out] <;> omega, HZ.out.1, HZ.out.2⟩
      ·have yec : ((x.2.2.1.length : Int) != x.1.1) = true := by simp [zec]
       have Zec : Hid (¬ (x.2.2.1.length : Int) = x.1.1) := zec
       clear zec
       obtain ⟨Fc0, Fc1, Fc2, Fc3, Fc4, Fc5, Fc6, Fc7, Fc8, Fc9, Fc10, Fc11, Fc12⟩ := cells_fabric F
       have Flt := (Array.getElem?_eq_some_iff.1 F).1
       have HZ : Hid _ := And.intro B F
       clear B F
       go_wp2_with fail
       go_meet
       exact ⟨by simp [headF, Ekc.out, Zkc.out, qHH, Zeb.out, Zec.out] <;> omega, HZ.out.1, HZ.out.2⟩
     ·have yeb : ((x.2.1.2.length : Int) != x.1.2.2.2) = true := by simp [zeb]
      have Zeb : Hid (¬ (x.2.1.2.length : Int) = x.1.2.2.2) := zeb
      clear zeb
      obtain ⟨Fc0, Fc1, Fc2, Fc3, Fc4, Fc5, Fc6, Fc7, Fc8, Fc9, Fc10, Fc11, Fc12⟩ := cells_fabric F
      have Flt := (Array.getElem?_eq_some_iff.1 F).1
      have HZ : Hid _ := And.intro B F
      clear B F
      go_wp2_with fail
      go_meet
      exact ⟨by simp [headF, Ekc.out, Zkc.out, qHH, Zeb.out] <;> omega, HZ.out.1, HZ.out.2⟩
   ·have ykc : (kc != 0) = true := by simp [zkc]
    have Zkc : Hid (¬ kc = 0) := zkc
    clear zkc
    obtain ⟨Fc0, Fc1, Fc2, Fc3, Fc4, Fc5, Fc6, Fc7, Fc8, Fc9, Fc10, Fc11, Fc12⟩ := cells_fabric F
    have Flt := (Array.getElem?_eq_some_iff.1 F).1
    have HZ : Hid _ := And.intro B F
    clear B F
    go_wp2_with fail
    go_meet
    exact ⟨by simp [headF, Ekc.out, Zkc.out] <;> omega, HZ.out.1, HZ.out.2⟩
 case rest =>
  obtain ⟨rfl, B, F⟩ := hcut
  clear HC HH HD HE HT
  generalize wc = W1 at B F ⊢
  cases hh : headF x
  ·have HR : Hid (fabS x = false) := by unfold Hid fabS; rw [hh]; rfl
   clear RR hh F
   go_wp2
   go_ret
   exact ⟨ret_bool HR.out.symm, B⟩
  ·have HH : Hid (headF x = true) := hh
   clear hh
   obtain ⟨p0, p1, p2, p3, p4, p5, p6, p7, p8, p9, p10, p11, p12⟩ := cells_fabric F
   go_wp2
   clear p0 p1 p2 p3 p4 p5 p6 p7 p8 p9 p10 p11 p12
   refine fabLoop1 x a1 c1 b1 d1 a2 c2 a3 c3 b3 d3 a4 c4 a5 c5 w W1 RR HH B F ?_ ?_
   rotate_left
   ·unfold Hid
    intro b0 b4 b5 b6 b7 b8 b9 ba bb bc bd be bf bg bh bi bj bl bm bn bo bp br bs bt bu bv bw bx c0 c6 c7 c8 c9 ca cb cc cd ce cf cg ch ci cj ck cl cm cn co cp cq cr ct cu cv cw cx cy cz d0 d2 d4 d5 d6 d7 d8 d9 da db dd de df dg dh di dj dk dl dm dn dp dq dr dt du dv dw dx dy dz e0 e1 e2 e3 e4 e5 e6 e7 e8 e9 ea eb ec ed ee ef eg eh ei ej ek el em en eo ep er es et eu ev ew ex ey ez f0 f1 f2 f3 f4 f5 f6 f7 f8 f9 fa fb fc fd fe ff fg fh fi fj fk fl fm fn fo fp fq fr fs ft fu fv fw fx fy fz g0 g1 g2 g3 g4 g5 g6 g7 g8 g9 ga gb gc gd gf gg gh gi gj gk gl gm gn gp gq gr gs gu gv gw gx gy gz h0 h1 h2 h3 h4 h5 h6 h7 h8 h9 ha hc hd he hf hg hi hj hk hl hm hn ho hp hq hs ht hu hv hw hx hy hz i0 V hr B
    go_wp2
    go_ret
    exact ⟨ret_bool hr.symm, B⟩
   ·unfold Hid
    clear B F
    intro b0 b2 b4 b5 b6 b7 b8 b9 ba bb bc bd be bf bg bh bi bj bl bm bn bo bp br bs bt bu bv bw bx c0 c6 c7 c8 c9 ca cb cc cd ce cf cg ch ci cj ck cl cm cn co cp cq cr ct cu cv cw cx cy cz d0 d2 d4 d5 d6 d7 d8 d9 da db dd de df dg dh di dj dk dl dm dn dp dq dr dt du dv dw dx dy dz e0 e1 e2 e3 e4 e5 e6 e7 e8 e9 ea eb ec ed ee ef eg eh ei ej ek el em en eo ep er es et eu ev ew ex ey ez f0 f1 f2 f3 f4 f5 f6 f7 f8 f9 fa fb fc fd fe ff fg fh fi fj fk fl fm fn fo fp fq fr fs ft fu fv fw fx fy fz g0 g1 g2 g3 g4 g5 g6 g7 g8 g9 ga gb gc gd gf gg gh gi gj gk gl gm gn gp gq gr gs gu gv gw gx gy gz h0 h1 h2 h3 h4 h5 h6 h7 h8 h9 ha hc hd he hf hg hi hj hk hl hm hn ho hp hq hs ht hu hv hw hx hy hz i0 V1 HA1 B F
    have HA1 : Hid _ := HA1
    obtain ⟨p0, p1, p2, p3, p4, p5, p6, p7, p8, p9, p10, p11, p12⟩ := cells_fabric F
    go_wp2
    clear p0 p1 p2 p3 p4 p5 p6 p7 p8 p9 p10 p11 p12
    refine fabLoop2 x a1 c1 b1 d1 a2 c2 a3 c3 b3 d3 a4 c4 a5 c5 w V1 RR HH B F ?_ ?_
    rotate_left
    ·unfold Hid
     intro b0 b4 b5 b6 b7 b8 b9 ba bb bc bd be bf bg bh bi bj bl bm bn bo bp br bs bt bu bv bw bx c0 c6 c7 c8 c9 ca cb cc cd ce cf cg ch ci cj ck cl cm cn co cp cq cr ct cu cv cw cx cy cz d0 d2 d4 d5 d6 d7 d8 d9 da db dd de df dg dh di dj dk dl dm dn dp dq dr dt du dv dw dx dy dz e0 e1 e2 e3 e4 e5 e6 e7 e8 e9 ea eb ec ed ee ef eg eh ei ej ek el em en eo ep er es et eu ev ew ex ey ez f0 f1 f2 f3 f4 f5 f6 f7 f8 f9 fa fb fc fd fe ff fg fh fi fj fk fl fm fn fo fp fq fr fs ft fu fv fw fx fy fz g0 g1 g2 g3 g4 g5 g6 g7 g8 g9 ga gb gc gd gf gg gh gi gj gk gl gm gn gp gq gr gs gu gv gw gx gy gz h0 h1 h2 h3 h4 h5 h6 h7 h8 h9 ha hc hd he hf hg hi hj hk hl hm hn ho hp hq hs ht hu hv hw hx hy hz i0 V hr B
     go_wp2
     go_ret
     exact ⟨ret_bool hr.symm, B⟩
    ·unfold Hid
     clear B F
     intro b0 b2 b4 b5 b6 b7 b8 b9 ba bb bc bd be bf bg bh bi bj bl bm bn bo bp br bs bt bu bv bw bx c0 c6 c7 c8 c9 ca cb cc cd ce cf cg ch ci cj ck cl cm cn co cp cq cr ct cu cv cw cx cy cz d0 d2 d4 d5 d6 d7 d8 d9 da db dd de df dg dh di dj dk dl dm dn dp dq dr dt du dv dw dx dy dz e0 e1 e2 e3 e4 e5 e6 e7 e8 e9 ea eb ec ed ee ef eg eh ei ej ek el em en eo ep er es et eu ev ew ex ey ez f0 f1 f2 f3 f4 f5 f6 f7 f8 f9 fa fb fc fd fe ff fg fh fi fj fk fl fm fn fo fp fq fr fs ft fu fv fw fx fy fz g0 g1 g2 g3 g4 g5 g6 g7 g8 g9 ga gb gc gd gf gg gh gi gj gk gl gm gn gp gq gr gs gu gv gw gx gy gz h0 h1 h2 h3 h4 h5 h6 h7 h8 h9 ha hc hd he hf hg hi hj hk hl hm hn ho hp hq hs ht hu hv hw hx hy hz i0 V2 HA2 B F
     have HA2 : Hid _ := HA2
     obtain ⟨p0, p1, p2, p3, p4, p5, p6, p7, p8, p9, p10, p11, p12⟩ := cells_fabric F
     go_wp2
     clear p0 p1 p2 p3 p4 p5 p6 p7 p8 p9 p10 p11 p12
     refine fabLoop3 x a1 c1 b1 d1 a2 c2 a3 c3 b3 d3 a4 c4 a5 c5 w V2 RR HH B F ?_ ?_
     rotate_left
     ·unfold Hid
      intro b0 b4 b5 b6 b7 b8 b9 ba bb bc bd be bf bg bh bi bj bl bm bn bo bp br bs bt bu bv bw bx c0 c6 c7 c8 c9 ca cb cc cd ce cf cg ch ci cj ck cl cm cn co cp cq cr ct cu cv cw cx cy cz d0 d2 d4 d5 d6 d7 d8 d9 da db dd de df dg dh di dj dk dl dm dn dp dq dr dt du dv dw dx dy dz e0 e1 e2 e3 e4 e5 e6 e7 e8 e9 ea eb ec ed ee ef eg eh ei ej ek el em en eo ep er es et eu ev ew ex ey ez f0 f1 f2 f3 f4 f5 f6 f7 f8 f9 fa fb fc fd fe ff fg fh fi fj fk fl fm fn fo fp fq fr fs ft fu fv fw fx fy fz g0 g1 g2 g3 g4 g5 g6 g7 g8 g9 ga gb gc gd gf gg gh gi gj gk gl gm gn gp gq gr gs gu gv gw gx gy gz h0 h1 h2 h3 h4 h5 h6 h7 h8 h9 ha hc hd he hf hg hi hj hk hl hm hn ho hp hq hs ht hu hv hw hx hy hz i0 V hr B
      go_wp2
      go_ret
      exact ⟨ret_bool hr.symm, B⟩
     ·unfold Hid
      clear B F
      intro b0 b2 b4 b5 b6 b7 b8 b9 ba bb bc bd be bf bg bh bi bj bl bm bn bo bp br bs bt bu bv bw bx c0 c6 c7 c8 c9 ca cb cc cd ce cf cg ch ci cj ck cl cm cn co cp cq cr ct cu cv cw cx cy cz d0 d2 d4 d5 d6 d7 d8 d9 da db dd de df dg dh di dj dk dl dm dn dp dq dr dt du dv dw dx dy dz e0 e1 e2 e3 e4 e5 e6 e7 e8 e9 ea eb ec ed ee ef eg eh ei ej ek el em en eo ep er es et eu ev ew ex ey ez f0 f1 f2 f3 f4 f5 f6 f7 f8 f9 fa fb fc fd fe ff fg fh fi fj fk fl fm fn fo fp fq fr fs ft fu fv fw fx fy fz g0 g1 g2 g3 g4 g5 g6 g7 g8 g9 ga gb gc gd gf gg gh gi gj gk gl gm gn gp gq gr gs gu gv gw gx gy gz h0 h1 h2 h3 h4 h5 h6 h7 h8 h9 ha hc hd he hf hg hi hj hk hl hm hn ho hp hq hs ht hu hv hw hx hy hz i0 V3 HA3 B F
      have HA3 : Hid _ := HA3
      obtain ⟨p0, p1, p2, p3, p4, p5, p6, p7, p8, p9, p10, p11, p12⟩ := cells_fabric F
      go_wp2
      clear p0 p1 p2 p3 p4 p5 p6 p7 p8 p9 p10 p11 p12
      refine fabLoop4 x a1 c1 b1 d1 a2 c2 a3 c3 b3 d3 a4 c4 a5 c5 w V3 RR HH B F ?_ ?_
      rotate_left
      ·unfold Hid
       intro b0 b4 b5 b6 b7 b8 b9 ba bb bc bd be bf bg bh bi bj bl bm bn bo bp br bs bt bu bv bw bx c0 c6 c7 c8 c9 ca cb cc cd ce cf cg ch ci cj ck cl cm cn co cp cq cr ct cu cv cw cx cy cz d0 d2 d4 d5 d6 d7 d8 d9 da db dd de df dg dh di dj dk dl dm dn dp dq dr dt du dv dw dx dy dz e0 e1 e2 e3 e4 e5 e6 e7 e8 e9 ea eb ec ed ee ef eg eh ei ej ek el em en eo ep er es et eu ev ew ex ey ez f0 f1 f2 f3 f4 f5 f6 f7 f8 f9 fa fb fc fd fe ff fg fh fi fj fk fl fm fn fo fp fq fr fs ft fu fv fw fx fy fz g0 g1 g2 g3 g4 g5 g6 g7 g8 g9 ga gb gc gd gf gg gh gi gj gk gl gm gn gp gq gr gs gu gv gw gx gy gz h0 h1 h2 h3 h4 h5 h6 h7 h8 h9 ha hc hd he hf hg hi hj hk hl hm hn ho hp hq hs ht hu hv hw hx hy hz i0 V hr B
       go_wp2
       go_ret
       exact ⟨ret_bool hr.symm, B⟩
      ·unfold Hid
       clear B F
       intro b0 b2 b4 b5 b6 b7 b8 b9 ba bb bc bd be bf bg bh bi bj bl bm bn bo bp br bs bt bu bv bw bx c0 c6 c7 c8 c9 ca cb cc cd ce cf cg ch ci cj ck cl cm cn co cp cq cr ct cu cv cw cx cy cz d0 d2 d4 d5 d6 d7 d8 d9 da db dd de df dg dh di dj dk dl dm dn dp dq dr dt du dv dw dx dy dz e0 e1 e2 e3 e4 e5 e6 e7 e8 e9 ea eb ec ed ee ef eg eh ei ej ek el em en eo ep er es et eu ev ew ex ey ez f0 f1 f2 f3 f4 f5 f6 f7 f8 f9 fa fb fc fd fe ff fg fh fi fj fk fl fm fn fo fp fq fr fs ft fu fv fw fx fy fz g0 g1 g2 g3 g4 g5 g6 g7 g8 g9 ga gb gc gd gf gg gh gi gj gk gl gm gn gp gq gr gs gu gv gw gx gy gz h0 h1 h2 h3 h4 h5 h6 h7 h8 h9 ha hc hd he hf hg hi hj hk hl hm hn ho hp hq hs ht hu hv hw hx hy hz i0 V4 HA4 B F
       have HA4 : Hid _ := HA4
       obtain ⟨p0, p1, p2, p3, p4, p5, p6, p7, p8, p9, p10, p11, p12⟩ := cells_fabric F
       go_wp2
       clear p0 p1 p2 p3 p4 p5 p6 p7 p8 p9 p10 p11 p12
       refine fabLoop5 x a1 c1 b1 d1 a2 c2 a3 c3 b3 d3 a4 c4 a5 c5 w V4 RR HH B F ?_ ?_
       rotate_left
       ·unfold Hid
        intro b0 b4 b5 b6 b7 b8 b9 ba bb bc bd be bf bg bh bi bj bl bm bn bo bp br bs bt bu bv bw bx c0 c6 c7 c8 c9 ca cb cc cd ce cf cg ch ci cj ck cl cm cn co cp cq cr ct cu cv cw cx cy cz d0 d2 d4 d5 d6 d7 d8 d9 da db dd de df dg dh di dj dk dl dm dn dp dq dr dt du dv dw dx dy dz e0 e1 e2 e3 e4 e5 e6 e7 e8 e9 ea eb ec ed ee ef eg eh ei ej ek el em en eo ep er es et eu ev ew ex ey ez f0 f1 f2 f3 f4 f5 f6 f7 f8 f9 fa fb fc fd fe ff fg fh fi fj fk fl fm fn fo fp fq fr fs ft fu fv fw fx fy fz g0 g1 g2 g3 g4 g5 g6 g7 g8 g9 ga gb gc gd gf gg gh gi gj gk gl gm gn gp gq gr gs gu gv gw gx gy gz h0 h1 h2 h3 h4 h5 h6 h7 h8 h9 ha hc hd he hf hg hi hj hk hl hm hn ho hp hq hs ht hu hv hw hx hy hz i0 V hr B
        go_wp2
        go_ret
        exact ⟨ret_bool hr.symm, B⟩
       ·unfold Hid
        clear B F
        intro b0 b2 b4 b5 b6 b7 b8 b9 ba bb bc bd be bf bg bh bi bj bl bm bn bo bp br bs bt bu bv bw bx c0 c6 c7 c8 c9 ca cb cc cd ce cf cg ch ci cj ck cl cm cn co cp cq cr ct cu cv cw cx cy cz d0 d2 d4 d5 d6 d7 d8 d9 da db dd de df dg dh di dj dk dl dm dn dp dq dr dt du dv dw dx dy dz e0 e1 e2 e3 e4 e5 e6 e7 e8 e9 ea eb ec ed ee ef eg eh ei ej ek el em en eo ep er es et eu ev ew ex ey ez f0 f1 f2 f3 f4 f5 f6 f7 f8 f9 fa fb fc fd fe ff fg fh fi fj fk fl fm fn fo fp fq fr fs ft fu fv fw fx fy fz g0 g1 g2 g3 g4 g5 g6 g7 g8 g9 ga gb gc gd gf gg gh gi gj gk gl gm gn gp gq gr gs gu gv gw gx gy gz h0 h1 h2 h3 h4 h5 h6 h7 h8 h9 ha hc hd he hf hg hi hj hk hl hm hn ho hp hq hs ht hu hv hw hx hy hz i0 V5 HA5 B F
        have HA5 : Hid _ := HA5
        have HR : Hid (fabS x = true) := by unfold Hid fabS; rw [HH.out, HA1.out, HA2.out, HA3.out, HA4.out, HA5.out]; rfl
        clear HA1 HA2 HA3 HA4 HA5 HH RR F
        go_wp2
        go_ret
        exact ⟨ret_bool HR.out.symm, B⟩
end Go.Proofs.YtiiipclglngdhaaGreatDoor
