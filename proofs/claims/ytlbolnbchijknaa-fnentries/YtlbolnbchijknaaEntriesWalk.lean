/- The law FnEntries returns true at every code of at most 4096 bytes, and nothing that was there turns. -/
import Derived.Test.YtlbolnbchijknaaDrawEnt
import Derived.Test.YtlbolnbchijknaaEntFacts
import Derived.Test.YtlbolnbchijknaaLikeEnt
import Derived.Test.YtlbolnbchijknaaForgot2
import Derived.Test.YtlbolnbchijknaaHolders
import Derived.Deep.QuietTactic
import Derived.Deep.Cut
import Derived.Deep.RegionHeld3
namespace Go.Proofs.Ytlbolnbchijknaa
open Go.ChangeShapes Go.WideShapes Go.ChangeAt Go.RowKit
set_option linter.unusedVariables false

set_option maxHeartbeats 16000000 in
set_option maxRecDepth 100000 in
theorem entries_law (a : Option Addr) (len cap : Nat) (zs : List Int) (w : World) (hr : Row8 w a len zs) (hs : len ≤ 4096) :
    Calls Try.prog 3 #[.slice a len cap] w fun e w' => e = .returned (.bool true) ∧ Below w.heap.size w w' := by
  have hbig : decide ((4096 : Int) < len) = false := by simp; omega
  have b0 := Below.refl w.heap.size w
  go_enter Try.func3, Try.ntmps3
  go_wp2_with fail
  refine (big_any _ _ _ _).mono ?_
  rintro e w0 ⟨rfl, hw⟩
  rw [hw]
  clear hw w0
  rw [hbig]
  clear hbig
  go_wp2_with fail
  refine (drawForgot_any _ _ _ zs _ hr).mono ?_
  rintro e u1w ⟨f0, f1, f2, f3, f4, f5, f6, d, ae, ce, c, rfl, hdl, HI, hc, RD, bq⟩
  replace b0 := below_step b0 bq
  clear bq hr
  have hpl := for_small (f0, f1, f2, f3, f4, f5, f6, d) c
  have hok := @for_ok (f0, f1, f2, f3, f4, f5, f6, d) c
  have hbad : entB (f0, f1, f2, f3, f4, f5, f6, d) = false → forD (f0, f1, f2, f3, f4, f5, f6, d) c = zeroE := fun h => by unfold forD; rw [h]; rfl
  have hgood : entB (f0, f1, f2, f3, f4, f5, f6, d) = true → forD (f0, f1, f2, f3, f4, f5, f6, d) c = (fgO f0 c, fgS f1 c, f2, f3, f4, f5, f6, d) := fun h => by unfold forD; rw [h]; rfl
  have hwho : entB (f0, f1, f2, f3, f4, f5, f6, d) = true → whoB f0 f1 = true := fun h => who_of h
  generalize hX : forD (f0, f1, f2, f3, f4, f5, f6, d) c = X at hpl hok hbad hgood
  obtain ⟨p0, p1, p2, p3, p4, p5, p6, pd⟩ := X
  simp only at hpl
  have KFi : Hid (∀ W, SlRd intR W ae d → Calls Try.prog 10 #[.agg #[.int .i64 f0, .int .i64 f1, .bool f2, .int .i64 f3, .int .i64 f4, .int .i64 f5, .int .i64 f6, .slice ae d.length ce], .int .i64 c] W fun e w' => ∃ a q, e = .returned (.agg #[.int .i64 p0, .int .i64 p1, .bool p2, .int .i64 p3, .int .i64 p4, .int .i64 p5, .int .i64 p6, .slice a pd.length q]) ∧ MadeR entR W w' [.int .i64 p0, .int .i64 p1, .bool p2, .int .i64 p3, .int .i64 p4, .int .i64 p5, .int .i64 p6, .slice a pd.length q] (p0, p1, p2, p3, p4, p5, p6, pd)) := fun W h => by have := implForgot_any f0 f1 f3 f4 f5 f6 f2 d ae ce c W HI.1 HI.2.1 HI.2.2.1 HI.2.2.2.1 HI.2.2.2.2.1 HI.2.2.2.2.2 h (by omega); rw [hX] at this; exact this
  have KFs : Hid (∀ W, SlRd intR W ae d → Calls Try.prog 13 #[.agg #[.int .i64 f0, .int .i64 f1, .bool f2, .int .i64 f3, .int .i64 f4, .int .i64 f5, .int .i64 f6, .slice ae d.length ce], .int .i64 c] W fun e w' => ∃ a q, e = .returned (.agg #[.int .i64 p0, .int .i64 p1, .bool p2, .int .i64 p3, .int .i64 p4, .int .i64 p5, .int .i64 p6, .slice a pd.length q]) ∧ MadeR entR W w' [.int .i64 p0, .int .i64 p1, .bool p2, .int .i64 p3, .int .i64 p4, .int .i64 p5, .int .i64 p6, .slice a pd.length q] (p0, p1, p2, p3, p4, p5, p6, pd)) := fun W h => by have := specForgot_any f0 f1 f3 f4 f5 f6 f2 d ae ce c W HI.1 HI.2.1 HI.2.2.1 HI.2.2.2.1 HI.2.2.2.2.1 HI.2.2.2.2.2 h (by omega); rw [hX] at this; exact this
  obtain ⟨hl, hi⟩ := hold_small (f0, f1, f2, f3, f4, f5, f6, d)
  have hris : Hid ((if entB (f0, f1, f2, f3, f4, f5, f6, d) then hoI f0 f1 else []).Pairwise (· < ·)) := by unfold Hid; split; exact ho_rises; exact List.Pairwise.nil
  simp only at hl hi
  generalize hL : (if entB (f0, f1, f2, f3, f4, f5, f6, d) then hoI f0 f1 else []) = L at hl hi hris
  have KHi : Hid (∀ W, SlRd intR W ae d → Calls Try.prog 11 #[.agg #[.int .i64 f0, .int .i64 f1, .bool f2, .int .i64 f3, .int .i64 f4, .int .i64 f5, .int .i64 f6, .slice ae d.length ce]] W fun e w' => ∃ v, e = .returned v ∧ MadeR intsR W w' [v] L) := fun W h => (implHolders_any f0 f1 f3 f4 f5 f6 f2 d ae ce W h).mono fun e w' ⟨v, h1, h2⟩ => ⟨v, h1, by rw [hL] at h2; exact madeR_ints h2 hi.out⟩
  have KHs : Hid (∀ W, SlRd intR W ae d → Calls Try.prog 15 #[.agg #[.int .i64 f0, .int .i64 f1, .bool f2, .int .i64 f3, .int .i64 f4, .int .i64 f5, .int .i64 f6, .slice ae d.length ce]] W fun e w' => ∃ v, e = .returned v ∧ MadeR intsR W w' [v] L) := fun W h => (specHolders_any f0 f1 f3 f4 f5 f6 f2 d ae ce W h).mono fun e w' ⟨v, h1, h2⟩ => ⟨v, h1, by rw [hL] at h2; exact madeR_ints h2 hi.out⟩
  obtain ⟨Q, hQ⟩ : ∃ Q, entB (f0, f1, f2, f3, f4, f5, f6, d) = Q := ⟨_, rfl⟩
  have KOi : Hid (∀ W, SlRd intR W ae d → Calls Try.prog 16 #[.agg #[.int .i64 f0, .int .i64 f1, .bool f2, .int .i64 f3, .int .i64 f4, .int .i64 f5, .int .i64 f6, .slice ae d.length ce]] W fun e w' => e = .returned (.bool Q) ∧ Below W.heap.size W w') := fun W h => by have := implEntryOk_any f0 f1 f3 f4 f5 f6 f2 d ae ce W h; rwa [hQ] at this
  have KOs : Hid (∀ W, SlRd intR W ae d → Calls Try.prog 17 #[.agg #[.int .i64 f0, .int .i64 f1, .bool f2, .int .i64 f3, .int .i64 f4, .int .i64 f5, .int .i64 f6, .slice ae d.length ce]] W fun e w' => e = .returned (.bool Q) ∧ Below W.heap.size W w') := fun W h => by have := specEntryOk_any f0 f1 f3 f4 f5 f6 f2 d ae ce W h; rwa [hQ] at this
  rw [hQ] at hok hbad hgood hwho hL
  have HFx : Hid (_ ∧ _ ∧ _ ∧ _ ∧ _) := ⟨hok, hbad, hgood, hwho, hL⟩
  clear hX hQ hi hok hbad hgood hwho hL HI hc
  go_upto_region 4 with fail
  have ZC := heap_at u1w (.cells #[.int .i64 f0, .int .i64 f1, .bool f2, .int .i64 f3, .int .i64 f4, .int .i64 f5, .int .i64 f6, .slice ae d.length ce] 26)
  have bz := box_below u1w (.cells #[.int .i64 f0, .int .i64 f1, .bool f2, .int .i64 f3, .int .i64 f4, .int .i64 f5, .int .i64 f6, .slice ae d.length ce] 26)
  replace b0 := below_step b0 bz
  replace RD := slrd_next RD bz
  clear bz
  generalize u1w.alloc (.cells #[.int .i64 f0, .int .i64 f1, .bool f2, .int .i64 f3, .int .i64 f4, .int .i64 f5, .int .i64 f6, .slice ae d.length ce] 26) = u2w at b0 ZC RD ⊢
  obtain ⟨ZCc0, ZCc1, ZCc2, ZCc3, ZCc4, ZCc5, ZCc6, ZCc7⟩ := cells_8 ZC
  have ZClt := (Array.getElem?_eq_some_iff.1 ZC).1
  go_wp2_with fail
  clear ZCc0 ZCc1 ZCc2 ZCc3 ZCc4 ZCc5 ZCc6 ZCc7 ZClt
  refine (KFi.out _ RD).mono ?_
  rintro e u3w ⟨ax, cx, rfl, mm⟩
  have bq := mm.2
  replace b0 := below_step b0 bq
  replace ZC := row_keep bq ZC
  replace RD := slrd_next RD bq
  have RX := owned_entd (owned_made mm)
  clear mm bq KFi
  go_upto_region 5 with fail
  have ZX := heap_at u3w (.cells #[.int .i64 p0, .int .i64 p1, .bool p2, .int .i64 p3, .int .i64 p4, .int .i64 p5, .int .i64 p6, .slice ax pd.length cx] 26)
  have bz := box_below u3w (.cells #[.int .i64 p0, .int .i64 p1, .bool p2, .int .i64 p3, .int .i64 p4, .int .i64 p5, .int .i64 p6, .slice ax pd.length cx] 26)
  replace b0 := below_step b0 bz
  replace ZC := row_keep bz ZC
  replace RD := slrd_next RD bz
  replace RX := slrd_next RX bz
  clear bz
  generalize u3w.alloc (.cells #[.int .i64 p0, .int .i64 p1, .bool p2, .int .i64 p3, .int .i64 p4, .int .i64 p5, .int .i64 p6, .slice ax pd.length cx] 26) = u4w at b0 ZC ZX RD RX ⊢
  obtain ⟨ZCc0, ZCc1, ZCc2, ZCc3, ZCc4, ZCc5, ZCc6, ZCc7⟩ := cells_8 ZC
  have ZClt := (Array.getElem?_eq_some_iff.1 ZC).1
  go_wp2_with fail
  clear ZCc0 ZCc1 ZCc2 ZCc3 ZCc4 ZCc5 ZCc6 ZCc7 ZClt
  refine (KHi.out _ RD).mono ?_
  rintro e u5w ⟨v, rfl, mm⟩
  have bq := mm.2
  replace b0 := below_step b0 bq
  replace ZC := row_keep bq ZC
  replace ZX := row_keep bq ZX
  replace RD := slrd_next RD bq
  replace RX := slrd_next RX bq
  obtain ⟨ah, ch, rfl⟩ := slown_val mm.1
  have RH := owned_ints (owned_made mm)
  clear mm bq KHi
  go_upto_region 6 with fail
  go_cut [46] from 22 to 46 (fun t wx => t = .bool false ∧ Below u5w.heap.size u5w wx)
  case first =>
    have B1 : Below u5w.heap.size u5w u5w.drew := (Below.refl _ _).drew
    have HA : Hid _ := ZC
    have HZ : Hid _ := ZX
    have HD : Hid _ := RD
    have HXr : Hid _ := RX
    have HHr : Hid _ := RH
    clear b0 ZC ZX RD RX RH HFx
    obtain ⟨Ac0, Ac1, Ac2, Ac3, Ac4, Ac5, Ac6, Ac7⟩ := cells_8 (row_keep B1 HA.out)
    obtain ⟨Zc0, Zc1, Zc2, Zc3, Zc4, Zc5, Zc6, Zc7⟩ := cells_8 (row_keep B1 HZ.out)
    cases Q
    · go_region_held3 (fun wx => wx.cell? ⟨u1w.heap.size, 0, none⟩ = some (.int .i64 f0) ∧ wx.cell? ⟨u1w.heap.size, 1, none⟩ = some (.int .i64 f1) ∧ wx.cell? ⟨u1w.heap.size, 2, none⟩ = some (.bool f2) ∧ wx.cell? ⟨u1w.heap.size, 3, none⟩ = some (.int .i64 f3) ∧ wx.cell? ⟨u1w.heap.size, 4, none⟩ = some (.int .i64 f4) ∧ wx.cell? ⟨u1w.heap.size, 5, none⟩ = some (.int .i64 f5) ∧ wx.cell? ⟨u1w.heap.size, 6, none⟩ = some (.int .i64 f6) ∧ wx.cell? ⟨u1w.heap.size, 7, none⟩ = some (.slice ae d.length ce) ∧ wx.cell? ⟨u3w.heap.size, 0, none⟩ = some (.int .i64 p0) ∧ wx.cell? ⟨u3w.heap.size, 1, none⟩ = some (.int .i64 p1) ∧ wx.cell? ⟨u3w.heap.size, 2, none⟩ = some (.bool p2) ∧ wx.cell? ⟨u3w.heap.size, 3, none⟩ = some (.int .i64 p3) ∧ wx.cell? ⟨u3w.heap.size, 4, none⟩ = some (.int .i64 p4) ∧ wx.cell? ⟨u3w.heap.size, 5, none⟩ = some (.int .i64 p5) ∧ wx.cell? ⟨u3w.heap.size, 6, none⟩ = some (.int .i64 p6) ∧ wx.cell? ⟨u3w.heap.size, 7, none⟩ = some (.slice ax pd.length cx)) (first | (go_keep; done) | (exact ⟨Ac0, Ac1, Ac2, Ac3, Ac4, Ac5, Ac6, Ac7, Zc0, Zc1, Zc2, Zc3, Zc4, Zc5, Zc6, Zc7⟩)) (first | (go_at_call 13; refine (KFs.out _ (slrd_next HD.out B1)).mono ?_; rintro e wa ⟨ay, cy, rfl, mm⟩; have HY : Hid (SlRd intR wa ay pd) := owned_entd (owned_made mm); have bm := mm.2; clear mm; replace B1 : Below u5w.heap.size u5w wa := below_step B1 bm; clear bm Ac0 Zc0 Ac1 Zc1 Ac2 Zc2 Ac3 Zc3 Ac4 Zc4 Ac5 Zc5 Ac6 Zc6 Ac7 Zc7; obtain ⟨Ac0, Ac1, Ac2, Ac3, Ac4, Ac5, Ac6, Ac7⟩ := cells_8 (row_keep B1 HA.out); obtain ⟨Zc0, Zc1, Zc2, Zc3, Zc4, Zc5, Zc6, Zc7⟩ := cells_8 (row_keep B1 HZ.out)) | (go_at_call 12; refine (likeEntry_rep p0 p1 p3 p4 p5 p6 p2 pd ax ay cx cy _ (slrd_next HXr.out B1) HY.out (by rw [bk_ints7]; omega)).mono ?_; rintro e wb ⟨rfl, bm⟩; replace B1 : Below u5w.heap.size u5w wb := below_step B1 bm; clear bm Ac0 Zc0 Ac1 Zc1 Ac2 Zc2 Ac3 Zc3 Ac4 Zc4 Ac5 Zc5 Ac6 Zc6 Ac7 Zc7; obtain ⟨Ac0, Ac1, Ac2, Ac3, Ac4, Ac5, Ac6, Ac7⟩ := cells_8 (row_keep B1 HA.out); obtain ⟨Zc0, Zc1, Zc2, Zc3, Zc4, Zc5, Zc6, Zc7⟩ := cells_8 (row_keep B1 HZ.out)) | (go_at_call 15; refine (KHs.out _ (slrd_next HD.out B1)).mono ?_; rintro e wd ⟨v2, rfl, mm⟩; obtain ⟨ag, cg, rfl⟩ := slown_val mm.1; have HG : Hid (SlRd intR wd ag L) := owned_ints (owned_made mm); have bm2 := mm.2; clear mm; replace B1 : Below u5w.heap.size u5w wd := below_step B1 bm2; clear bm2 Ac0 Zc0 Ac1 Zc1 Ac2 Zc2 Ac3 Zc3 Ac4 Zc4 Ac5 Zc5 Ac6 Zc6 Ac7 Zc7; obtain ⟨Ac0, Ac1, Ac2, Ac3, Ac4, Ac5, Ac6, Ac7⟩ := cells_8 (row_keep B1 HA.out); obtain ⟨Zc0, Zc1, Zc2, Zc3, Zc4, Zc5, Zc6, Zc7⟩ := cells_8 (row_keep B1 HZ.out)) | (go_at_call 14; refine (likeInts_any ah ag L ch cg _ (reads_of (slrd_next HHr.out B1)) (reads_of HG.out) (by omega)).mono ?_; rintro e we ⟨rfl, nq, hq⟩; replace B1 : Below u5w.heap.size u5w we := (by rw [hq]; exact be_drewN B1 nq); clear hq Ac0 Zc0 Ac1 Zc1 Ac2 Zc2 Ac3 Zc3 Ac4 Zc4 Ac5 Zc5 Ac6 Zc6 Ac7 Zc7; obtain ⟨Ac0, Ac1, Ac2, Ac3, Ac4, Ac5, Ac6, Ac7⟩ := cells_8 (row_keep B1 HA.out); obtain ⟨Zc0, Zc1, Zc2, Zc3, Zc4, Zc5, Zc6, Zc7⟩ := cells_8 (row_keep B1 HZ.out)) | (go_at_call 16; refine (KOi.out _ (slrd_next HD.out B1)).mono ?_; rintro e wf ⟨rfl, bm3⟩; replace B1 : Below u5w.heap.size u5w wf := below_step B1 bm3; clear bm3 Ac0 Zc0 Ac1 Zc1 Ac2 Zc2 Ac3 Zc3 Ac4 Zc4 Ac5 Zc5 Ac6 Zc6 Ac7 Zc7; obtain ⟨Ac0, Ac1, Ac2, Ac3, Ac4, Ac5, Ac6, Ac7⟩ := cells_8 (row_keep B1 HA.out); obtain ⟨Zc0, Zc1, Zc2, Zc3, Zc4, Zc5, Zc6, Zc7⟩ := cells_8 (row_keep B1 HZ.out)) | (go_at_call 17; refine (KOs.out _ (slrd_next HD.out B1)).mono ?_; rintro e wg ⟨rfl, bm4⟩; replace B1 : Below u5w.heap.size u5w wg := below_step B1 bm4; clear bm4 Ac0 Zc0 Ac1 Zc1 Ac2 Zc2 Ac3 Zc3 Ac4 Zc4 Ac5 Zc5 Ac6 Zc6 Ac7 Zc7; obtain ⟨Ac0, Ac1, Ac2, Ac3, Ac4, Ac5, Ac6, Ac7⟩ := cells_8 (row_keep B1 HA.out); obtain ⟨Zc0, Zc1, Zc2, Zc3, Zc4, Zc5, Zc6, Zc7⟩ := cells_8 (row_keep B1 HZ.out)) | (go_at_call 18; refine (rises_any ah L ch _ (reads_of (slrd_next HHr.out B1)) hris.out (by omega)).mono ?_; rintro e wh ⟨rfl, nr, hq2⟩; replace B1 : Below u5w.heap.size u5w wh := (by rw [hq2]; exact be_drewN B1 nr); clear hq2 Ac0 Zc0 Ac1 Zc1 Ac2 Zc2 Ac3 Zc3 Ac4 Zc4 Ac5 Zc5 Ac6 Zc6 Ac7 Zc7; obtain ⟨Ac0, Ac1, Ac2, Ac3, Ac4, Ac5, Ac6, Ac7⟩ := cells_8 (row_keep B1 HA.out); obtain ⟨Zc0, Zc1, Zc2, Zc3, Zc4, Zc5, Zc6, Zc7⟩ := cells_8 (row_keep B1 HZ.out)))
      all_goals go_wp2_with fail
      all_goals go_meet
      all_goals exact ⟨rfl, B1⟩
    · go_region_held3 (fun wx => wx.cell? ⟨u1w.heap.size, 0, none⟩ = some (.int .i64 f0) ∧ wx.cell? ⟨u1w.heap.size, 1, none⟩ = some (.int .i64 f1) ∧ wx.cell? ⟨u1w.heap.size, 2, none⟩ = some (.bool f2) ∧ wx.cell? ⟨u1w.heap.size, 3, none⟩ = some (.int .i64 f3) ∧ wx.cell? ⟨u1w.heap.size, 4, none⟩ = some (.int .i64 f4) ∧ wx.cell? ⟨u1w.heap.size, 5, none⟩ = some (.int .i64 f5) ∧ wx.cell? ⟨u1w.heap.size, 6, none⟩ = some (.int .i64 f6) ∧ wx.cell? ⟨u1w.heap.size, 7, none⟩ = some (.slice ae d.length ce) ∧ wx.cell? ⟨u3w.heap.size, 0, none⟩ = some (.int .i64 p0) ∧ wx.cell? ⟨u3w.heap.size, 1, none⟩ = some (.int .i64 p1) ∧ wx.cell? ⟨u3w.heap.size, 2, none⟩ = some (.bool p2) ∧ wx.cell? ⟨u3w.heap.size, 3, none⟩ = some (.int .i64 p3) ∧ wx.cell? ⟨u3w.heap.size, 4, none⟩ = some (.int .i64 p4) ∧ wx.cell? ⟨u3w.heap.size, 5, none⟩ = some (.int .i64 p5) ∧ wx.cell? ⟨u3w.heap.size, 6, none⟩ = some (.int .i64 p6) ∧ wx.cell? ⟨u3w.heap.size, 7, none⟩ = some (.slice ax pd.length cx)) (first | (go_keep; done) | (exact ⟨Ac0, Ac1, Ac2, Ac3, Ac4, Ac5, Ac6, Ac7, Zc0, Zc1, Zc2, Zc3, Zc4, Zc5, Zc6, Zc7⟩)) (first | (go_at_call 13; refine (KFs.out _ (slrd_next HD.out B1)).mono ?_; rintro e wa ⟨ay, cy, rfl, mm⟩; have HY : Hid (SlRd intR wa ay pd) := owned_entd (owned_made mm); have bm := mm.2; clear mm; replace B1 : Below u5w.heap.size u5w wa := below_step B1 bm; clear bm Ac0 Zc0 Ac1 Zc1 Ac2 Zc2 Ac3 Zc3 Ac4 Zc4 Ac5 Zc5 Ac6 Zc6 Ac7 Zc7; obtain ⟨Ac0, Ac1, Ac2, Ac3, Ac4, Ac5, Ac6, Ac7⟩ := cells_8 (row_keep B1 HA.out); obtain ⟨Zc0, Zc1, Zc2, Zc3, Zc4, Zc5, Zc6, Zc7⟩ := cells_8 (row_keep B1 HZ.out)) | (go_at_call 12; refine (likeEntry_rep p0 p1 p3 p4 p5 p6 p2 pd ax ay cx cy _ (slrd_next HXr.out B1) HY.out (by rw [bk_ints7]; omega)).mono ?_; rintro e wb ⟨rfl, bm⟩; replace B1 : Below u5w.heap.size u5w wb := below_step B1 bm; clear bm Ac0 Zc0 Ac1 Zc1 Ac2 Zc2 Ac3 Zc3 Ac4 Zc4 Ac5 Zc5 Ac6 Zc6 Ac7 Zc7; obtain ⟨Ac0, Ac1, Ac2, Ac3, Ac4, Ac5, Ac6, Ac7⟩ := cells_8 (row_keep B1 HA.out); obtain ⟨Zc0, Zc1, Zc2, Zc3, Zc4, Zc5, Zc6, Zc7⟩ := cells_8 (row_keep B1 HZ.out)) | (go_at_call 15; refine (KHs.out _ (slrd_next HD.out B1)).mono ?_; rintro e wd ⟨v2, rfl, mm⟩; obtain ⟨ag, cg, rfl⟩ := slown_val mm.1; have HG : Hid (SlRd intR wd ag L) := owned_ints (owned_made mm); have bm2 := mm.2; clear mm; replace B1 : Below u5w.heap.size u5w wd := below_step B1 bm2; clear bm2 Ac0 Zc0 Ac1 Zc1 Ac2 Zc2 Ac3 Zc3 Ac4 Zc4 Ac5 Zc5 Ac6 Zc6 Ac7 Zc7; obtain ⟨Ac0, Ac1, Ac2, Ac3, Ac4, Ac5, Ac6, Ac7⟩ := cells_8 (row_keep B1 HA.out); obtain ⟨Zc0, Zc1, Zc2, Zc3, Zc4, Zc5, Zc6, Zc7⟩ := cells_8 (row_keep B1 HZ.out)) | (go_at_call 14; refine (likeInts_any ah ag L ch cg _ (reads_of (slrd_next HHr.out B1)) (reads_of HG.out) (by omega)).mono ?_; rintro e we ⟨rfl, nq, hq⟩; replace B1 : Below u5w.heap.size u5w we := (by rw [hq]; exact be_drewN B1 nq); clear hq Ac0 Zc0 Ac1 Zc1 Ac2 Zc2 Ac3 Zc3 Ac4 Zc4 Ac5 Zc5 Ac6 Zc6 Ac7 Zc7; obtain ⟨Ac0, Ac1, Ac2, Ac3, Ac4, Ac5, Ac6, Ac7⟩ := cells_8 (row_keep B1 HA.out); obtain ⟨Zc0, Zc1, Zc2, Zc3, Zc4, Zc5, Zc6, Zc7⟩ := cells_8 (row_keep B1 HZ.out)) | (go_at_call 16; refine (KOi.out _ (slrd_next HD.out B1)).mono ?_; rintro e wf ⟨rfl, bm3⟩; replace B1 : Below u5w.heap.size u5w wf := below_step B1 bm3; clear bm3 Ac0 Zc0 Ac1 Zc1 Ac2 Zc2 Ac3 Zc3 Ac4 Zc4 Ac5 Zc5 Ac6 Zc6 Ac7 Zc7; obtain ⟨Ac0, Ac1, Ac2, Ac3, Ac4, Ac5, Ac6, Ac7⟩ := cells_8 (row_keep B1 HA.out); obtain ⟨Zc0, Zc1, Zc2, Zc3, Zc4, Zc5, Zc6, Zc7⟩ := cells_8 (row_keep B1 HZ.out)) | (go_at_call 17; refine (KOs.out _ (slrd_next HD.out B1)).mono ?_; rintro e wg ⟨rfl, bm4⟩; replace B1 : Below u5w.heap.size u5w wg := below_step B1 bm4; clear bm4 Ac0 Zc0 Ac1 Zc1 Ac2 Zc2 Ac3 Zc3 Ac4 Zc4 Ac5 Zc5 Ac6 Zc6 Ac7 Zc7; obtain ⟨Ac0, Ac1, Ac2, Ac3, Ac4, Ac5, Ac6, Ac7⟩ := cells_8 (row_keep B1 HA.out); obtain ⟨Zc0, Zc1, Zc2, Zc3, Zc4, Zc5, Zc6, Zc7⟩ := cells_8 (row_keep B1 HZ.out)) | (go_at_call 18; refine (rises_any ah L ch _ (reads_of (slrd_next HHr.out B1)) hris.out (by omega)).mono ?_; rintro e wh ⟨rfl, nr, hq2⟩; replace B1 : Below u5w.heap.size u5w wh := (by rw [hq2]; exact be_drewN B1 nr); clear hq2 Ac0 Zc0 Ac1 Zc1 Ac2 Zc2 Ac3 Zc3 Ac4 Zc4 Ac5 Zc5 Ac6 Zc6 Ac7 Zc7; obtain ⟨Ac0, Ac1, Ac2, Ac3, Ac4, Ac5, Ac6, Ac7⟩ := cells_8 (row_keep B1 HA.out); obtain ⟨Zc0, Zc1, Zc2, Zc3, Zc4, Zc5, Zc6, Zc7⟩ := cells_8 (row_keep B1 HZ.out)))
      all_goals go_wp2_with fail
      all_goals go_meet
      all_goals exact ⟨rfl, B1⟩
  case rest =>
    obtain ⟨rfl, bq⟩ := hcut
    obtain ⟨u6w, hwn⟩ : ∃ x, x = wc := ⟨_, rfl⟩
    subst hwn
    replace b0 := below_step b0 bq
    replace ZC := row_keep bq ZC
    replace ZX := row_keep bq ZX
    replace RD := slrd_next RD bq
    replace RX := slrd_next RX bq
    replace RH := slrd_next RH bq
    clear bq
    clear KFs KHs KOi hris
    obtain ⟨ZCc0, ZCc1, ZCc2, ZCc3, ZCc4, ZCc5, ZCc6, ZCc7⟩ := cells_8 ZC
    have ZClt := (Array.getElem?_eq_some_iff.1 ZC).1
    obtain ⟨ZXc0, ZXc1, ZXc2, ZXc3, ZXc4, ZXc5, ZXc6, ZXc7⟩ := cells_8 ZX
    have ZXlt := (Array.getElem?_eq_some_iff.1 ZX).1
    go_wp2_with fail
    clear ZCc0 ZCc1 ZCc2 ZCc3 ZCc4 ZCc5 ZCc6 ZCc7 ZClt ZXc0 ZXc1 ZXc2 ZXc3 ZXc4 ZXc5 ZXc6 ZXc7 ZXlt
    refine (KOs.out _ RD).mono ?_
    rintro e u7w ⟨rfl, bq⟩
    replace b0 := below_step b0 bq
    replace ZC := row_keep bq ZC
    replace ZX := row_keep bq ZX
    replace RD := slrd_next RD bq
    replace RX := slrd_next RX bq
    replace RH := slrd_next RH bq
    clear bq KOs
    cases Q
    · skip
      obtain ⟨-, hbad, -, -, hL⟩ := HFx.out
      have hz := hbad rfl
      unfold zeroE at hz
      simp only [Prod.mk.injEq] at hz
      obtain ⟨rfl, rfl, rfl, rfl, rfl, rfl, rfl, rfl⟩ := hz
      have hL0 : L = [] := by rw [← hL]; rfl
      subst hL0
      clear hL hbad HFx
      have KL : Hid (∀ W, Calls Try.prog 12 #[.agg #[.int .i64 0, .int .i64 0, .bool false, .int .i64 0, .int .i64 0, .int .i64 0, .int .i64 0, .slice ax 0 cx], .agg #[.int .i64 0, .int .i64 0, .bool false, .int .i64 0, .int .i64 0, .int .i64 0, .int .i64 0, .slice none 0 0]] W fun e w' => e = .returned (.bool true) ∧ Below W.heap.size W w') := fun W => likeEntry_rep 0 0 0 0 0 0 false [] ax none cx 0 W (.inl rfl) (.inl rfl) (by decide)
      clear RX RH RD ZC hpl hl
      simp only [List.length_nil] at ZX ⊢
      obtain ⟨ZXc0, ZXc1, ZXc2, ZXc3, ZXc4, ZXc5, ZXc6, ZXc7⟩ := cells_8 ZX
      have ZXlt := (Array.getElem?_eq_some_iff.1 ZX).1
      go_wp2_with fail
      clear ZXc0 ZXc1 ZXc2 ZXc3 ZXc4 ZXc5 ZXc6 ZXc7 ZXlt
      refine (KL.out _).mono ?_
      rintro e u8w ⟨rfl, bq⟩
      replace b0 := below_step b0 bq
      replace ZX := row_keep bq ZX
      clear ZX
      go_wp2
      go_ret
      exact ⟨rfl, b0⟩
    · skip
      obtain ⟨hok, -, hgood, hwho, hL⟩ := HFx.out
      have hz := hgood rfl
      simp only [Prod.mk.injEq] at hz
      obtain ⟨hz0, hz1, -⟩ := hz
      have hw := hwho rfl
      have hxok := hok rfl
      have hwp : whoB p0 p1 = true := who_of hxok
      have hL1 : hoI f0 f1 = L := by rw [← hL]; rfl
      obtain ⟨hl2, hi2⟩ := ho_small hwp
      have hi64 : ∀ x ∈ hoI p0 p1, In64 x := fun x hx => ⟨by have := hi2 x hx; omega, by have := hi2 x hx; omega⟩
      have hif : (if entB (p0, p1, p2, p3, p4, p5, p6, pd) then hoI p0 p1 else []) = hoI p0 p1 := by rw [hxok]; rfl
      have KHx : Hid (∀ W, SlRd intR W ax pd → Calls Try.prog 11 #[.agg #[.int .i64 p0, .int .i64 p1, .bool p2, .int .i64 p3, .int .i64 p4, .int .i64 p5, .int .i64 p6, .slice ax pd.length cx]] W fun e w' => ∃ v, e = .returned v ∧ MadeR intsR W w' [v] (hoI p0 p1)) := fun W h => (implHolders_any p0 p1 p3 p4 p5 p6 p2 pd ax cx W h).mono fun e w' ⟨v, h1, h2⟩ => ⟨v, h1, by rw [hif] at h2; exact madeR_ints h2 hi64⟩
      have KOx : Hid (∀ W, SlRd intR W ax pd → Calls Try.prog 16 #[.agg #[.int .i64 p0, .int .i64 p1, .bool p2, .int .i64 p3, .int .i64 p4, .int .i64 p5, .int .i64 p6, .slice ax pd.length cx]] W fun e w' => e = .returned (.bool true) ∧ Below W.heap.size W w') := fun W h => by have := implEntryOk_any p0 p1 p3 p4 p5 p6 p2 pd ax cx W h; rwa [hxok] at this
      have HR : Hid (∀ k : Nat, k < 4 → (decide ((k : Int) ∈ hoI p0 p1) = (decide ((k : Int) ∈ L) && ((k : Int) != c))) ∧ (decide ((k : Int) ∈ L) = ((f0 == (k : Int)) || inB f1 k))) := fun k hk => by rw [hz0, hz1, ← hL1]; exact ent_round hw hk
      generalize hoI p0 p1 = M at hl2 KHx HR
      clear HFx hok hgood hwho hL hz0 hz1 hw hxok hwp hL1 hi2 hi64 hif
      obtain ⟨ZCc0, ZCc1, ZCc2, ZCc3, ZCc4, ZCc5, ZCc6, ZCc7⟩ := cells_8 ZC
      have ZClt := (Array.getElem?_eq_some_iff.1 ZC).1
      obtain ⟨ZXc0, ZXc1, ZXc2, ZXc3, ZXc4, ZXc5, ZXc6, ZXc7⟩ := cells_8 ZX
      have ZXlt := (Array.getElem?_eq_some_iff.1 ZX).1
      go_wp2_with fail
      clear ZCc0 ZCc1 ZCc2 ZCc3 ZCc4 ZCc5 ZCc6 ZCc7 ZClt ZXc0 ZXc1 ZXc2 ZXc3 ZXc4 ZXc5 ZXc6 ZXc7 ZXlt
      refine (KHx.out _ RX).mono ?_
      rintro e u28w ⟨v, rfl, mm⟩
      have bq := mm.2
      replace b0 := below_step b0 bq
      replace ZC := row_keep bq ZC
      replace ZX := row_keep bq ZX
      replace RD := slrd_next RD bq
      replace RX := slrd_next RX bq
      replace RH := slrd_next RH bq
      obtain ⟨am, cm, rfl⟩ := slown_val mm.1
      have RM := owned_ints (owned_made mm)
      clear mm bq KHx
      have HK : Hid _ := And.intro b0 (And.intro ZC (And.intro ZX (And.intro RD (And.intro RX (And.intro RH RM)))))
      clear b0 ZC ZX RD RX RH RM
      go_wp2
      go_loopw [8] (fun i wr => ∃ k : Nat, k ≤ 4 ∧ i = .int .i64 k ∧ Below u28w.heap.size u28w wr) (fun i _ => 4 - (intOf i).toNat)
      case atStart => exact ⟨0, Nat.zero_le _, rfl, Below.refl _ _⟩
      case round =>
        obtain ⟨k, hk, rfl, BB⟩ := hrel
        by_cases hlt : k < 4
        · skip
          have hlt' : (k : Int) < 4 := by omega
          obtain ⟨-, ZC, -, -, -, RH, RM⟩ := HK.out
          replace ZC := row_keep BB ZC
          replace RH := slrd_next RH BB
          replace RM := slrd_next RM BB
          obtain ⟨hr1, hr2⟩ := HR.out k hlt
          have J1 : Hid (∀ q, Calls Try.prog 19 #[.slice am M.length cm, .int .i64 (k : Int)] (wr.drewN q) fun e w' => e = .returned (.bool (decide ((k : Int) ∈ M))) ∧ w' = wr.drewN q) := fun q => has_list am M cm k (wr.drewN q) (reads_of (slrd_next RM (be_drewN (Below.refl _ _) q))) (by omega)
          have J2 : Hid (∀ q, Calls Try.prog 19 #[.slice ah L.length ch, .int .i64 (k : Int)] (wr.drewN q) fun e w' => e = .returned (.bool (decide ((k : Int) ∈ L))) ∧ w' = wr.drewN q) := fun q => has_list ah L ch k (wr.drewN q) (reads_of (slrd_next RH (be_drewN (Below.refl _ _) q))) (by omega)
          have J3 : Hid (∀ q, Calls Try.prog 20 #[.int .i64 f1, .int .i64 (k : Int)] (wr.drewN q) fun e w' => e = .returned (.bool (inB f1 k)) ∧ w' = wr.drewN q) := fun q => specIn_any f1 k (wr.drewN q)
          generalize decide ((k : Int) ∈ M) = b1 at hr1 J1
          generalize decide ((k : Int) ∈ L) = b2 at hr1 hr2 J2
          generalize inB f1 (k : Int) = b3 at hr2 J3
          obtain ⟨n1, hn1⟩ : ∃ b : Bool, ((k : Int) != c) = b := ⟨_, rfl⟩
          obtain ⟨n2, hn2⟩ : ∃ b : Bool, (f0 == (k : Int)) = b := ⟨_, rfl⟩
          rw [hn1] at hr1
          rw [hn2] at hr2
          obtain ⟨Zc0, Zc1, -, -, -, -, -, -⟩ := cells_8 ZC
          clear RH RM ZC HK
          subst hr2
          subst hr1
          cases n2 <;> cases b3 <;> cases n1
          all_goals
            simp only [Bool.or_true, Bool.or_false, Bool.and_true, Bool.and_false, Bool.or_self, Bool.and_self] at J1 J2 J3
            go_wp2_with fail
            go_quiet (first | (go_at_call_of 19 am; exact Calls.quiet_of_same (J1.out _)) | (go_at_call_of 19 ah; exact Calls.quiet_of_same (J2.out _)) | (go_at_call 20; exact Calls.quiet_of_same (J3.out _)))
            go_wp2
            go_roundw
            case rel => exact ⟨k + 1, by omega, by go_num, be_drewN BB _⟩
            case measure => simp [intOf]; omega
        · skip
          have hk4 : k = 4 := by omega
          subst hk4
          obtain ⟨b0, -, ZX, -, RX, -, -⟩ := HK.out
          replace b0 := below_step b0 BB
          replace ZX := row_keep BB ZX
          replace RX := slrd_next RX BB
          clear HK HR BB hlt
          obtain ⟨ZXc0, ZXc1, ZXc2, ZXc3, ZXc4, ZXc5, ZXc6, ZXc7⟩ := cells_8 ZX
          have ZXlt := (Array.getElem?_eq_some_iff.1 ZX).1
          go_wp2_with fail
          clear ZXc0 ZXc1 ZXc2 ZXc3 ZXc4 ZXc5 ZXc6 ZXc7 ZXlt
          refine (implNewEntry_any _).mono ?_
          rintro e u29w ⟨rfl, bq⟩
          replace b0 := below_step b0 bq
          replace ZX := row_keep bq ZX
          replace RX := slrd_next RX bq
          clear bq
          go_upto_region 17 with fail
          have ZN := heap_at u29w (.cells #[.int .i64 (-1), .int .i64 0, .bool false, .int .i64 0, .int .i64 0, .int .i64 0, .int .i64 0, .slice none 0 0] 26)
          have bz := box_below u29w (.cells #[.int .i64 (-1), .int .i64 0, .bool false, .int .i64 0, .int .i64 0, .int .i64 0, .int .i64 0, .slice none 0 0] 26)
          replace b0 := below_step b0 bz
          replace ZX := row_keep bz ZX
          replace RX := slrd_next RX bz
          clear bz
          generalize u29w.alloc (.cells #[.int .i64 (-1), .int .i64 0, .bool false, .int .i64 0, .int .i64 0, .int .i64 0, .int .i64 0, .slice none 0 0] 26) = u30w at b0 ZX ZN RX ⊢
          obtain ⟨ZXc0, ZXc1, ZXc2, ZXc3, ZXc4, ZXc5, ZXc6, ZXc7⟩ := cells_8 ZX
          have ZXlt := (Array.getElem?_eq_some_iff.1 ZX).1
          obtain ⟨ZNc0, ZNc1, ZNc2, ZNc3, ZNc4, ZNc5, ZNc6, ZNc7⟩ := cells_8 ZN
          have ZNlt := (Array.getElem?_eq_some_iff.1 ZN).1
          go_wp2_with fail
          clear ZXc0 ZXc1 ZXc2 ZXc3 ZXc4 ZXc5 ZXc6 ZXc7 ZXlt ZNc0 ZNc1 ZNc2 ZNc3 ZNc4 ZNc5 ZNc6 ZNc7 ZNlt
          refine (KOx.out _ RX).mono ?_
          rintro e u31w ⟨rfl, bq⟩
          replace b0 := below_step b0 bq
          replace ZX := row_keep bq ZX
          replace ZN := row_keep bq ZN
          replace RX := slrd_next RX bq
          clear bq KOx
          have KN : Hid (∀ W, Calls Try.prog 16 #[.agg #[.int .i64 (-1), .int .i64 0, .bool false, .int .i64 0, .int .i64 0, .int .i64 0, .int .i64 0, .slice none 0 0]] W fun e w' => e = .returned (.bool true) ∧ Below W.heap.size W w') := fun W => by have := implEntryOk_any (-1) 0 0 0 0 0 false [] none 0 W (.inl rfl); rwa [show entB ((-1), 0, false, 0, 0, 0, 0, []) = true from new_ok_ent] at this
          have KM : Hid (∀ W, Calls Try.prog 11 #[.agg #[.int .i64 (-1), .int .i64 0, .bool false, .int .i64 0, .int .i64 0, .int .i64 0, .int .i64 0, .slice none 0 0]] W fun e w' => ∃ a q, e = .returned (.slice a 0 q) ∧ Below W.heap.size W w') := fun W => (implHolders_any (-1) 0 0 0 0 0 false [] none 0 W (.inl rfl)).mono fun e w' ⟨v, h1, h2⟩ => by obtain ⟨g, q, hv, -, -, -, hb⟩ := h2; exact ⟨_, q, by rw [h1, hv, show (if entB ((-1), 0, false, 0, 0, 0, 0, []) = true then hoI (-1) 0 else []).length = 0 from by decide +kernel], hb⟩
          obtain ⟨ZXc0, ZXc1, ZXc2, ZXc3, ZXc4, ZXc5, ZXc6, ZXc7⟩ := cells_8 ZX
          have ZXlt := (Array.getElem?_eq_some_iff.1 ZX).1
          obtain ⟨ZNc0, ZNc1, ZNc2, ZNc3, ZNc4, ZNc5, ZNc6, ZNc7⟩ := cells_8 ZN
          have ZNlt := (Array.getElem?_eq_some_iff.1 ZN).1
          go_wp2_with fail
          clear ZXc0 ZXc1 ZXc2 ZXc3 ZXc4 ZXc5 ZXc6 ZXc7 ZXlt ZNc0 ZNc1 ZNc2 ZNc3 ZNc4 ZNc5 ZNc6 ZNc7 ZNlt
          refine (KN.out _).mono ?_
          rintro e u32w ⟨rfl, bq⟩
          replace b0 := below_step b0 bq
          replace ZX := row_keep bq ZX
          replace ZN := row_keep bq ZN
          replace RX := slrd_next RX bq
          clear bq KN
          obtain ⟨ZXc0, ZXc1, ZXc2, ZXc3, ZXc4, ZXc5, ZXc6, ZXc7⟩ := cells_8 ZX
          have ZXlt := (Array.getElem?_eq_some_iff.1 ZX).1
          obtain ⟨ZNc0, ZNc1, ZNc2, ZNc3, ZNc4, ZNc5, ZNc6, ZNc7⟩ := cells_8 ZN
          have ZNlt := (Array.getElem?_eq_some_iff.1 ZN).1
          go_wp2_with fail
          clear ZXc0 ZXc1 ZXc2 ZXc3 ZXc4 ZXc5 ZXc6 ZXc7 ZXlt ZNc0 ZNc1 ZNc2 ZNc3 ZNc4 ZNc5 ZNc6 ZNc7 ZNlt
          refine (KM.out _).mono ?_
          rintro e u33w ⟨an, qn, rfl, bq⟩
          replace b0 := below_step b0 bq
          replace ZX := row_keep bq ZX
          replace ZN := row_keep bq ZN
          replace RX := slrd_next RX bq
          clear bq KM ZX ZN RX
          go_wp2
          go_ret
          exact ⟨rfl, b0⟩
end Go.Proofs.Ytlbolnbchijknaa
