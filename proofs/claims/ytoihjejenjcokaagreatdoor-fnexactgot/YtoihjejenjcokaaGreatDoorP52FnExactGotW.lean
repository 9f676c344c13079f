import Derived.Test.YtoihjejenjcokaaGreatDoorRows
import Derived.Test.YtoihjejenjcokaaGreatDoorP03OpensBase
import Derived.Test.YtoihjejenjcokaaGreatDoorP07Door
import Derived.Test.YtoihjejenjcokaaGreatDoorP50GotS
import Derived.Test.YtoihjejenjcokaaGreatDoorP51BegunX
import Derived.WalkKit
import Derived.ProofKit
import Derived.OpenShut
import Derived.ShutString
import Derived.ChangeOld
import Derived.Below
import Derived.Carry
import Derived.Lib.SmallJoins

/- At every core, every number and every letter, impl.Got answers as spec.Got does, field by field, writes into no argument, keeps nothing of one, and its answer owns its memory, behind another call too: the law FnExactGot returns true and changes nothing that was there. No condition. -/
namespace Go.Proofs.YtoihjejenjcokaaGreatDoor.fnExactGot
open Go.ChangeShapes Go.WideShapes Go.ChangeAt Go.RowKit Go.Joins
open Go.ChangeMaps (open_string shut_string)
set_option linter.unusedVariables false

set_option maxHeartbeats 8000000 in
set_option maxRecDepth 100000 in
theorem walk (cs0 : Array Value) (x0 : RepOf (zAn)) (a1 : Int) (w1 : (Lit.int .i64 a1).wf = true) (cs2 : Array Value) (x2 : RepOf (zBy)) (w : World) (w0 : (zAn).rd w cs0.toList x0) (w2 : (zBy).rd w cs2.toList x2) (hh : Hold w) :
    Calls Tryz.prog 3 #[.agg cs0, .int .i64 a1, .agg cs2] w fun e w' => e = .returned (.bool true) ∧ Below w.heap.size w w' := by
  obtain ⟨gaz0, gcz0, gbz0, gdz0, haz0, hcz0, iaz0, icz0, jaz0, jcz0, hcs0⟩ := zCy w0
  obtain rfl := arr_of hcs0
  have HR0 : Hid (∀ W, Below w.heap.size w W → zAn.rd W [.slice gaz0 x0.1.1.length gcz0, .slice gbz0 x0.1.2.length gdz0, .slice haz0 x0.2.1.length hcz0, .int .i64 x0.2.2.1, .int .i64 x0.2.2.2.1, .int .i64 x0.2.2.2.2.1.1, .int .i64 x0.2.2.2.2.1.2.1, .slice iaz0 x0.2.2.2.2.1.2.2.length icz0, .slice jaz0 x0.2.2.2.2.2.length jcz0] x0) := fun W hb => zAN w0 hb
  clear w0 hcs0
  obtain ⟨gaz2, gcz2, hcs2⟩ := msg_shape w2
  obtain rfl := arr_of hcs2
  have HR2 : Hid (∀ W, Below w.heap.size w W → zBy.rd W [.int .i64 x2.1, .int .i64 x2.2.1, .int .i64 x2.2.2.1, .int .i64 x2.2.2.2.1, .int .i64 x2.2.2.2.2.1, .slice gaz2 x2.2.2.2.2.2.1.length gcz2, .int .i64 x2.2.2.2.2.2.2] x2) := fun W hb => zAN w2 hb
  clear w2 hcs2
  have hsm := got_small x0 a1 x2
  generalize hres : zMu x0 a1 x2 = res at hsm
  have HRES : Hid (zMu x0 a1 x2 = res) := hres
  clear hres
  obtain ⟨y0, y1, y2⟩ := res
  simp only at hsm
  have CSP : Hid (∀ W cs0 cs2, Hold W → zAn.rd W cs0 x0 → zEe.bk x0 ≤ 1048576 → zBy.rd W cs2 x2 → zCD.bk x2 ≤ 1048576 → Calls Tryz.prog 6 #[zAM cs0, .int .i64 a1, zAM cs2] W fun e w' => ∃ ds0 ds1, e = .returned (.tuple #[zAM ds0, zEc ds1, .int .i64 y2]) ∧ zAn.own w' (rng W.heap.size w'.heap.size) ds0 y0 ∧ zBp.own w' (rng W.heap.size w'.heap.size) ds1 y1 ∧ Below W.heap.size W w') := fun W cs0 cs2 hd h0 k0 h2 k2 => by have := specGot_u cs0 cs2 x0 a1 x2 W h0 h2; rw [HRES.out] at this; exact this
  have CIM : Hid (∀ W cs0 cs2, Hold W → zAn.rd W cs0 x0 → zEe.bk x0 ≤ 1048576 → zBy.rd W cs2 x2 → zCD.bk x2 ≤ 1048576 → Calls Tryz.prog 9 #[zAM cs0, .int .i64 a1, zAM cs2] W fun e w' => ∃ ds0 ds1, e = .returned (.tuple #[zAM ds0, zEc ds1, .int .i64 y2]) ∧ ds0.length = zAn.size ∧ zAY (zBP zAn zBp) W w' (ds0 ++ ds1) (y0, y1)) := fun W cs0 cs2 hd h0 k0 h2 k2 => by have := implGot_u cs0 cs2 x0 a1 x2 W hd h0 h2 (msg_data k2); rw [HRES.out] at this; exact this
  clear HRES
  have b0 := Below.refl w.heap.size w
  go_enter Tryz.func3, Tryz.ntmps3
  go_wp2_with fail
  have A0 := zAK (.cells #[.int .i64 x2.1, .int .i64 x2.2.1, .int .i64 x2.2.2.1, .int .i64 x2.2.2.2.1, .int .i64 x2.2.2.2.2.1, .slice gaz2 x2.2.2.2.2.2.1.length gcz2, .int .i64 x2.2.2.2.2.2.2] 32) (zAy w (.cells #[.slice gaz0 x0.1.1.length gcz0, .slice gbz0 x0.1.2.length gdz0, .slice haz0 x0.2.1.length hcz0, .int .i64 x0.2.2.1, .int .i64 x0.2.2.2.1, .int .i64 x0.2.2.2.2.1.1, .int .i64 x0.2.2.2.2.1.2.1, .slice iaz0 x0.2.2.2.2.1.2.2.length icz0, .slice jaz0 x0.2.2.2.2.2.length jcz0] 30))
  have A2 := zAy (w.alloc (.cells #[.slice gaz0 x0.1.1.length gcz0, .slice gbz0 x0.1.2.length gdz0, .slice haz0 x0.2.1.length hcz0, .int .i64 x0.2.2.1, .int .i64 x0.2.2.2.1, .int .i64 x0.2.2.2.2.1.1, .int .i64 x0.2.2.2.2.1.2.1, .slice iaz0 x0.2.2.2.2.1.2.2.length icz0, .slice jaz0 x0.2.2.2.2.2.length jcz0] 30)) (.cells #[.int .i64 x2.1, .int .i64 x2.2.1, .int .i64 x2.2.2.1, .int .i64 x2.2.2.2.1, .int .i64 x2.2.2.2.2.1, .slice gaz2 x2.2.2.2.2.2.1.length gcz2, .int .i64 x2.2.2.2.2.2.2] 32)
  rw [zAp] at A2
  replace b0 := zAb b0 (zAb (zAf w (.cells #[.slice gaz0 x0.1.1.length gcz0, .slice gbz0 x0.1.2.length gdz0, .slice haz0 x0.2.1.length hcz0, .int .i64 x0.2.2.1, .int .i64 x0.2.2.2.1, .int .i64 x0.2.2.2.2.1.1, .int .i64 x0.2.2.2.2.1.2.1, .slice iaz0 x0.2.2.2.2.1.2.2.length icz0, .slice jaz0 x0.2.2.2.2.2.length jcz0] 30)) (zAf _ (.cells #[.int .i64 x2.1, .int .i64 x2.2.1, .int .i64 x2.2.2.1, .int .i64 x2.2.2.2.1, .int .i64 x2.2.2.2.2.1, .slice gaz2 x2.2.2.2.2.2.1.length gcz2, .int .i64 x2.2.2.2.2.2.2] 32)))
  generalize (w.alloc (.cells #[.slice gaz0 x0.1.1.length gcz0, .slice gbz0 x0.1.2.length gdz0, .slice haz0 x0.2.1.length hcz0, .int .i64 x0.2.2.1, .int .i64 x0.2.2.2.1, .int .i64 x0.2.2.2.2.1.1, .int .i64 x0.2.2.2.2.1.2.1, .slice iaz0 x0.2.2.2.2.1.2.2.length icz0, .slice jaz0 x0.2.2.2.2.2.length jcz0] 30)).alloc (.cells #[.int .i64 x2.1, .int .i64 x2.2.1, .int .i64 x2.2.2.1, .int .i64 x2.2.2.2.1, .int .i64 x2.2.2.2.2.1, .slice gaz2 x2.2.2.2.2.2.1.length gcz2, .int .i64 x2.2.2.2.2.2.2] 32) = v1w at A0 A2 b0 ⊢
  refine (szCore_u [.slice gaz0 x0.1.1.length gcz0, .slice gbz0 x0.1.2.length gdz0, .slice haz0 x0.2.1.length hcz0, .int .i64 x0.2.2.1, .int .i64 x0.2.2.2.1, .int .i64 x0.2.2.2.2.1.1, .int .i64 x0.2.2.2.2.1.2.1, .slice iaz0 x0.2.2.2.2.1.2.2.length icz0, .slice jaz0 x0.2.2.2.2.2.length jcz0] x0 (1048576) _ (HR0.out _ b0) (by omega) (by omega)).mono ?_
  rintro e v2w ⟨rfl, bq⟩
  replace b0 := zAb b0 bq
  replace A0 := zAa bq A0
  replace A2 := zAa bq A2
  clear bq
  by_cases hf0 : ((zEe.bk x0 : Nat) : Int) ≤ 1048576
  · have HS0 : Hid (szI (zEe.bk x0) (1048576) = 1048576 - (zEe.bk x0 : Int)) := zC2 hf0
    have hg0 : ¬ (1048576 - ((zEe.bk x0 : Nat) : Int) < 0) := by omega
    have hbk0 : zEe.bk x0 ≤ 1048576 := by omega
    have hbl0 : zEe.bk x0 ≤ lot := Nat.le_trans hbk0 (by decide)
    rw [HS0.out]
    obtain ⟨A2c0, A2c1, A2c2, A2c3, A2c4, A2c5, A2c6⟩ := zAe A2
    have A2lt := (Array.getElem?_eq_some_iff.1 A2).1
    go_wp2_with fail
    clear A2c0 A2c1 A2c2 A2c3 A2c4 A2c5 A2c6 A2lt
    refine (szMsg_u [.int .i64 x2.1, .int .i64 x2.2.1, .int .i64 x2.2.2.1, .int .i64 x2.2.2.2.1, .int .i64 x2.2.2.2.2.1, .slice gaz2 x2.2.2.2.2.2.1.length gcz2, .int .i64 x2.2.2.2.2.2.2] x2 (1048576 - (zEe.bk x0 : Int)) _ (HR2.out _ b0) (by omega) (by omega)).mono ?_
    rintro e v3w ⟨rfl, bq⟩
    replace b0 := zAb b0 bq
    replace A0 := zAa bq A0
    replace A2 := zAa bq A2
    clear bq
    by_cases hf2 : ((zCD.bk x2 : Nat) : Int) ≤ 1048576 - (zEe.bk x0 : Int)
    · have HS2 : Hid (szI (zCD.bk x2) (1048576 - (zEe.bk x0 : Int)) = 1048576 - (zEe.bk x0 : Int) - (zCD.bk x2 : Int)) := zC2 hf2
      have hg2 : ¬ (1048576 - (zEe.bk x0 : Int) - ((zCD.bk x2 : Nat) : Int) < 0) := by omega
      have hbk2 : zCD.bk x2 ≤ 1048576 := by omega
      have hbl2 : zCD.bk x2 ≤ lot := Nat.le_trans hbk2 (by decide)
      rw [HS2.out]
      replace hsm := hsm hbk0 hbk2
      have hxm0 : (zEe.cV x0 : Int) ≤ 268435456 := by have := bv_core x0; omega
      generalize hkx0 : zEe.cV x0 = kx0 at hxm0
      have HKX0 : Hid (zEe.cV x0 = kx0) := hkx0
      clear hkx0
      have hxm2 : (zCD.cV x2 : Int) ≤ 268435456 := by have := bv_msg x2; omega
      generalize hkx2 : zCD.cV x2 = kx2 at hxm2
      have HKX2 : Hid (zCD.cV x2 = kx2) := hkx2
      clear hkx2
      have hb0 : zEe.bk y0 ≤ 8388608 := hsm.1
      have hl0 : zEe.bk y0 ≤ lot := Nat.le_trans hb0 (by decide)
      have hgm0 : (zEe.cV y0 : Int) ≤ 268435456 := by have := bv_core y0; omega
      generalize hky0 : zEe.cV y0 = ky0 at hgm0
      have HKY0 : Hid (zEe.cV y0 = ky0) := hky0
      clear hky0
      have hb1 : zHt.bk y1 ≤ 8388608 := hsm.2
      have hl1 : zHt.bk y1 ≤ lot := Nat.le_trans hb1 (by decide)
      have hgm1 : (zHt.cV y1 : Int) ≤ 268435456 := by have := bv_msgs y1; omega
      generalize hky1 : zHt.cV y1 = ky1 at hgm1
      have HKY1 : Hid (zHt.cV y1 = ky1) := hky1
      clear hky1
      have hlot : (lot : Int) = 4398046511104 := rfl
      go_upto_region 8 with fail
      go_cut [8, 9, 10] (fun p q r wx => RegS v3w y0 y1 y2 p q r wx)
      case first =>
        obtain ⟨A0c0, A0c1, A0c2, A0c3, A0c4, A0c5, A0c6, A0c7, A0c8⟩ := zAc A0
        obtain ⟨A2c0, A2c1, A2c2, A2c3, A2c4, A2c5, A2c6⟩ := zAe A2
        have K : Hid (∀ wx, Below v3w.heap.size v3w wx → Below v3w.heap.size v3w wx ∧ wx.cell? ⟨w.heap.size, 0, none⟩ = some (.slice gaz0 x0.1.1.length gcz0) ∧ wx.cell? ⟨w.heap.size, 1, none⟩ = some (.slice gbz0 x0.1.2.length gdz0) ∧ wx.cell? ⟨w.heap.size, 2, none⟩ = some (.slice haz0 x0.2.1.length hcz0) ∧ wx.cell? ⟨w.heap.size, 3, none⟩ = some (.int .i64 x0.2.2.1) ∧ wx.cell? ⟨w.heap.size, 4, none⟩ = some (.int .i64 x0.2.2.2.1) ∧ wx.cell? ⟨w.heap.size, 5, none⟩ = some (.int .i64 x0.2.2.2.2.1.1) ∧ wx.cell? ⟨w.heap.size, 6, none⟩ = some (.int .i64 x0.2.2.2.2.1.2.1) ∧ wx.cell? ⟨w.heap.size, 7, none⟩ = some (.slice iaz0 x0.2.2.2.2.1.2.2.length icz0) ∧ wx.cell? ⟨w.heap.size, 8, none⟩ = some (.slice jaz0 x0.2.2.2.2.2.length jcz0) ∧ wx.cell? ⟨w.heap.size + 1, 0, none⟩ = some (.int .i64 x2.1) ∧ wx.cell? ⟨w.heap.size + 1, 1, none⟩ = some (.int .i64 x2.2.1) ∧ wx.cell? ⟨w.heap.size + 1, 2, none⟩ = some (.int .i64 x2.2.2.1) ∧ wx.cell? ⟨w.heap.size + 1, 3, none⟩ = some (.int .i64 x2.2.2.2.1) ∧ wx.cell? ⟨w.heap.size + 1, 4, none⟩ = some (.int .i64 x2.2.2.2.2.1) ∧ wx.cell? ⟨w.heap.size + 1, 5, none⟩ = some (.slice gaz2 x2.2.2.2.2.2.1.length gcz2) ∧ wx.cell? ⟨w.heap.size + 1, 6, none⟩ = some (.int .i64 x2.2.2.2.2.2.2)) := fun wx h => ⟨h, zAd h A0c0 (zAi A0c0), zAd h A0c1 (zAi A0c1), zAd h A0c2 (zAi A0c2), zAd h A0c3 (zAi A0c3), zAd h A0c4 (zAi A0c4), zAd h A0c5 (zAi A0c5), zAd h A0c6 (zAi A0c6), zAd h A0c7 (zAi A0c7), zAd h A0c8 (zAi A0c8), zAd h A2c0 (zAi A2c0), zAd h A2c1 (zAi A2c1), zAd h A2c2 (zAi A2c2), zAd h A2c3 (zAi A2c3), zAd h A2c4 (zAi A2c4), zAd h A2c5 (zAi A2c5), zAd h A2c6 (zAi A2c6)⟩
        have HB0 : Hid _ := b0
        have Q0 : Hid (Below v3w.heap.size v3w v3w.drew) := (Below.refl _ _).drew
        have KQ0 : Hid _ := K.out _ Q0.out
        have QZ0 : Hid _ := K.out (v3w.alloc (.cells #[.slice none 0 0, .slice none 0 0, .slice none 0 0, .int .i64 0, .int .i64 0, .int .i64 0, .int .i64 0, .slice none 0 0, .slice none 0 0] 41)).drew (zAf v3w (.cells #[.slice none 0 0, .slice none 0 0, .slice none 0 0, .int .i64 0, .int .i64 0, .int .i64 0, .int .i64 0, .slice none 0 0, .slice none 0 0] 41)).drew
        clear b0 A0 A2
        first | (go_region_held3 (fun wx => Below v3w.heap.size v3w wx ∧ wx.cell? ⟨w.heap.size, 0, none⟩ = some (.slice gaz0 x0.1.1.length gcz0) ∧ wx.cell? ⟨w.heap.size, 1, none⟩ = some (.slice gbz0 x0.1.2.length gdz0) ∧ wx.cell? ⟨w.heap.size, 2, none⟩ = some (.slice haz0 x0.2.1.length hcz0) ∧ wx.cell? ⟨w.heap.size, 3, none⟩ = some (.int .i64 x0.2.2.1) ∧ wx.cell? ⟨w.heap.size, 4, none⟩ = some (.int .i64 x0.2.2.2.1) ∧ wx.cell? ⟨w.heap.size, 5, none⟩ = some (.int .i64 x0.2.2.2.2.1.1) ∧ wx.cell? ⟨w.heap.size, 6, none⟩ = some (.int .i64 x0.2.2.2.2.1.2.1) ∧ wx.cell? ⟨w.heap.size, 7, none⟩ = some (.slice iaz0 x0.2.2.2.2.1.2.2.length icz0) ∧ wx.cell? ⟨w.heap.size, 8, none⟩ = some (.slice jaz0 x0.2.2.2.2.2.length jcz0) ∧ wx.cell? ⟨w.heap.size + 1, 0, none⟩ = some (.int .i64 x2.1) ∧ wx.cell? ⟨w.heap.size + 1, 1, none⟩ = some (.int .i64 x2.2.1) ∧ wx.cell? ⟨w.heap.size + 1, 2, none⟩ = some (.int .i64 x2.2.2.1) ∧ wx.cell? ⟨w.heap.size + 1, 3, none⟩ = some (.int .i64 x2.2.2.2.1) ∧ wx.cell? ⟨w.heap.size + 1, 4, none⟩ = some (.int .i64 x2.2.2.2.2.1) ∧ wx.cell? ⟨w.heap.size + 1, 5, none⟩ = some (.slice gaz2 x2.2.2.2.2.2.1.length gcz2) ∧ wx.cell? ⟨w.heap.size + 1, 6, none⟩ = some (.int .i64 x2.2.2.2.2.2.2)) (first | (with_reducible exact KQ0.out) | (with_reducible exact KQ1.out) | (with_reducible exact KQ2.out) | (with_reducible exact KQ3.out) | (with_reducible exact QZ0.out) | (with_reducible exact QZ1.out) | (with_reducible exact QZ2.out) | (with_reducible exact QZ3.out) | (with_reducible exact QZ4.out) | (with_reducible exact QC1.out) | (with_reducible exact QC2.out) | (with_reducible exact QC3.out) | fail) (first | (go_at_call 7; refine (toCore_u [.slice gaz0 x0.1.1.length gcz0, .slice gbz0 x0.1.2.length gdz0, .slice haz0 x0.2.1.length hcz0, .int .i64 x0.2.2.1, .int .i64 x0.2.2.2.1, .int .i64 x0.2.2.2.2.1.1, .int .i64 x0.2.2.2.2.1.2.1, .slice iaz0 x0.2.2.2.2.1.2.2.length icz0, .slice jaz0 x0.2.2.2.2.2.length jcz0] x0 _ (HR0.out _ (zAb HB0.out (And.left (by assumption)))) hbk0).mono ?_; rintro e wq ⟨ds, rfl, mm⟩; obtain ⟨gam, gcm, gbm, gdm, ham, hcm, iam, icm, jam, jcm, rfl⟩ := zCy (zAn.own_rd mm.1); rw [show zAM [.slice gam x0.1.1.length gcm, .slice gbm x0.1.2.length gdm, .slice ham x0.2.1.length hcm, .int .i64 x0.2.2.1, .int .i64 x0.2.2.2.1, .int .i64 x0.2.2.2.2.1.1, .int .i64 x0.2.2.2.2.1.2.1, .slice iam x0.2.2.2.2.1.2.2.length icm, .slice jam x0.2.2.2.2.2.length jcm] = .agg #[.slice gam x0.1.1.length gcm, .slice gbm x0.1.2.length gdm, .slice ham x0.2.1.length hcm, .int .i64 x0.2.2.1, .int .i64 x0.2.2.2.1, .int .i64 x0.2.2.2.2.1.1, .int .i64 x0.2.2.2.2.1.2.1, .slice iam x0.2.2.2.2.1.2.2.length icm, .slice jam x0.2.2.2.2.2.length jcm] from rfl]; have Q1 : Hid (Below v3w.heap.size v3w wq) := zAb (And.left (by assumption)) mm.2; have KQ1 : Hid _ := K.out wq Q1.out; have QZ1 : Hid _ := K.out (wq.alloc (.cells #[.slice none 0 0, .slice none 0 0, .slice none 0 0, .int .i64 0, .int .i64 0, .int .i64 0, .int .i64 0, .slice none 0 0, .slice none 0 0] 41)) (zAb Q1.out (zAf wq (.cells #[.slice none 0 0, .slice none 0 0, .slice none 0 0, .int .i64 0, .int .i64 0, .int .i64 0, .int .i64 0, .slice none 0 0, .slice none 0 0] 41))); have T1 : Hid (zAn.rd wq [.slice gam x0.1.1.length gcm, .slice gbm x0.1.2.length gdm, .slice ham x0.2.1.length hcm, .int .i64 x0.2.2.1, .int .i64 x0.2.2.2.1, .int .i64 x0.2.2.2.2.1.1, .int .i64 x0.2.2.2.2.1.2.1, .slice iam x0.2.2.2.2.1.2.2.length icm, .slice jam x0.2.2.2.2.2.length jcm] x0) := zAn.own_rd mm.1; (first | (have rz1 : wq.heap[v3w.heap.size]? = some (.cells #[.slice none 0 0, .slice none 0 0, .slice none 0 0, .int .i64 0, .int .i64 0, .int .i64 0, .int .i64 0, .slice none 0 0, .slice none 0 0] 41) := ?hz; case hz => exact zAa mm.2 (zBj (zAy v3w (.cells #[.slice none 0 0, .slice none 0 0, .slice none 0 0, .int .i64 0, .int .i64 0, .int .i64 0, .int .i64 0, .slice none 0 0, .slice none 0 0] 41)))) | skip); have sq : v3w.heap.size ≤ wq.heap.size := Q1.out.size; clear mm) | (go_at_call 8; refine (toMsg_u [.int .i64 x2.1, .int .i64 x2.2.1, .int .i64 x2.2.2.1, .int .i64 x2.2.2.2.1, .int .i64 x2.2.2.2.2.1, .slice gaz2 x2.2.2.2.2.2.1.length gcz2, .int .i64 x2.2.2.2.2.2.2] x2 _ (HR2.out _ (zAb HB0.out (And.left (by assumption)))) hbk2).mono ?_; rintro e wr ⟨ds, rfl, mm⟩; obtain ⟨gan, gcn, rfl⟩ := msg_shape (zBy.own_rd mm.1); rw [show zAM [.int .i64 x2.1, .int .i64 x2.2.1, .int .i64 x2.2.2.1, .int .i64 x2.2.2.2.1, .int .i64 x2.2.2.2.2.1, .slice gan x2.2.2.2.2.2.1.length gcn, .int .i64 x2.2.2.2.2.2.2] = .agg #[.int .i64 x2.1, .int .i64 x2.2.1, .int .i64 x2.2.2.1, .int .i64 x2.2.2.2.1, .int .i64 x2.2.2.2.2.1, .slice gan x2.2.2.2.2.2.1.length gcn, .int .i64 x2.2.2.2.2.2.2] from rfl]; have Q2 : Hid (Below v3w.heap.size v3w wr) := zAb (And.left (by assumption)) mm.2; have KQ2 : Hid _ := K.out wr Q2.out; have QZ2 : Hid _ := K.out (wr.alloc (.cells #[.slice none 0 0, .slice none 0 0, .slice none 0 0, .int .i64 0, .int .i64 0, .int .i64 0, .int .i64 0, .slice none 0 0, .slice none 0 0] 41)) (zAb Q2.out (zAf wr (.cells #[.slice none 0 0, .slice none 0 0, .slice none 0 0, .int .i64 0, .int .i64 0, .int .i64 0, .int .i64 0, .slice none 0 0, .slice none 0 0] 41))); have T2 : Hid (zBy.rd wr [.int .i64 x2.1, .int .i64 x2.2.1, .int .i64 x2.2.2.1, .int .i64 x2.2.2.2.1, .int .i64 x2.2.2.2.2.1, .slice gan x2.2.2.2.2.2.1.length gcn, .int .i64 x2.2.2.2.2.2.2] x2) := zBy.own_rd mm.1; (first | (have T1n : Hid (zAn.rd wr [.slice gam x0.1.1.length gcm, .slice gbm x0.1.2.length gdm, .slice ham x0.2.1.length hcm, .int .i64 x0.2.2.1, .int .i64 x0.2.2.2.1, .int .i64 x0.2.2.2.2.1.1, .int .i64 x0.2.2.2.2.1.2.1, .slice iam x0.2.2.2.2.1.2.2.length icm, .slice jam x0.2.2.2.2.2.length jcm] x0) := ?hz; case hz => exact zAN T1.out mm.2) | (have T1n : Hid (zAn.rd wr [.slice gam x0.1.1.length gcm, .slice gbm x0.1.2.length gdm, .slice ham x0.2.1.length hcm, .int .i64 x0.2.2.1, .int .i64 x0.2.2.2.1, .int .i64 x0.2.2.2.2.1.1, .int .i64 x0.2.2.2.2.1.2.1, .slice iam x0.2.2.2.2.1.2.2.length icm, .slice jam x0.2.2.2.2.2.length jcm] x0) := ?hz; case hz => exact zAN (zAN T1.out (zAf _ _)) mm.2)); (first | (have ry1 : wr.heap[v3w.heap.size]? = some (.cells #[.slice none 0 0, .slice none 0 0, .slice none 0 0, .int .i64 0, .int .i64 0, .int .i64 0, .int .i64 0, .slice none 0 0, .slice none 0 0] 41) := ?hz; case hz => exact zAa mm.2 rz1) | skip); (first | (have ry2 : wr.heap[wq.heap.size]? = some (.cells #[.slice none 0 0, .slice none 0 0, .slice none 0 0, .int .i64 0, .int .i64 0, .int .i64 0, .int .i64 0, .slice none 0 0, .slice none 0 0] 41) := ?hz; case hz => exact zAa mm.2 (zAy wq _)) | skip); have sr : v3w.heap.size ≤ wr.heap.size := Q2.out.size; clear mm) | (go_at_call 6; (first | (refine (CSP.out wr [.slice gam x0.1.1.length gcm, .slice gbm x0.1.2.length gdm, .slice ham x0.2.1.length hcm, .int .i64 x0.2.2.1, .int .i64 x0.2.2.2.1, .int .i64 x0.2.2.2.2.1.1, .int .i64 x0.2.2.2.2.1.2.1, .slice iam x0.2.2.2.2.1.2.2.length icm, .slice jam x0.2.2.2.2.2.length jcm] [.int .i64 x2.1, .int .i64 x2.2.1, .int .i64 x2.2.2.1, .int .i64 x2.2.2.2.1, .int .i64 x2.2.2.2.2.1, .slice gan x2.2.2.2.2.2.1.length gcn, .int .i64 x2.2.2.2.2.2.2] (hh.goes (zAb HB0.out Q2.out)) T1n.out hbk0 T2.out hbk2).mono ?_) | (refine (CSP.out _ [.slice gam x0.1.1.length gcm, .slice gbm x0.1.2.length gdm, .slice ham x0.2.1.length hcm, .int .i64 x0.2.2.1, .int .i64 x0.2.2.2.1, .int .i64 x0.2.2.2.2.1.1, .int .i64 x0.2.2.2.2.1.2.1, .slice iam x0.2.2.2.2.1.2.2.length icm, .slice jam x0.2.2.2.2.2.length jcm] [.int .i64 x2.1, .int .i64 x2.2.1, .int .i64 x2.2.2.1, .int .i64 x2.2.2.2.1, .int .i64 x2.2.2.2.2.1, .slice gan x2.2.2.2.2.2.1.length gcn, .int .i64 x2.2.2.2.2.2.2] (hh.goes (zAb HB0.out (zAb Q2.out (zAf _ _)))) (zAN T1n.out (zAf _ _)) hbk0 (zAN T2.out (zAf _ _)) hbk2).mono ?_)); rintro e wf ⟨ds0, ds1, rfl, o0, o1, mb⟩; obtain ⟨gas, gcs, gbs, gds, has, hcs, ias, ics, jas, jcs, rfl⟩ := zCy (zAn.own_rd o0); obtain ⟨gas1, gcs1, ro, -, -, -⟩ := zBp.own_rd o1; obtain rfl := ro; rw [show zAM [.slice gas y0.1.1.length gcs, .slice gbs y0.1.2.length gds, .slice has y0.2.1.length hcs, .int .i64 y0.2.2.1, .int .i64 y0.2.2.2.1, .int .i64 y0.2.2.2.2.1.1, .int .i64 y0.2.2.2.2.1.2.1, .slice ias y0.2.2.2.2.1.2.2.length ics, .slice jas y0.2.2.2.2.2.length jcs] = .agg #[.slice gas y0.1.1.length gcs, .slice gbs y0.1.2.length gds, .slice has y0.2.1.length hcs, .int .i64 y0.2.2.1, .int .i64 y0.2.2.2.1, .int .i64 y0.2.2.2.2.1.1, .int .i64 y0.2.2.2.2.1.2.1, .slice ias y0.2.2.2.2.1.2.2.length ics, .slice jas y0.2.2.2.2.2.length jcs] from rfl, show zEc [.slice gas1 y1.length gcs1] = .slice gas1 y1.length gcs1 from rfl]; have Q3 : Hid (Below v3w.heap.size v3w wf) := zAb (And.left (by assumption)) mb; have KQ3 : Hid _ := K.out wf Q3.out; have QZ3 : Hid _ := K.out (wf.alloc (.cells #[.slice none 0 0, .slice none 0 0, .slice none 0 0, .int .i64 0, .int .i64 0, .int .i64 0, .int .i64 0, .slice none 0 0, .slice none 0 0] 41)) (zAb Q3.out (zAf wf (.cells #[.slice none 0 0, .slice none 0 0, .slice none 0 0, .int .i64 0, .int .i64 0, .int .i64 0, .int .i64 0, .slice none 0 0, .slice none 0 0] 41))); have QZ4 : Hid _ := K.out (wf.alloc (.cells #[.slice gas y0.1.1.length gcs, .slice gbs y0.1.2.length gds, .slice has y0.2.1.length hcs, .int .i64 y0.2.2.1, .int .i64 y0.2.2.2.1, .int .i64 y0.2.2.2.2.1.1, .int .i64 y0.2.2.2.2.1.2.1, .slice ias y0.2.2.2.2.1.2.2.length ics, .slice jas y0.2.2.2.2.2.length jcs] 41)) (zAb Q3.out (zAf wf _)); have QC1 : Hid _ := K.out (((((((((wf.setCell ⟨v3w.heap.size, 0, none⟩ (.slice gas y0.1.1.length gcs)).setCell ⟨v3w.heap.size, 1, none⟩ (.slice gbs y0.1.2.length gds)).setCell ⟨v3w.heap.size, 2, none⟩ (.slice has y0.2.1.length hcs)).setCell ⟨v3w.heap.size, 3, none⟩ (.int .i64 y0.2.2.1)).setCell ⟨v3w.heap.size, 4, none⟩ (.int .i64 y0.2.2.2.1)).setCell ⟨v3w.heap.size, 5, none⟩ (.int .i64 y0.2.2.2.2.1.1)).setCell ⟨v3w.heap.size, 6, none⟩ (.int .i64 y0.2.2.2.2.1.2.1)).setCell ⟨v3w.heap.size, 7, none⟩ (.slice ias y0.2.2.2.2.1.2.2.length ics)).setCell ⟨v3w.heap.size, 8, none⟩ (.slice jas y0.2.2.2.2.2.length jcs)) (below_set9 Q3.out (Nat.le_refl _)); have QC2 : Hid _ := K.out (((((((((wf.setCell ⟨wq.heap.size, 0, none⟩ (.slice gas y0.1.1.length gcs)).setCell ⟨wq.heap.size, 1, none⟩ (.slice gbs y0.1.2.length gds)).setCell ⟨wq.heap.size, 2, none⟩ (.slice has y0.2.1.length hcs)).setCell ⟨wq.heap.size, 3, none⟩ (.int .i64 y0.2.2.1)).setCell ⟨wq.heap.size, 4, none⟩ (.int .i64 y0.2.2.2.1)).setCell ⟨wq.heap.size, 5, none⟩ (.int .i64 y0.2.2.2.2.1.1)).setCell ⟨wq.heap.size, 6, none⟩ (.int .i64 y0.2.2.2.2.1.2.1)).setCell ⟨wq.heap.size, 7, none⟩ (.slice ias y0.2.2.2.2.1.2.2.length ics)).setCell ⟨wq.heap.size, 8, none⟩ (.slice jas y0.2.2.2.2.2.length jcs)) (below_set9 Q3.out sq); have QC3 : Hid _ := K.out (((((((((wf.setCell ⟨wr.heap.size, 0, none⟩ (.slice gas y0.1.1.length gcs)).setCell ⟨wr.heap.size, 1, none⟩ (.slice gbs y0.1.2.length gds)).setCell ⟨wr.heap.size, 2, none⟩ (.slice has y0.2.1.length hcs)).setCell ⟨wr.heap.size, 3, none⟩ (.int .i64 y0.2.2.1)).setCell ⟨wr.heap.size, 4, none⟩ (.int .i64 y0.2.2.2.1)).setCell ⟨wr.heap.size, 5, none⟩ (.int .i64 y0.2.2.2.2.1.1)).setCell ⟨wr.heap.size, 6, none⟩ (.int .i64 y0.2.2.2.2.1.2.1)).setCell ⟨wr.heap.size, 7, none⟩ (.slice ias y0.2.2.2.2.1.2.2.length ics)).setCell ⟨wr.heap.size, 8, none⟩ (.slice jas y0.2.2.2.2.2.length jcs)) (below_set9 Q3.out sr); (first | (have rx1 : wf.heap[v3w.heap.size]? = some (.cells #[.slice none 0 0, .slice none 0 0, .slice none 0 0, .int .i64 0, .int .i64 0, .int .i64 0, .int .i64 0, .slice none 0 0, .slice none 0 0] 41) := ?hz; case hz => exact zAa mb ry1) | skip); (first | (have rx2 : wf.heap[wq.heap.size]? = some (.cells #[.slice none 0 0, .slice none 0 0, .slice none 0 0, .int .i64 0, .int .i64 0, .int .i64 0, .int .i64 0, .slice none 0 0, .slice none 0 0] 41) := ?hz; case hz => exact zAa mb ry2) | skip); (first | (have rx3 : wf.heap[wr.heap.size]? = some (.cells #[.slice none 0 0, .slice none 0 0, .slice none 0 0, .int .i64 0, .int .i64 0, .int .i64 0, .int .i64 0, .slice none 0 0, .slice none 0 0] 41) := ?hz; case hz => exact zAa mb (zAy wr _)) | skip); (first | (have zz := rx1; clear zz; obtain ⟨rx1c0, rx1c1, rx1c2, rx1c3, rx1c4, rx1c5, rx1c6, rx1c7, rx1c8⟩ := zAc rx1; obtain ⟨rx1f0, rx1f1, rx1f2, rx1f3, rx1f4, rx1f5, rx1f6, rx1f7, rx1f8⟩ := zAr rx1; have rx1lt := (Array.getElem?_eq_some_iff.1 rx1).1) | skip); (first | (have zz := rx2; clear zz; obtain ⟨rx2c0, rx2c1, rx2c2, rx2c3, rx2c4, rx2c5, rx2c6, rx2c7, rx2c8⟩ := zAc rx2; obtain ⟨rx2f0, rx2f1, rx2f2, rx2f3, rx2f4, rx2f5, rx2f6, rx2f7, rx2f8⟩ := zAr rx2; have rx2lt := (Array.getElem?_eq_some_iff.1 rx2).1) | skip); (first | (have zz := rx3; clear zz; obtain ⟨rx3c0, rx3c1, rx3c2, rx3c3, rx3c4, rx3c5, rx3c6, rx3c7, rx3c8⟩ := zAc rx3; obtain ⟨rx3f0, rx3f1, rx3f2, rx3f3, rx3f4, rx3f5, rx3f6, rx3f7, rx3f8⟩ := zAr rx3; have rx3lt := (Array.getElem?_eq_some_iff.1 rx3).1) | skip); have HO0 : Hid _ := o0; have HO1 : Hid _ := o1; clear o0 mb o1) | fail)) | fail
        all_goals go_wp2_with fail
        all_goals go_meet
        all_goals first | (have zz := rx3; with_reducible exact RegS_b rx3 HO0.out HO1.out sr (by simp) (by simp; omega) Q3.out) | (have zz := rx2; with_reducible exact RegS_b rx2 HO0.out HO1.out sq (Array.getElem?_eq_some_iff.1 ry2).1 sr Q3.out) | (have zz := rx1; with_reducible exact RegS_b rx1 HO0.out HO1.out (Nat.le_refl _) (Array.getElem?_eq_some_iff.1 ry1).1 sr Q3.out) | (with_reducible exact RegS_a HO0.out HO1.out sr Q3.out)
      case rest =>
        obtain ⟨zbq, loq, hiq, gaq0, gbq0, haq0, iaq0, jaq0, gaq1, gcq0, gdq0, hcq0, icq0, jcq0, gcq1, rfl, rfl, rfl, hzq, hloq, hzzq, Zq0, PO0, PO1, bq⟩ := hcut
        obtain ⟨v4w, hwn⟩ : ∃ x, x = wc := ⟨_, rfl⟩
        subst hwn
        replace b0 := zAb b0 bq
        replace A0 := zAa bq A0
        replace A2 := zAa bq A2
        clear bq
        have S0 := sight_of (zAn.own_rd PO0.1)
        have S1 := sight_of (zBp.own_rd PO1.1)
        clear PO0 PO1
        obtain ⟨A0c0, A0c1, A0c2, A0c3, A0c4, A0c5, A0c6, A0c7, A0c8⟩ := zAc A0
        have A0lt := (Array.getElem?_eq_some_iff.1 A0).1
        go_wp2_with fail
        clear A0c0 A0c1 A0c2 A0c3 A0c4 A0c5 A0c6 A0c7 A0c8 A0lt
        refine (toCore_u [.slice gaz0 x0.1.1.length gcz0, .slice gbz0 x0.1.2.length gdz0, .slice haz0 x0.2.1.length hcz0, .int .i64 x0.2.2.1, .int .i64 x0.2.2.2.1, .int .i64 x0.2.2.2.2.1.1, .int .i64 x0.2.2.2.2.1.2.1, .slice iaz0 x0.2.2.2.2.1.2.2.length icz0, .slice jaz0 x0.2.2.2.2.2.length jcz0] x0 _ (HR0.out _ b0) hbk0).mono ?_
        rintro e v5w ⟨ds, rfl, mm⟩
        obtain ⟨gax0, gcx0, gbx0, gdx0, hax0, hcx0, iax0, icx0, jax0, jcx0, rfl⟩ := zCy (zAn.own_rd mm.1)
        rw [show zAM [.slice gax0 x0.1.1.length gcx0, .slice gbx0 x0.1.2.length gdx0, .slice hax0 x0.2.1.length hcx0, .int .i64 x0.2.2.1, .int .i64 x0.2.2.2.1, .int .i64 x0.2.2.2.2.1.1, .int .i64 x0.2.2.2.2.1.2.1, .slice iax0 x0.2.2.2.2.1.2.2.length icx0, .slice jax0 x0.2.2.2.2.2.length jcx0] = .agg #[.slice gax0 x0.1.1.length gcx0, .slice gbx0 x0.1.2.length gdx0, .slice hax0 x0.2.1.length hcx0, .int .i64 x0.2.2.1, .int .i64 x0.2.2.2.1, .int .i64 x0.2.2.2.2.1.1, .int .i64 x0.2.2.2.2.1.2.1, .slice iax0 x0.2.2.2.2.1.2.2.length icx0, .slice jax0 x0.2.2.2.2.2.length jcx0] from rfl]
        have X0S0 : v4w.heap.size ≤ v4w.heap.size := sight_lt S0
        have X0S1 : v4w.heap.size ≤ v4w.heap.size := sight_lt S1
        have X0A0 : w.heap.size < v4w.heap.size ∨ v5w.heap.size ≤ w.heap.size := .inl (Array.getElem?_eq_some_iff.1 A0).1
        have X0A2 : w.heap.size + 1 < v4w.heap.size ∨ v5w.heap.size ≤ w.heap.size + 1 := .inl (Array.getElem?_eq_some_iff.1 A2).1
        have X0Zq0 : zbq < v4w.heap.size ∨ v5w.heap.size ≤ zbq := .inl (Array.getElem?_eq_some_iff.1 Zq0).1
        have X0lo : w.heap.size ≤ v4w.heap.size := b0.size
        have X0 := zAR (R := zAn) mm
        have mbX0 := mm.2
        replace b0 := zAb b0 mbX0
        replace A0 := zAa mbX0 A0
        replace A2 := zAa mbX0 A2
        replace Zq0 := zAa mbX0 Zq0
        replace S0 := sight_next S0 mbX0
        replace S1 := sight_next S1 mbX0
        clear mbX0 mm
        obtain ⟨A2c0, A2c1, A2c2, A2c3, A2c4, A2c5, A2c6⟩ := zAe A2
        have A2lt := (Array.getElem?_eq_some_iff.1 A2).1
        go_wp2_with fail
        clear A2c0 A2c1 A2c2 A2c3 A2c4 A2c5 A2c6 A2lt
        have ZX0 := zAy v5w (.cells #[.slice gax0 x0.1.1.length gcx0, .slice gbx0 x0.1.2.length gdx0, .slice hax0 x0.2.1.length hcx0, .int .i64 x0.2.2.1, .int .i64 x0.2.2.2.1, .int .i64 x0.2.2.2.2.1.1, .int .i64 x0.2.2.2.2.1.2.1, .slice iax0 x0.2.2.2.2.1.2.2.length icx0, .slice jax0 x0.2.2.2.2.2.length jcx0] 41)
        have bzZX0 := zAf v5w (.cells #[.slice gax0 x0.1.1.length gcx0, .slice gbx0 x0.1.2.length gdx0, .slice hax0 x0.2.1.length hcx0, .int .i64 x0.2.2.1, .int .i64 x0.2.2.2.1, .int .i64 x0.2.2.2.2.1.1, .int .i64 x0.2.2.2.2.1.2.1, .slice iax0 x0.2.2.2.2.1.2.2.length icx0, .slice jax0 x0.2.2.2.2.2.length jcx0] 41)
        have X0ZX0 : v5w.heap.size < v4w.heap.size ∨ v5w.heap.size ≤ v5w.heap.size := .inr X0.2
        replace b0 := zAb b0 bzZX0
        replace A0 := zAa bzZX0 A0
        replace A2 := zAa bzZX0 A2
        replace Zq0 := zAa bzZX0 Zq0
        replace X0 := zA6 X0 bzZX0
        replace S0 := sight_next S0 bzZX0
        replace S1 := sight_next S1 bzZX0
        clear bzZX0
        generalize v5w.alloc (.cells #[.slice gax0 x0.1.1.length gcx0, .slice gbx0 x0.1.2.length gdx0, .slice hax0 x0.2.1.length hcx0, .int .i64 x0.2.2.1, .int .i64 x0.2.2.2.1, .int .i64 x0.2.2.2.2.1.1, .int .i64 x0.2.2.2.2.1.2.1, .slice iax0 x0.2.2.2.2.1.2.2.length icx0, .slice jax0 x0.2.2.2.2.2.length jcx0] 41) = v6w at b0 A0 A2 Zq0 ZX0 X0 S0 S1 ⊢
        obtain ⟨A2c0, A2c1, A2c2, A2c3, A2c4, A2c5, A2c6⟩ := zAe A2
        have A2lt := (Array.getElem?_eq_some_iff.1 A2).1
        go_wp2_with fail
        clear A2c0 A2c1 A2c2 A2c3 A2c4 A2c5 A2c6 A2lt
        refine (toMsg_u [.int .i64 x2.1, .int .i64 x2.2.1, .int .i64 x2.2.2.1, .int .i64 x2.2.2.2.1, .int .i64 x2.2.2.2.2.1, .slice gaz2 x2.2.2.2.2.2.1.length gcz2, .int .i64 x2.2.2.2.2.2.2] x2 _ (HR2.out _ b0) hbk2).mono ?_
        rintro e v7w ⟨ds, rfl, mm⟩
        obtain ⟨gax2, gcx2, rfl⟩ := msg_shape (zBy.own_rd mm.1)
        rw [show zAM [.int .i64 x2.1, .int .i64 x2.2.1, .int .i64 x2.2.2.1, .int .i64 x2.2.2.2.1, .int .i64 x2.2.2.2.2.1, .slice gax2 x2.2.2.2.2.2.1.length gcx2, .int .i64 x2.2.2.2.2.2.2] = .agg #[.int .i64 x2.1, .int .i64 x2.2.1, .int .i64 x2.2.2.1, .int .i64 x2.2.2.2.1, .int .i64 x2.2.2.2.2.1, .slice gax2 x2.2.2.2.2.2.1.length gcx2, .int .i64 x2.2.2.2.2.2.2] from rfl]
        have X2S0 : v4w.heap.size ≤ v6w.heap.size := sight_lt S0
        have X2S1 : v4w.heap.size ≤ v6w.heap.size := sight_lt S1
        have X2A0 : w.heap.size < v6w.heap.size ∨ v7w.heap.size ≤ w.heap.size := .inl (Array.getElem?_eq_some_iff.1 A0).1
        have X2A2 : w.heap.size + 1 < v6w.heap.size ∨ v7w.heap.size ≤ w.heap.size + 1 := .inl (Array.getElem?_eq_some_iff.1 A2).1
        have X2Zq0 : zbq < v6w.heap.size ∨ v7w.heap.size ≤ zbq := .inl (Array.getElem?_eq_some_iff.1 Zq0).1
        have X2ZX0 : v5w.heap.size < v6w.heap.size ∨ v7w.heap.size ≤ v5w.heap.size := .inl (Array.getElem?_eq_some_iff.1 ZX0).1
        have X0X2 : v5w.heap.size ≤ v6w.heap.size := X0.2
        have X2lo : w.heap.size ≤ v6w.heap.size := b0.size
        have X2 := zAR (R := zBy) mm
        have mbX2 := mm.2
        replace b0 := zAb b0 mbX2
        replace A0 := zAa mbX2 A0
        replace A2 := zAa mbX2 A2
        replace Zq0 := zAa mbX2 Zq0
        replace ZX0 := zAa mbX2 ZX0
        replace X0 := zA6 X0 mbX2
        replace S0 := sight_next S0 mbX2
        replace S1 := sight_next S1 mbX2
        clear mbX2 mm
        obtain ⟨ZX0c0, ZX0c1, ZX0c2, ZX0c3, ZX0c4, ZX0c5, ZX0c6, ZX0c7, ZX0c8⟩ := zAc ZX0
        have ZX0lt := (Array.getElem?_eq_some_iff.1 ZX0).1
        go_wp2_with fail
        clear ZX0c0 ZX0c1 ZX0c2 ZX0c3 ZX0c4 ZX0c5 ZX0c6 ZX0c7 ZX0c8 ZX0lt
        have ZX2 := zAy v7w (.cells #[.int .i64 x2.1, .int .i64 x2.2.1, .int .i64 x2.2.2.1, .int .i64 x2.2.2.2.1, .int .i64 x2.2.2.2.2.1, .slice gax2 x2.2.2.2.2.2.1.length gcx2, .int .i64 x2.2.2.2.2.2.2] 46)
        have bzZX2 := zAf v7w (.cells #[.int .i64 x2.1, .int .i64 x2.2.1, .int .i64 x2.2.2.1, .int .i64 x2.2.2.2.1, .int .i64 x2.2.2.2.2.1, .slice gax2 x2.2.2.2.2.2.1.length gcx2, .int .i64 x2.2.2.2.2.2.2] 46)
        have X0ZX2 : v7w.heap.size < v4w.heap.size ∨ v5w.heap.size ≤ v7w.heap.size := .inr X0.2
        have X2ZX2 : v7w.heap.size < v6w.heap.size ∨ v7w.heap.size ≤ v7w.heap.size := .inr X2.2
        replace b0 := zAb b0 bzZX2
        replace A0 := zAa bzZX2 A0
        replace A2 := zAa bzZX2 A2
        replace Zq0 := zAa bzZX2 Zq0
        replace ZX0 := zAa bzZX2 ZX0
        replace X0 := zA6 X0 bzZX2
        replace X2 := zA6 X2 bzZX2
        replace S0 := sight_next S0 bzZX2
        replace S1 := sight_next S1 bzZX2
        clear bzZX2
        generalize v7w.alloc (.cells #[.int .i64 x2.1, .int .i64 x2.2.1, .int .i64 x2.2.2.1, .int .i64 x2.2.2.2.1, .int .i64 x2.2.2.2.2.1, .slice gax2 x2.2.2.2.2.2.1.length gcx2, .int .i64 x2.2.2.2.2.2.2] 46) = v8w at b0 A0 A2 Zq0 ZX0 ZX2 X0 X2 S0 S1 ⊢
        obtain ⟨ZX0c0, ZX0c1, ZX0c2, ZX0c3, ZX0c4, ZX0c5, ZX0c6, ZX0c7, ZX0c8⟩ := zAc ZX0
        have ZX0lt := (Array.getElem?_eq_some_iff.1 ZX0).1
        obtain ⟨ZX2c0, ZX2c1, ZX2c2, ZX2c3, ZX2c4, ZX2c5, ZX2c6⟩ := zAe ZX2
        have ZX2lt := (Array.getElem?_eq_some_iff.1 ZX2).1
        go_wp2_with fail
        clear ZX0c0 ZX0c1 ZX0c2 ZX0c3 ZX0c4 ZX0c5 ZX0c6 ZX0c7 ZX0c8 ZX0lt ZX2c0 ZX2c1 ZX2c2 ZX2c3 ZX2c4 ZX2c5 ZX2c6 ZX2lt
        refine (CIM.out _ [.slice gax0 x0.1.1.length gcx0, .slice gbx0 x0.1.2.length gdx0, .slice hax0 x0.2.1.length hcx0, .int .i64 x0.2.2.1, .int .i64 x0.2.2.2.1, .int .i64 x0.2.2.2.2.1.1, .int .i64 x0.2.2.2.2.1.2.1, .slice iax0 x0.2.2.2.2.1.2.2.length icx0, .slice jax0 x0.2.2.2.2.2.length jcx0] [.int .i64 x2.1, .int .i64 x2.2.1, .int .i64 x2.2.2.1, .int .i64 x2.2.2.2.1, .int .i64 x2.2.2.2.2.1, .slice gax2 x2.2.2.2.2.2.1.length gcx2, .int .i64 x2.2.2.2.2.2.2] (hh.goes b0) (zAn.own_rd X0.1) hbk0 (zBy.own_rd X2.1) hbk2).mono ?_
        rintro e v9w ⟨ds0, ds1, rfl, pl, mm⟩
        have pr := pair_rd ((zBP zAn zBp).own_rd mm.1) pl
        clear pl
        obtain ⟨gag0, gcg0, gbg0, gdg0, hag0, hcg0, iag0, icg0, jag0, jcg0, rfl⟩ := zCy (pr.1)
        rw [show zAM [.slice gag0 y0.1.1.length gcg0, .slice gbg0 y0.1.2.length gdg0, .slice hag0 y0.2.1.length hcg0, .int .i64 y0.2.2.1, .int .i64 y0.2.2.2.1, .int .i64 y0.2.2.2.2.1.1, .int .i64 y0.2.2.2.2.1.2.1, .slice iag0 y0.2.2.2.2.1.2.2.length icg0, .slice jag0 y0.2.2.2.2.2.length jcg0] = .agg #[.slice gag0 y0.1.1.length gcg0, .slice gbg0 y0.1.2.length gdg0, .slice hag0 y0.2.1.length hcg0, .int .i64 y0.2.2.1, .int .i64 y0.2.2.2.1, .int .i64 y0.2.2.2.2.1.1, .int .i64 y0.2.2.2.2.1.2.1, .slice iag0 y0.2.2.2.2.1.2.2.length icg0, .slice jag0 y0.2.2.2.2.2.length jcg0] from rfl]
        have rr := pr.2
        obtain ⟨gag1, gcg1, ro, -, -, -⟩ := rr
        obtain rfl := ro
        rw [show zEc [.slice gag1 y1.length gcg1] = .slice gag1 y1.length gcg1 from rfl]
        clear pr
        have GGS0 : v4w.heap.size ≤ v8w.heap.size := sight_lt S0
        have GGS1 : v4w.heap.size ≤ v8w.heap.size := sight_lt S1
        have GGA0 : w.heap.size < v8w.heap.size ∨ v9w.heap.size ≤ w.heap.size := .inl (Array.getElem?_eq_some_iff.1 A0).1
        have GGA2 : w.heap.size + 1 < v8w.heap.size ∨ v9w.heap.size ≤ w.heap.size + 1 := .inl (Array.getElem?_eq_some_iff.1 A2).1
        have GGZq0 : zbq < v8w.heap.size ∨ v9w.heap.size ≤ zbq := .inl (Array.getElem?_eq_some_iff.1 Zq0).1
        have GGZX0 : v5w.heap.size < v8w.heap.size ∨ v9w.heap.size ≤ v5w.heap.size := .inl (Array.getElem?_eq_some_iff.1 ZX0).1
        have GGZX2 : v7w.heap.size < v8w.heap.size ∨ v9w.heap.size ≤ v7w.heap.size := .inl (Array.getElem?_eq_some_iff.1 ZX2).1
        have X0GG : v5w.heap.size ≤ v8w.heap.size := X0.2
        have X2GG : v7w.heap.size ≤ v8w.heap.size := X2.2
        have GGlo : w.heap.size ≤ v8w.heap.size := b0.size
        have GG := zAR (R := (zBP zAn zBp)) mm
        have mbGG := mm.2
        replace b0 := zAb b0 mbGG
        replace A0 := zAa mbGG A0
        replace A2 := zAa mbGG A2
        replace Zq0 := zAa mbGG Zq0
        replace ZX0 := zAa mbGG ZX0
        replace ZX2 := zAa mbGG ZX2
        replace X0 := zA6 X0 mbGG
        replace X2 := zA6 X2 mbGG
        replace S0 := sight_next S0 mbGG
        replace S1 := sight_next S1 mbGG
        clear mbGG mm
        obtain ⟨Zq0c0, Zq0c1, Zq0c2, Zq0c3, Zq0c4, Zq0c5, Zq0c6, Zq0c7, Zq0c8⟩ := zAc Zq0
        have Zq0lt := (Array.getElem?_eq_some_iff.1 Zq0).1
        go_wp2_with fail
        clear Zq0c0 Zq0c1 Zq0c2 Zq0c3 Zq0c4 Zq0c5 Zq0c6 Zq0c7 Zq0c8 Zq0lt
        have ZG0 := zAy v9w (.cells #[.slice gag0 y0.1.1.length gcg0, .slice gbg0 y0.1.2.length gdg0, .slice hag0 y0.2.1.length hcg0, .int .i64 y0.2.2.1, .int .i64 y0.2.2.2.1, .int .i64 y0.2.2.2.2.1.1, .int .i64 y0.2.2.2.2.1.2.1, .slice iag0 y0.2.2.2.2.1.2.2.length icg0, .slice jag0 y0.2.2.2.2.2.length jcg0] 41)
        have bzZG0 := zAf v9w (.cells #[.slice gag0 y0.1.1.length gcg0, .slice gbg0 y0.1.2.length gdg0, .slice hag0 y0.2.1.length hcg0, .int .i64 y0.2.2.1, .int .i64 y0.2.2.2.1, .int .i64 y0.2.2.2.2.1.1, .int .i64 y0.2.2.2.2.1.2.1, .slice iag0 y0.2.2.2.2.1.2.2.length icg0, .slice jag0 y0.2.2.2.2.2.length jcg0] 41)
        have X0ZG0 : v9w.heap.size < v4w.heap.size ∨ v5w.heap.size ≤ v9w.heap.size := .inr X0.2
        have X2ZG0 : v9w.heap.size < v6w.heap.size ∨ v7w.heap.size ≤ v9w.heap.size := .inr X2.2
        have GGZG0 : v9w.heap.size < v8w.heap.size ∨ v9w.heap.size ≤ v9w.heap.size := .inr GG.2
        replace b0 := zAb b0 bzZG0
        replace A0 := zAa bzZG0 A0
        replace A2 := zAa bzZG0 A2
        replace Zq0 := zAa bzZG0 Zq0
        replace ZX0 := zAa bzZG0 ZX0
        replace ZX2 := zAa bzZG0 ZX2
        replace X0 := zA6 X0 bzZG0
        replace X2 := zA6 X2 bzZG0
        replace GG := zA6 GG bzZG0
        replace S0 := sight_next S0 bzZG0
        replace S1 := sight_next S1 bzZG0
        clear bzZG0
        generalize v9w.alloc (.cells #[.slice gag0 y0.1.1.length gcg0, .slice gbg0 y0.1.2.length gdg0, .slice hag0 y0.2.1.length hcg0, .int .i64 y0.2.2.1, .int .i64 y0.2.2.2.1, .int .i64 y0.2.2.2.2.1.1, .int .i64 y0.2.2.2.2.1.2.1, .slice iag0 y0.2.2.2.2.1.2.2.length icg0, .slice jag0 y0.2.2.2.2.2.length jcg0] 41) = v10w at b0 A0 A2 Zq0 ZX0 ZX2 ZG0 X0 X2 GG S0 S1 ⊢
        obtain ⟨Zq0c0, Zq0c1, Zq0c2, Zq0c3, Zq0c4, Zq0c5, Zq0c6, Zq0c7, Zq0c8⟩ := zAc Zq0
        have Zq0lt := (Array.getElem?_eq_some_iff.1 Zq0).1
        obtain ⟨ZG0c0, ZG0c1, ZG0c2, ZG0c3, ZG0c4, ZG0c5, ZG0c6, ZG0c7, ZG0c8⟩ := zAc ZG0
        have ZG0lt := (Array.getElem?_eq_some_iff.1 ZG0).1
        go_wp2_with fail
        clear Zq0c0 Zq0c1 Zq0c2 Zq0c3 Zq0c4 Zq0c5 Zq0c6 Zq0c7 Zq0c8 Zq0lt ZG0c0 ZG0c1 ZG0c2 ZG0c3 ZG0c4 ZG0c5 ZG0c6 ZG0c7 ZG0c8 ZG0lt
        refine (eqCore_u [.slice gag0 y0.1.1.length gcg0, .slice gbg0 y0.1.2.length gdg0, .slice hag0 y0.2.1.length hcg0, .int .i64 y0.2.2.1, .int .i64 y0.2.2.2.1, .int .i64 y0.2.2.2.2.1.1, .int .i64 y0.2.2.2.2.1.2.1, .slice iag0 y0.2.2.2.2.1.2.2.length icg0, .slice jag0 y0.2.2.2.2.2.length jcg0] [.slice gaq0 y0.1.1.length gcq0, .slice gbq0 y0.1.2.length gdq0, .slice haq0 y0.2.1.length hcq0, .int .i64 y0.2.2.1, .int .i64 y0.2.2.2.1, .int .i64 y0.2.2.2.2.1.1, .int .i64 y0.2.2.2.2.1.2.1, .slice iaq0 y0.2.2.2.2.1.2.2.length icq0, .slice jaq0 y0.2.2.2.2.2.length jcq0] y0 _ (pair_rd ((zBP zAn zBp).own_rd GG.1) rfl).1 (sight_rd S0) hl0).mono ?_
        rintro e v11w ⟨rfl, bq⟩
        replace b0 := zAb b0 bq
        replace A0 := zAa bq A0
        replace A2 := zAa bq A2
        replace Zq0 := zAa bq Zq0
        replace ZX0 := zAa bq ZX0
        replace ZX2 := zAa bq ZX2
        replace ZG0 := zAa bq ZG0
        replace X0 := zA6 X0 bq
        replace X2 := zA6 X2 bq
        replace GG := zA6 GG bq
        replace S0 := sight_next S0 bq
        replace S1 := sight_next S1 bq
        clear bq
        go_wp2_with fail
        refine (eqMsgs_u [.slice gag1 y1.length gcg1] [.slice gaq1 y1.length gcq1] y1 _ (pair_rd ((zBP zAn zBp).own_rd GG.1) rfl).2 (sight_rd S1) hl1).mono ?_
        rintro e v12w ⟨rfl, bq⟩
        replace b0 := zAb b0 bq
        replace A0 := zAa bq A0
        replace A2 := zAa bq A2
        replace Zq0 := zAa bq Zq0
        replace ZX0 := zAa bq ZX0
        replace ZX2 := zAa bq ZX2
        replace ZG0 := zAa bq ZG0
        replace X0 := zA6 X0 bq
        replace X2 := zA6 X2 bq
        replace GG := zA6 GG bq
        replace S0 := sight_next S0 bq
        replace S1 := sight_next S1 bq
        clear bq
        go_upto_region 14 with fail
        go_cut [73] (fun q wx => q = .bool false ∧ Below w.heap.size w wx ∧ wx.heap[w.heap.size]? = some (.cells #[.slice gaz0 x0.1.1.length gcz0, .slice gbz0 x0.1.2.length gdz0, .slice haz0 x0.2.1.length hcz0, .int .i64 x0.2.2.1, .int .i64 x0.2.2.2.1, .int .i64 x0.2.2.2.2.1.1, .int .i64 x0.2.2.2.2.1.2.1, .slice iaz0 x0.2.2.2.2.1.2.2.length icz0, .slice jaz0 x0.2.2.2.2.2.length jcz0] 30) ∧ wx.heap[w.heap.size + 1]? = some (.cells #[.int .i64 x2.1, .int .i64 x2.2.1, .int .i64 x2.2.2.1, .int .i64 x2.2.2.2.1, .int .i64 x2.2.2.2.2.1, .slice gaz2 x2.2.2.2.2.2.1.length gcz2, .int .i64 x2.2.2.2.2.2.2] 32) ∧ wx.heap[zbq]? = some (.cells #[.slice gaq0 y0.1.1.length gcq0, .slice gbq0 y0.1.2.length gdq0, .slice haq0 y0.2.1.length hcq0, .int .i64 y0.2.2.1, .int .i64 y0.2.2.2.1, .int .i64 y0.2.2.2.2.1.1, .int .i64 y0.2.2.2.2.1.2.1, .slice iaq0 y0.2.2.2.2.1.2.2.length icq0, .slice jaq0 y0.2.2.2.2.2.length jcq0] 41) ∧ wx.heap[v5w.heap.size]? = some (.cells #[.slice gax0 x0.1.1.length gcx0, .slice gbx0 x0.1.2.length gdx0, .slice hax0 x0.2.1.length hcx0, .int .i64 x0.2.2.1, .int .i64 x0.2.2.2.1, .int .i64 x0.2.2.2.2.1.1, .int .i64 x0.2.2.2.2.1.2.1, .slice iax0 x0.2.2.2.2.1.2.2.length icx0, .slice jax0 x0.2.2.2.2.2.length jcx0] 41) ∧ wx.heap[v7w.heap.size]? = some (.cells #[.int .i64 x2.1, .int .i64 x2.2.1, .int .i64 x2.2.2.1, .int .i64 x2.2.2.2.1, .int .i64 x2.2.2.2.2.1, .slice gax2 x2.2.2.2.2.2.1.length gcx2, .int .i64 x2.2.2.2.2.2.2] 46) ∧ wx.heap[v9w.heap.size]? = some (.cells #[.slice gag0 y0.1.1.length gcg0, .slice gbg0 y0.1.2.length gdg0, .slice hag0 y0.2.1.length hcg0, .int .i64 y0.2.2.1, .int .i64 y0.2.2.2.1, .int .i64 y0.2.2.2.2.1.1, .int .i64 y0.2.2.2.2.1.2.1, .slice iag0 y0.2.2.2.2.1.2.2.length icg0, .slice jag0 y0.2.2.2.2.2.length jcg0] 41) ∧ zCp zAn (v4w.heap.size) (v5w.heap.size) wx ([.slice gax0 x0.1.1.length gcx0, .slice gbx0 x0.1.2.length gdx0, .slice hax0 x0.2.1.length hcx0, .int .i64 x0.2.2.1, .int .i64 x0.2.2.2.1, .int .i64 x0.2.2.2.2.1.1, .int .i64 x0.2.2.2.2.1.2.1, .slice iax0 x0.2.2.2.2.1.2.2.length icx0, .slice jax0 x0.2.2.2.2.2.length jcx0]) (x0) ∧ zCp zBy (v6w.heap.size) (v7w.heap.size) wx ([.int .i64 x2.1, .int .i64 x2.2.1, .int .i64 x2.2.2.1, .int .i64 x2.2.2.2.1, .int .i64 x2.2.2.2.2.1, .slice gax2 x2.2.2.2.2.2.1.length gcx2, .int .i64 x2.2.2.2.2.2.2]) (x2) ∧ zCp (zBP zAn zBp) (v8w.heap.size) (v9w.heap.size) wx ([.slice gag0 y0.1.1.length gcg0, .slice gbg0 y0.1.2.length gdg0, .slice hag0 y0.2.1.length hcg0, .int .i64 y0.2.2.1, .int .i64 y0.2.2.2.1, .int .i64 y0.2.2.2.2.1.1, .int .i64 y0.2.2.2.2.1.2.1, .slice iag0 y0.2.2.2.2.1.2.2.length icg0, .slice jag0 y0.2.2.2.2.2.length jcg0] ++ [.slice gag1 y1.length gcg1]) ((y0, y1)) ∧ zHU zAn v4w.heap.size wx [.slice gaq0 y0.1.1.length gcq0, .slice gbq0 y0.1.2.length gdq0, .slice haq0 y0.2.1.length hcq0, .int .i64 y0.2.2.1, .int .i64 y0.2.2.2.1, .int .i64 y0.2.2.2.2.1.1, .int .i64 y0.2.2.2.2.1.2.1, .slice iaq0 y0.2.2.2.2.1.2.2.length icq0, .slice jaq0 y0.2.2.2.2.2.length jcq0] y0 ∧ zHU zBp v4w.heap.size wx [.slice gaq1 y1.length gcq1] y1)
        case first =>
          replace b0 := b0.drew
          replace X0 := zCJ X0
          replace X2 := zCJ X2
          replace GG := zCJ GG
          replace S0 := sight_drew S0
          replace S1 := sight_drew S1
          obtain ⟨A0c0, A0c1, A0c2, A0c3, A0c4, A0c5, A0c6, A0c7, A0c8⟩ := zAc A0
          have A0lt := (Array.getElem?_eq_some_iff.1 A0).1
          obtain ⟨ZX0c0, ZX0c1, ZX0c2, ZX0c3, ZX0c4, ZX0c5, ZX0c6, ZX0c7, ZX0c8⟩ := zAc ZX0
          have ZX0lt := (Array.getElem?_eq_some_iff.1 ZX0).1
          go_region_with (first | (go_at_call 7; refine (toCore_u [.slice gaz0 x0.1.1.length gcz0, .slice gbz0 x0.1.2.length gdz0, .slice haz0 x0.2.1.length hcz0, .int .i64 x0.2.2.1, .int .i64 x0.2.2.2.1, .int .i64 x0.2.2.2.2.1.1, .int .i64 x0.2.2.2.2.1.2.1, .slice iaz0 x0.2.2.2.2.1.2.2.length icz0, .slice jaz0 x0.2.2.2.2.2.length jcz0] x0 _ (HR0.out _ b0) hbk0).mono ?_; rintro e wq ⟨ds, rfl, mm⟩; obtain ⟨gay, gcy, gby, gdy, hay, hcy, iay, icy, jay, jcy, rfl⟩ := zCy (zAn.own_rd mm.1); rw [show zAM [.slice gay x0.1.1.length gcy, .slice gby x0.1.2.length gdy, .slice hay x0.2.1.length hcy, .int .i64 x0.2.2.1, .int .i64 x0.2.2.2.1, .int .i64 x0.2.2.2.2.1.1, .int .i64 x0.2.2.2.2.1.2.1, .slice iay x0.2.2.2.2.1.2.2.length icy, .slice jay x0.2.2.2.2.2.length jcy] = .agg #[.slice gay x0.1.1.length gcy, .slice gby x0.1.2.length gdy, .slice hay x0.2.1.length hcy, .int .i64 x0.2.2.1, .int .i64 x0.2.2.2.1, .int .i64 x0.2.2.2.2.1.1, .int .i64 x0.2.2.2.2.1.2.1, .slice iay x0.2.2.2.2.1.2.2.length icy, .slice jay x0.2.2.2.2.2.length jcy] from rfl]; have YY := zAn.own_rd mm.1; have mb := mm.2; replace b0 := zAb b0 mb; replace A0 := zAa mb A0; replace A2 := zAa mb A2; replace Zq0 := zAa mb Zq0; replace ZX0 := zAa mb ZX0; replace ZX2 := zAa mb ZX2; replace ZG0 := zAa mb ZG0; replace X0 := zA6 X0 mb; replace X2 := zA6 X2 mb; replace GG := zA6 GG mb; replace S0 := sight_next S0 mb; replace S1 := sight_next S1 mb; clear mb mm; clear A0c0 A0c1 A0c2 A0c3 A0c4 A0c5 A0c6 A0c7 A0c8 A0lt ZX0c0 ZX0c1 ZX0c2 ZX0c3 ZX0c4 ZX0c5 ZX0c6 ZX0c7 ZX0c8 ZX0lt; obtain ⟨A0c0, A0c1, A0c2, A0c3, A0c4, A0c5, A0c6, A0c7, A0c8⟩ := zAc A0; have A0lt := (Array.getElem?_eq_some_iff.1 A0).1; obtain ⟨ZX0c0, ZX0c1, ZX0c2, ZX0c3, ZX0c4, ZX0c5, ZX0c6, ZX0c7, ZX0c8⟩ := zAc ZX0; have ZX0lt := (Array.getElem?_eq_some_iff.1 ZX0).1) | (go_at_call 10; refine (eqCore_u [.slice gax0 x0.1.1.length gcx0, .slice gbx0 x0.1.2.length gdx0, .slice hax0 x0.2.1.length hcx0, .int .i64 x0.2.2.1, .int .i64 x0.2.2.2.1, .int .i64 x0.2.2.2.2.1.1, .int .i64 x0.2.2.2.2.1.2.1, .slice iax0 x0.2.2.2.2.1.2.2.length icx0, .slice jax0 x0.2.2.2.2.2.length jcx0] [.slice gay x0.1.1.length gcy, .slice gby x0.1.2.length gdy, .slice hay x0.2.1.length hcy, .int .i64 x0.2.2.1, .int .i64 x0.2.2.2.1, .int .i64 x0.2.2.2.2.1.1, .int .i64 x0.2.2.2.2.1.2.1, .slice iay x0.2.2.2.2.1.2.2.length icy, .slice jay x0.2.2.2.2.2.length jcy] x0 _ (zAn.own_rd X0.1) YY hbl0).mono ?_; rintro e wq ⟨rfl, mb⟩; replace b0 := zAb b0 mb; replace A0 := zAa mb A0; replace A2 := zAa mb A2; replace Zq0 := zAa mb Zq0; replace ZX0 := zAa mb ZX0; replace ZX2 := zAa mb ZX2; replace ZG0 := zAa mb ZG0; replace X0 := zA6 X0 mb; replace X2 := zA6 X2 mb; replace GG := zA6 GG mb; replace S0 := sight_next S0 mb; replace S1 := sight_next S1 mb; clear mb; clear A0c0 A0c1 A0c2 A0c3 A0c4 A0c5 A0c6 A0c7 A0c8 A0lt ZX0c0 ZX0c1 ZX0c2 ZX0c3 ZX0c4 ZX0c5 ZX0c6 ZX0c7 ZX0c8 ZX0lt; obtain ⟨A0c0, A0c1, A0c2, A0c3, A0c4, A0c5, A0c6, A0c7, A0c8⟩ := zAc A0; have A0lt := (Array.getElem?_eq_some_iff.1 A0).1; obtain ⟨ZX0c0, ZX0c1, ZX0c2, ZX0c3, ZX0c4, ZX0c5, ZX0c6, ZX0c7, ZX0c8⟩ := zAc ZX0; have ZX0lt := (Array.getElem?_eq_some_iff.1 ZX0).1))
          all_goals
            go_wp2_with fail
            go_meet
            exact ⟨rfl, b0, A0, A2, Zq0, ZX0, ZX2, ZG0, X0, X2, GG, S0, S1⟩
        case rest =>
          clear b0 A0 A2 Zq0 ZX0 ZX2 ZG0 X0 X2 GG S0 S1
          obtain ⟨rfl, b0, A0, A2, Zq0, ZX0, ZX2, ZG0, X0, X2, GG, S0, S1⟩ := hcut
          generalize wc = v13w at b0 A0 A2 Zq0 ZX0 ZX2 ZG0 X0 X2 GG S0 S1 ⊢
          go_upto_region 16 with fail
          go_cut [78] (fun q wx => q = .bool false ∧ Below w.heap.size w wx ∧ wx.heap[w.heap.size]? = some (.cells #[.slice gaz0 x0.1.1.length gcz0, .slice gbz0 x0.1.2.length gdz0, .slice haz0 x0.2.1.length hcz0, .int .i64 x0.2.2.1, .int .i64 x0.2.2.2.1, .int .i64 x0.2.2.2.2.1.1, .int .i64 x0.2.2.2.2.1.2.1, .slice iaz0 x0.2.2.2.2.1.2.2.length icz0, .slice jaz0 x0.2.2.2.2.2.length jcz0] 30) ∧ wx.heap[w.heap.size + 1]? = some (.cells #[.int .i64 x2.1, .int .i64 x2.2.1, .int .i64 x2.2.2.1, .int .i64 x2.2.2.2.1, .int .i64 x2.2.2.2.2.1, .slice gaz2 x2.2.2.2.2.2.1.length gcz2, .int .i64 x2.2.2.2.2.2.2] 32) ∧ wx.heap[zbq]? = some (.cells #[.slice gaq0 y0.1.1.length gcq0, .slice gbq0 y0.1.2.length gdq0, .slice haq0 y0.2.1.length hcq0, .int .i64 y0.2.2.1, .int .i64 y0.2.2.2.1, .int .i64 y0.2.2.2.2.1.1, .int .i64 y0.2.2.2.2.1.2.1, .slice iaq0 y0.2.2.2.2.1.2.2.length icq0, .slice jaq0 y0.2.2.2.2.2.length jcq0] 41) ∧ wx.heap[v5w.heap.size]? = some (.cells #[.slice gax0 x0.1.1.length gcx0, .slice gbx0 x0.1.2.length gdx0, .slice hax0 x0.2.1.length hcx0, .int .i64 x0.2.2.1, .int .i64 x0.2.2.2.1, .int .i64 x0.2.2.2.2.1.1, .int .i64 x0.2.2.2.2.1.2.1, .slice iax0 x0.2.2.2.2.1.2.2.length icx0, .slice jax0 x0.2.2.2.2.2.length jcx0] 41) ∧ wx.heap[v7w.heap.size]? = some (.cells #[.int .i64 x2.1, .int .i64 x2.2.1, .int .i64 x2.2.2.1, .int .i64 x2.2.2.2.1, .int .i64 x2.2.2.2.2.1, .slice gax2 x2.2.2.2.2.2.1.length gcx2, .int .i64 x2.2.2.2.2.2.2] 46) ∧ wx.heap[v9w.heap.size]? = some (.cells #[.slice gag0 y0.1.1.length gcg0, .slice gbg0 y0.1.2.length gdg0, .slice hag0 y0.2.1.length hcg0, .int .i64 y0.2.2.1, .int .i64 y0.2.2.2.1, .int .i64 y0.2.2.2.2.1.1, .int .i64 y0.2.2.2.2.1.2.1, .slice iag0 y0.2.2.2.2.1.2.2.length icg0, .slice jag0 y0.2.2.2.2.2.length jcg0] 41) ∧ zCp zAn (v4w.heap.size) (v5w.heap.size) wx ([.slice gax0 x0.1.1.length gcx0, .slice gbx0 x0.1.2.length gdx0, .slice hax0 x0.2.1.length hcx0, .int .i64 x0.2.2.1, .int .i64 x0.2.2.2.1, .int .i64 x0.2.2.2.2.1.1, .int .i64 x0.2.2.2.2.1.2.1, .slice iax0 x0.2.2.2.2.1.2.2.length icx0, .slice jax0 x0.2.2.2.2.2.length jcx0]) (x0) ∧ zCp zBy (v6w.heap.size) (v7w.heap.size) wx ([.int .i64 x2.1, .int .i64 x2.2.1, .int .i64 x2.2.2.1, .int .i64 x2.2.2.2.1, .int .i64 x2.2.2.2.2.1, .slice gax2 x2.2.2.2.2.2.1.length gcx2, .int .i64 x2.2.2.2.2.2.2]) (x2) ∧ zCp (zBP zAn zBp) (v8w.heap.size) (v9w.heap.size) wx ([.slice gag0 y0.1.1.length gcg0, .slice gbg0 y0.1.2.length gdg0, .slice hag0 y0.2.1.length hcg0, .int .i64 y0.2.2.1, .int .i64 y0.2.2.2.1, .int .i64 y0.2.2.2.2.1.1, .int .i64 y0.2.2.2.2.1.2.1, .slice iag0 y0.2.2.2.2.1.2.2.length icg0, .slice jag0 y0.2.2.2.2.2.length jcg0] ++ [.slice gag1 y1.length gcg1]) ((y0, y1)) ∧ zHU zAn v4w.heap.size wx [.slice gaq0 y0.1.1.length gcq0, .slice gbq0 y0.1.2.length gdq0, .slice haq0 y0.2.1.length hcq0, .int .i64 y0.2.2.1, .int .i64 y0.2.2.2.1, .int .i64 y0.2.2.2.2.1.1, .int .i64 y0.2.2.2.2.1.2.1, .slice iaq0 y0.2.2.2.2.1.2.2.length icq0, .slice jaq0 y0.2.2.2.2.2.length jcq0] y0 ∧ zHU zBp v4w.heap.size wx [.slice gaq1 y1.length gcq1] y1)
          case first =>
            replace b0 := b0.drew
            replace X0 := zCJ X0
            replace X2 := zCJ X2
            replace GG := zCJ GG
            replace S0 := sight_drew S0
            replace S1 := sight_drew S1
            obtain ⟨A2c0, A2c1, A2c2, A2c3, A2c4, A2c5, A2c6⟩ := zAe A2
            have A2lt := (Array.getElem?_eq_some_iff.1 A2).1
            obtain ⟨ZX2c0, ZX2c1, ZX2c2, ZX2c3, ZX2c4, ZX2c5, ZX2c6⟩ := zAe ZX2
            have ZX2lt := (Array.getElem?_eq_some_iff.1 ZX2).1
            go_region_with (first | (go_at_call 8; refine (toMsg_u [.int .i64 x2.1, .int .i64 x2.2.1, .int .i64 x2.2.2.1, .int .i64 x2.2.2.2.1, .int .i64 x2.2.2.2.2.1, .slice gaz2 x2.2.2.2.2.2.1.length gcz2, .int .i64 x2.2.2.2.2.2.2] x2 _ (HR2.out _ b0) hbk2).mono ?_; rintro e wq ⟨ds, rfl, mm⟩; obtain ⟨gay, gcy, rfl⟩ := msg_shape (zBy.own_rd mm.1); rw [show zAM [.int .i64 x2.1, .int .i64 x2.2.1, .int .i64 x2.2.2.1, .int .i64 x2.2.2.2.1, .int .i64 x2.2.2.2.2.1, .slice gay x2.2.2.2.2.2.1.length gcy, .int .i64 x2.2.2.2.2.2.2] = .agg #[.int .i64 x2.1, .int .i64 x2.2.1, .int .i64 x2.2.2.1, .int .i64 x2.2.2.2.1, .int .i64 x2.2.2.2.2.1, .slice gay x2.2.2.2.2.2.1.length gcy, .int .i64 x2.2.2.2.2.2.2] from rfl]; have YY := zBy.own_rd mm.1; have mb := mm.2; replace b0 := zAb b0 mb; replace A0 := zAa mb A0; replace A2 := zAa mb A2; replace Zq0 := zAa mb Zq0; replace ZX0 := zAa mb ZX0; replace ZX2 := zAa mb ZX2; replace ZG0 := zAa mb ZG0; replace X0 := zA6 X0 mb; replace X2 := zA6 X2 mb; replace GG := zA6 GG mb; replace S0 := sight_next S0 mb; replace S1 := sight_next S1 mb; clear mb mm; clear A2c0 A2c1 A2c2 A2c3 A2c4 A2c5 A2c6 A2lt ZX2c0 ZX2c1 ZX2c2 ZX2c3 ZX2c4 ZX2c5 ZX2c6 ZX2lt; obtain ⟨A2c0, A2c1, A2c2, A2c3, A2c4, A2c5, A2c6⟩ := zAe A2; have A2lt := (Array.getElem?_eq_some_iff.1 A2).1; obtain ⟨ZX2c0, ZX2c1, ZX2c2, ZX2c3, ZX2c4, ZX2c5, ZX2c6⟩ := zAe ZX2; have ZX2lt := (Array.getElem?_eq_some_iff.1 ZX2).1) | (go_at_call 12; refine (eqMsg_u [.int .i64 x2.1, .int .i64 x2.2.1, .int .i64 x2.2.2.1, .int .i64 x2.2.2.2.1, .int .i64 x2.2.2.2.2.1, .slice gax2 x2.2.2.2.2.2.1.length gcx2, .int .i64 x2.2.2.2.2.2.2] [.int .i64 x2.1, .int .i64 x2.2.1, .int .i64 x2.2.2.1, .int .i64 x2.2.2.2.1, .int .i64 x2.2.2.2.2.1, .slice gay x2.2.2.2.2.2.1.length gcy, .int .i64 x2.2.2.2.2.2.2] x2 _ (zBy.own_rd X2.1) YY hbl2).mono ?_; rintro e wq ⟨rfl, mb⟩; replace b0 := zAb b0 mb; replace A0 := zAa mb A0; replace A2 := zAa mb A2; replace Zq0 := zAa mb Zq0; replace ZX0 := zAa mb ZX0; replace ZX2 := zAa mb ZX2; replace ZG0 := zAa mb ZG0; replace X0 := zA6 X0 mb; replace X2 := zA6 X2 mb; replace GG := zA6 GG mb; replace S0 := sight_next S0 mb; replace S1 := sight_next S1 mb; clear mb; clear A2c0 A2c1 A2c2 A2c3 A2c4 A2c5 A2c6 A2lt ZX2c0 ZX2c1 ZX2c2 ZX2c3 ZX2c4 ZX2c5 ZX2c6 ZX2lt; obtain ⟨A2c0, A2c1, A2c2, A2c3, A2c4, A2c5, A2c6⟩ := zAe A2; have A2lt := (Array.getElem?_eq_some_iff.1 A2).1; obtain ⟨ZX2c0, ZX2c1, ZX2c2, ZX2c3, ZX2c4, ZX2c5, ZX2c6⟩ := zAe ZX2; have ZX2lt := (Array.getElem?_eq_some_iff.1 ZX2).1))
            all_goals
              go_wp2_with fail
              go_meet
              exact ⟨rfl, b0, A0, A2, Zq0, ZX0, ZX2, ZG0, X0, X2, GG, S0, S1⟩
          case rest =>
            clear b0 A0 A2 Zq0 ZX0 ZX2 ZG0 X0 X2 GG S0 S1
            obtain ⟨rfl, b0, A0, A2, Zq0, ZX0, ZX2, ZG0, X0, X2, GG, S0, S1⟩ := hcut
            generalize wc = v14w at b0 A0 A2 Zq0 ZX0 ZX2 ZG0 X0 X2 GG S0 S1 ⊢
            obtain ⟨ZX0c0, ZX0c1, ZX0c2, ZX0c3, ZX0c4, ZX0c5, ZX0c6, ZX0c7, ZX0c8⟩ := zAc ZX0
            have ZX0lt := (Array.getElem?_eq_some_iff.1 ZX0).1
            go_wp2_with fail
            clear ZX0c0 ZX0c1 ZX0c2 ZX0c3 ZX0c4 ZX0c5 ZX0c6 ZX0c7 ZX0c8 ZX0lt
            refine (mkCore_u _ [.slice gax0 x0.1.1.length gcx0, .slice gbx0 x0.1.2.length gdx0, .slice hax0 x0.2.1.length hcx0, .int .i64 x0.2.2.1, .int .i64 x0.2.2.2.1, .int .i64 x0.2.2.2.2.1.1, .int .i64 x0.2.2.2.2.1.2.1, .slice iax0 x0.2.2.2.2.1.2.2.length icx0, .slice jax0 x0.2.2.2.2.2.length jcx0] x0 (1) _ X0.1 (by omega) (by rw [HKX0.out]; omega) hbl0).mono ?_
            rintro e v15w ⟨rfl, gm, ch⟩
            rw [HKX0.out]
            replace b0 := chg_b0 b0 ch X0lo
            replace A0 := row_chg A0 ch X0A0
            replace A2 := row_chg A2 ch X0A2
            replace Zq0 := row_chg Zq0 ch X0Zq0
            replace ZX0 := row_chg ZX0 ch X0ZX0
            replace ZX2 := row_chg ZX2 ch X0ZX2
            replace ZG0 := row_chg ZG0 ch X0ZG0
            replace X2 := owned_chg X2 ch (.inr X0X2)
            replace GG := owned_chg GG ch (.inr X0GG)
            replace S0 := sight_chg S0 ch X0S0
            replace S1 := sight_chg S1 ch X0S1
            replace X0 : zCp zAn (v4w.heap.size) (v5w.heap.size) v15w ([.slice gax0 x0.1.1.length gcx0, .slice gbx0 x0.1.2.length gdx0, .slice hax0 x0.2.1.length hcx0, .int .i64 x0.2.2.1, .int .i64 x0.2.2.2.1, .int .i64 x0.2.2.2.2.1.1, .int .i64 x0.2.2.2.2.1.2.1, .slice iax0 x0.2.2.2.2.1.2.2.length icx0, .slice jax0 x0.2.2.2.2.2.length jcx0]) (zEe.mV (1) x0) := And.intro gm (Nat.le_trans X0.2 ch.size)
            clear ch gm
            obtain ⟨ZX2c0, ZX2c1, ZX2c2, ZX2c3, ZX2c4, ZX2c5, ZX2c6⟩ := zAe ZX2
            have ZX2lt := (Array.getElem?_eq_some_iff.1 ZX2).1
            go_wp2_with fail
            clear ZX2c0 ZX2c1 ZX2c2 ZX2c3 ZX2c4 ZX2c5 ZX2c6 ZX2lt
            refine (mkMsg_u _ [.int .i64 x2.1, .int .i64 x2.2.1, .int .i64 x2.2.2.1, .int .i64 x2.2.2.2.1, .int .i64 x2.2.2.2.2.1, .slice gax2 x2.2.2.2.2.2.1.length gcx2, .int .i64 x2.2.2.2.2.2.2] x2 (1 + (kx0 : Int)) _ X2.1 (by omega) (by rw [HKX2.out]; omega) hbl2).mono ?_
            rintro e v16w ⟨rfl, gm, ch⟩
            rw [HKX2.out]
            replace b0 := chg_b0 b0 ch X2lo
            replace A0 := row_chg A0 ch X2A0
            replace A2 := row_chg A2 ch X2A2
            replace Zq0 := row_chg Zq0 ch X2Zq0
            replace ZX0 := row_chg ZX0 ch X2ZX0
            replace ZX2 := row_chg ZX2 ch X2ZX2
            replace ZG0 := row_chg ZG0 ch X2ZG0
            replace X0 := owned_chg X0 ch (.inl X0X2)
            replace GG := owned_chg GG ch (.inr X2GG)
            replace S0 := sight_chg S0 ch X2S0
            replace S1 := sight_chg S1 ch X2S1
            replace X2 : zCp zBy (v6w.heap.size) (v7w.heap.size) v16w ([.int .i64 x2.1, .int .i64 x2.2.1, .int .i64 x2.2.2.1, .int .i64 x2.2.2.2.1, .int .i64 x2.2.2.2.2.1, .slice gax2 x2.2.2.2.2.2.1.length gcx2, .int .i64 x2.2.2.2.2.2.2]) (zCD.mV (1 + (kx0 : Int)) x2) := And.intro gm (Nat.le_trans X2.2 ch.size)
            clear ch gm
            have nk : ¬ (1 + (kx0 : Int) + (kx2 : Int) < 0) := by omega
            obtain ⟨Zq0c0, Zq0c1, Zq0c2, Zq0c3, Zq0c4, Zq0c5, Zq0c6, Zq0c7, Zq0c8⟩ := zAc Zq0
            have Zq0lt := (Array.getElem?_eq_some_iff.1 Zq0).1
            obtain ⟨ZG0c0, ZG0c1, ZG0c2, ZG0c3, ZG0c4, ZG0c5, ZG0c6, ZG0c7, ZG0c8⟩ := zAc ZG0
            have ZG0lt := (Array.getElem?_eq_some_iff.1 ZG0).1
            go_wp2_with fail
            clear Zq0c0 Zq0c1 Zq0c2 Zq0c3 Zq0c4 Zq0c5 Zq0c6 Zq0c7 Zq0c8 Zq0lt ZG0c0 ZG0c1 ZG0c2 ZG0c3 ZG0c4 ZG0c5 ZG0c6 ZG0c7 ZG0c8 ZG0lt
            refine (eqCore_u [.slice gag0 y0.1.1.length gcg0, .slice gbg0 y0.1.2.length gdg0, .slice hag0 y0.2.1.length hcg0, .int .i64 y0.2.2.1, .int .i64 y0.2.2.2.1, .int .i64 y0.2.2.2.2.1.1, .int .i64 y0.2.2.2.2.1.2.1, .slice iag0 y0.2.2.2.2.1.2.2.length icg0, .slice jag0 y0.2.2.2.2.2.length jcg0] [.slice gaq0 y0.1.1.length gcq0, .slice gbq0 y0.1.2.length gdq0, .slice haq0 y0.2.1.length hcq0, .int .i64 y0.2.2.1, .int .i64 y0.2.2.2.1, .int .i64 y0.2.2.2.2.1.1, .int .i64 y0.2.2.2.2.1.2.1, .slice iaq0 y0.2.2.2.2.1.2.2.length icq0, .slice jaq0 y0.2.2.2.2.2.length jcq0] y0 _ (pair_rd ((zBP zAn zBp).own_rd GG.1) rfl).1 (sight_rd S0) hl0).mono ?_
            rintro e v17w ⟨rfl, bq⟩
            replace b0 := zAb b0 bq
            replace A0 := zAa bq A0
            replace A2 := zAa bq A2
            replace Zq0 := zAa bq Zq0
            replace ZX0 := zAa bq ZX0
            replace ZX2 := zAa bq ZX2
            replace ZG0 := zAa bq ZG0
            replace X0 := zA6 X0 bq
            replace X2 := zA6 X2 bq
            replace GG := zA6 GG bq
            replace S0 := sight_next S0 bq
            replace S1 := sight_next S1 bq
            clear bq
            go_wp2_with fail
            refine (eqMsgs_u [.slice gag1 y1.length gcg1] [.slice gaq1 y1.length gcq1] y1 _ (pair_rd ((zBP zAn zBp).own_rd GG.1) rfl).2 (sight_rd S1) hl1).mono ?_
            rintro e v18w ⟨rfl, bq⟩
            replace b0 := zAb b0 bq
            replace A0 := zAa bq A0
            replace A2 := zAa bq A2
            replace Zq0 := zAa bq Zq0
            replace ZX0 := zAa bq ZX0
            replace ZX2 := zAa bq ZX2
            replace ZG0 := zAa bq ZG0
            replace X0 := zA6 X0 bq
            replace X2 := zA6 X2 bq
            replace GG := zA6 GG bq
            replace S0 := sight_next S0 bq
            replace S1 := sight_next S1 bq
            clear bq
            clear X0
            clear X2
            clear nk
            obtain ⟨ZG0c0, ZG0c1, ZG0c2, ZG0c3, ZG0c4, ZG0c5, ZG0c6, ZG0c7, ZG0c8⟩ := zAc ZG0
            have ZG0lt := (Array.getElem?_eq_some_iff.1 ZG0).1
            go_wp2_with fail
            clear ZG0c0 ZG0c1 ZG0c2 ZG0c3 ZG0c4 ZG0c5 ZG0c6 ZG0c7 ZG0c8 ZG0lt
            refine (mk_fst mkCore_u _ [.slice gag0 y0.1.1.length gcg0, .slice gbg0 y0.1.2.length gdg0, .slice hag0 y0.2.1.length hcg0, .int .i64 y0.2.2.1, .int .i64 y0.2.2.2.1, .int .i64 y0.2.2.2.2.1.1, .int .i64 y0.2.2.2.2.1.2.1, .slice iag0 y0.2.2.2.2.1.2.2.length icg0, .slice jag0 y0.2.2.2.2.2.length jcg0] [.slice gag1 y1.length gcg1] (y0) y1 (1) _ GG.1 rfl (by omega) (by rw [HKY0.out]; omega) hl0).mono ?_
            rintro e v19w ⟨rfl, gm, ch⟩
            rw [HKY0.out]
            replace b0 := chg_b0 b0 ch GGlo
            replace A0 := row_chg A0 ch GGA0
            replace A2 := row_chg A2 ch GGA2
            replace Zq0 := row_chg Zq0 ch GGZq0
            replace ZX0 := row_chg ZX0 ch GGZX0
            replace ZX2 := row_chg ZX2 ch GGZX2
            replace ZG0 := row_chg ZG0 ch GGZG0
            replace S0 := sight_chg S0 ch GGS0
            replace S1 := sight_chg S1 ch GGS1
            replace GG : zCp (zBP zAn zBp) (v8w.heap.size) (v9w.heap.size) v19w ([.slice gag0 y0.1.1.length gcg0, .slice gbg0 y0.1.2.length gdg0, .slice hag0 y0.2.1.length hcg0, .int .i64 y0.2.2.1, .int .i64 y0.2.2.2.1, .int .i64 y0.2.2.2.2.1.1, .int .i64 y0.2.2.2.2.1.2.1, .slice iag0 y0.2.2.2.2.1.2.2.length icg0, .slice jag0 y0.2.2.2.2.2.length jcg0] ++ [.slice gag1 y1.length gcg1]) ((zEe.mV (1) y0, y1)) := And.intro gm (Nat.le_trans GG.2 ch.size)
            clear ch gm
            go_wp2_with fail
            refine (mk_snd mkMsgs_u _ [.slice gag0 y0.1.1.length gcg0, .slice gbg0 y0.1.2.length gdg0, .slice hag0 y0.2.1.length hcg0, .int .i64 y0.2.2.1, .int .i64 y0.2.2.2.1, .int .i64 y0.2.2.2.2.1.1, .int .i64 y0.2.2.2.2.1.2.1, .slice iag0 y0.2.2.2.2.1.2.2.length icg0, .slice jag0 y0.2.2.2.2.2.length jcg0] [.slice gag1 y1.length gcg1] (zEe.mV (1) y0) y1 (1 + (ky0 : Int)) _ GG.1 rfl (by omega) (by rw [HKY1.out]; omega) hl1).mono ?_
            rintro e v20w ⟨rfl, gm, ch⟩
            rw [HKY1.out]
            replace b0 := chg_b0 b0 ch GGlo
            replace A0 := row_chg A0 ch GGA0
            replace A2 := row_chg A2 ch GGA2
            replace Zq0 := row_chg Zq0 ch GGZq0
            replace ZX0 := row_chg ZX0 ch GGZX0
            replace ZX2 := row_chg ZX2 ch GGZX2
            replace ZG0 := row_chg ZG0 ch GGZG0
            replace S0 := sight_chg S0 ch GGS0
            replace S1 := sight_chg S1 ch GGS1
            replace GG : zCp (zBP zAn zBp) (v8w.heap.size) (v9w.heap.size) v20w ([.slice gag0 y0.1.1.length gcg0, .slice gbg0 y0.1.2.length gdg0, .slice hag0 y0.2.1.length hcg0, .int .i64 y0.2.2.1, .int .i64 y0.2.2.2.1, .int .i64 y0.2.2.2.2.1.1, .int .i64 y0.2.2.2.2.1.2.1, .slice iag0 y0.2.2.2.2.1.2.2.length icg0, .slice jag0 y0.2.2.2.2.2.length jcg0] ++ [.slice gag1 y1.length gcg1]) ((zEe.mV (1) y0, zHt.mV (1 + (ky0 : Int)) y1)) := And.intro gm (Nat.le_trans GG.2 ch.size)
            clear ch gm
            obtain ⟨ZG0c0, ZG0c1, ZG0c2, ZG0c3, ZG0c4, ZG0c5, ZG0c6, ZG0c7, ZG0c8⟩ := zAc ZG0
            have ZG0lt := (Array.getElem?_eq_some_iff.1 ZG0).1
            go_wp2_with fail
            clear ZG0c0 ZG0c1 ZG0c2 ZG0c3 ZG0c4 ZG0c5 ZG0c6 ZG0c7 ZG0c8 ZG0lt
            refine (hdCore_u [.slice gag0 y0.1.1.length gcg0, .slice gbg0 y0.1.2.length gdg0, .slice hag0 y0.2.1.length hcg0, .int .i64 y0.2.2.1, .int .i64 y0.2.2.2.1, .int .i64 y0.2.2.2.2.1.1, .int .i64 y0.2.2.2.2.1.2.1, .slice iag0 y0.2.2.2.2.1.2.2.length icg0, .slice jag0 y0.2.2.2.2.2.length jcg0] y0 (1) _ (pair_rd ((zBP zAn zBp).own_rd GG.1) rfl).1 (by omega) (by rw [HKY0.out]; omega) hl0).mono ?_
            rintro e v21w ⟨rfl, bq⟩
            rw [HKY0.out]
            replace b0 := zAb b0 bq
            replace A0 := zAa bq A0
            replace A2 := zAa bq A2
            replace Zq0 := zAa bq Zq0
            replace ZX0 := zAa bq ZX0
            replace ZX2 := zAa bq ZX2
            replace ZG0 := zAa bq ZG0
            replace GG := zA6 GG bq
            replace S0 := sight_next S0 bq
            replace S1 := sight_next S1 bq
            clear bq
            have nh0 : ¬ (1 + (ky0 : Int) < 0) := by omega
            go_wp2_with fail
            refine (hdMsgs_u [.slice gag1 y1.length gcg1] y1 (1 + (ky0 : Int)) _ (pair_rd ((zBP zAn zBp).own_rd GG.1) rfl).2 (by omega) (by rw [HKY1.out]; omega) hl1).mono ?_
            rintro e v22w ⟨rfl, bq⟩
            rw [HKY1.out]
            replace b0 := zAb b0 bq
            replace A0 := zAa bq A0
            replace A2 := zAa bq A2
            replace Zq0 := zAa bq Zq0
            replace ZX0 := zAa bq ZX0
            replace ZX2 := zAa bq ZX2
            replace ZG0 := zAa bq ZG0
            replace GG := zA6 GG bq
            replace S0 := sight_next S0 bq
            replace S1 := sight_next S1 bq
            clear bq
            have nh1 : ¬ (1 + (ky0 : Int) + (ky1 : Int) < 0) := by omega
            go_upto_region 35 with fail
            go_cut [19, 20, 21] (fun p q r wx => RegI v22w y0 y1 y2 p q r wx)
            case first =>
              obtain ⟨A0c0, A0c1, A0c2, A0c3, A0c4, A0c5, A0c6, A0c7, A0c8⟩ := zAc A0
              obtain ⟨A2c0, A2c1, A2c2, A2c3, A2c4, A2c5, A2c6⟩ := zAe A2
              have K : Hid (∀ wx, Below v22w.heap.size v22w wx → Below v22w.heap.size v22w wx ∧ wx.cell? ⟨w.heap.size, 0, none⟩ = some (.slice gaz0 x0.1.1.length gcz0) ∧ wx.cell? ⟨w.heap.size, 1, none⟩ = some (.slice gbz0 x0.1.2.length gdz0) ∧ wx.cell? ⟨w.heap.size, 2, none⟩ = some (.slice haz0 x0.2.1.length hcz0) ∧ wx.cell? ⟨w.heap.size, 3, none⟩ = some (.int .i64 x0.2.2.1) ∧ wx.cell? ⟨w.heap.size, 4, none⟩ = some (.int .i64 x0.2.2.2.1) ∧ wx.cell? ⟨w.heap.size, 5, none⟩ = some (.int .i64 x0.2.2.2.2.1.1) ∧ wx.cell? ⟨w.heap.size, 6, none⟩ = some (.int .i64 x0.2.2.2.2.1.2.1) ∧ wx.cell? ⟨w.heap.size, 7, none⟩ = some (.slice iaz0 x0.2.2.2.2.1.2.2.length icz0) ∧ wx.cell? ⟨w.heap.size, 8, none⟩ = some (.slice jaz0 x0.2.2.2.2.2.length jcz0) ∧ wx.cell? ⟨w.heap.size + 1, 0, none⟩ = some (.int .i64 x2.1) ∧ wx.cell? ⟨w.heap.size + 1, 1, none⟩ = some (.int .i64 x2.2.1) ∧ wx.cell? ⟨w.heap.size + 1, 2, none⟩ = some (.int .i64 x2.2.2.1) ∧ wx.cell? ⟨w.heap.size + 1, 3, none⟩ = some (.int .i64 x2.2.2.2.1) ∧ wx.cell? ⟨w.heap.size + 1, 4, none⟩ = some (.int .i64 x2.2.2.2.2.1) ∧ wx.cell? ⟨w.heap.size + 1, 5, none⟩ = some (.slice gaz2 x2.2.2.2.2.2.1.length gcz2) ∧ wx.cell? ⟨w.heap.size + 1, 6, none⟩ = some (.int .i64 x2.2.2.2.2.2.2)) := fun wx h => ⟨h, zAd h A0c0 (zAi A0c0), zAd h A0c1 (zAi A0c1), zAd h A0c2 (zAi A0c2), zAd h A0c3 (zAi A0c3), zAd h A0c4 (zAi A0c4), zAd h A0c5 (zAi A0c5), zAd h A0c6 (zAi A0c6), zAd h A0c7 (zAi A0c7), zAd h A0c8 (zAi A0c8), zAd h A2c0 (zAi A2c0), zAd h A2c1 (zAi A2c1), zAd h A2c2 (zAi A2c2), zAd h A2c3 (zAi A2c3), zAd h A2c4 (zAi A2c4), zAd h A2c5 (zAi A2c5), zAd h A2c6 (zAi A2c6)⟩
              have HB0 : Hid _ := b0
              have Q0 : Hid (Below v22w.heap.size v22w v22w.drew) := (Below.refl _ _).drew
              have KQ0 : Hid _ := K.out _ Q0.out
              have QZ0 : Hid _ := K.out (v22w.alloc (.cells #[.slice none 0 0, .slice none 0 0, .slice none 0 0, .int .i64 0, .int .i64 0, .int .i64 0, .int .i64 0, .slice none 0 0, .slice none 0 0] 41)).drew (zAf v22w (.cells #[.slice none 0 0, .slice none 0 0, .slice none 0 0, .int .i64 0, .int .i64 0, .int .i64 0, .int .i64 0, .slice none 0 0, .slice none 0 0] 41)).drew
              clear b0 A0 A2 Zq0 ZX0 ZX2 ZG0 GG S0 S1
              first | (go_region_held3 (fun wx => Below v22w.heap.size v22w wx ∧ wx.cell? ⟨w.heap.size, 0, none⟩ = some (.slice gaz0 x0.1.1.length gcz0) ∧ wx.cell? ⟨w.heap.size, 1, none⟩ = some (.slice gbz0 x0.1.2.length gdz0) ∧ wx.cell? ⟨w.heap.size, 2, none⟩ = some (.slice haz0 x0.2.1.length hcz0) ∧ wx.cell? ⟨w.heap.size, 3, none⟩ = some (.int .i64 x0.2.2.1) ∧ wx.cell? ⟨w.heap.size, 4, none⟩ = some (.int .i64 x0.2.2.2.1) ∧ wx.cell? ⟨w.heap.size, 5, none⟩ = some (.int .i64 x0.2.2.2.2.1.1) ∧ wx.cell? ⟨w.heap.size, 6, none⟩ = some (.int .i64 x0.2.2.2.2.1.2.1) ∧ wx.cell? ⟨w.heap.size, 7, none⟩ = some (.slice iaz0 x0.2.2.2.2.1.2.2.length icz0) ∧ wx.cell? ⟨w.heap.size, 8, none⟩ = some (.slice jaz0 x0.2.2.2.2.2.length jcz0) ∧ wx.cell? ⟨w.heap.size + 1, 0, none⟩ = some (.int .i64 x2.1) ∧ wx.cell? ⟨w.heap.size + 1, 1, none⟩ = some (.int .i64 x2.2.1) ∧ wx.cell? ⟨w.heap.size + 1, 2, none⟩ = some (.int .i64 x2.2.2.1) ∧ wx.cell? ⟨w.heap.size + 1, 3, none⟩ = some (.int .i64 x2.2.2.2.1) ∧ wx.cell? ⟨w.heap.size + 1, 4, none⟩ = some (.int .i64 x2.2.2.2.2.1) ∧ wx.cell? ⟨w.heap.size + 1, 5, none⟩ = some (.slice gaz2 x2.2.2.2.2.2.1.length gcz2) ∧ wx.cell? ⟨w.heap.size + 1, 6, none⟩ = some (.int .i64 x2.2.2.2.2.2.2)) (first | (with_reducible exact KQ0.out) | (with_reducible exact KQ1.out) | (with_reducible exact KQ2.out) | (with_reducible exact KQ3.out) | (with_reducible exact QZ0.out) | (with_reducible exact QZ1.out) | (with_reducible exact QZ2.out) | (with_reducible exact QZ3.out) | (with_reducible exact QZ4.out) | (with_reducible exact QC1.out) | (with_reducible exact QC2.out) | (with_reducible exact QC3.out) | fail) (first | (go_at_call 7; refine (toCore_u [.slice gaz0 x0.1.1.length gcz0, .slice gbz0 x0.1.2.length gdz0, .slice haz0 x0.2.1.length hcz0, .int .i64 x0.2.2.1, .int .i64 x0.2.2.2.1, .int .i64 x0.2.2.2.2.1.1, .int .i64 x0.2.2.2.2.1.2.1, .slice iaz0 x0.2.2.2.2.1.2.2.length icz0, .slice jaz0 x0.2.2.2.2.2.length jcz0] x0 _ (HR0.out _ (zAb HB0.out (And.left (by assumption)))) hbk0).mono ?_; rintro e wq ⟨ds, rfl, mm⟩; obtain ⟨gam, gcm, gbm, gdm, ham, hcm, iam, icm, jam, jcm, rfl⟩ := zCy (zAn.own_rd mm.1); rw [show zAM [.slice gam x0.1.1.length gcm, .slice gbm x0.1.2.length gdm, .slice ham x0.2.1.length hcm, .int .i64 x0.2.2.1, .int .i64 x0.2.2.2.1, .int .i64 x0.2.2.2.2.1.1, .int .i64 x0.2.2.2.2.1.2.1, .slice iam x0.2.2.2.2.1.2.2.length icm, .slice jam x0.2.2.2.2.2.length jcm] = .agg #[.slice gam x0.1.1.length gcm, .slice gbm x0.1.2.length gdm, .slice ham x0.2.1.length hcm, .int .i64 x0.2.2.1, .int .i64 x0.2.2.2.1, .int .i64 x0.2.2.2.2.1.1, .int .i64 x0.2.2.2.2.1.2.1, .slice iam x0.2.2.2.2.1.2.2.length icm, .slice jam x0.2.2.2.2.2.length jcm] from rfl]; have Q1 : Hid (Below v22w.heap.size v22w wq) := zAb (And.left (by assumption)) mm.2; have KQ1 : Hid _ := K.out wq Q1.out; have QZ1 : Hid _ := K.out (wq.alloc (.cells #[.slice none 0 0, .slice none 0 0, .slice none 0 0, .int .i64 0, .int .i64 0, .int .i64 0, .int .i64 0, .slice none 0 0, .slice none 0 0] 41)) (zAb Q1.out (zAf wq (.cells #[.slice none 0 0, .slice none 0 0, .slice none 0 0, .int .i64 0, .int .i64 0, .int .i64 0, .int .i64 0, .slice none 0 0, .slice none 0 0] 41))); have T1 : Hid (zAn.rd wq [.slice gam x0.1.1.length gcm, .slice gbm x0.1.2.length gdm, .slice ham x0.2.1.length hcm, .int .i64 x0.2.2.1, .int .i64 x0.2.2.2.1, .int .i64 x0.2.2.2.2.1.1, .int .i64 x0.2.2.2.2.1.2.1, .slice iam x0.2.2.2.2.1.2.2.length icm, .slice jam x0.2.2.2.2.2.length jcm] x0) := zAn.own_rd mm.1; (first | (have rz1 : wq.heap[v22w.heap.size]? = some (.cells #[.slice none 0 0, .slice none 0 0, .slice none 0 0, .int .i64 0, .int .i64 0, .int .i64 0, .int .i64 0, .slice none 0 0, .slice none 0 0] 41) := ?hz; case hz => exact zAa mm.2 (zBj (zAy v22w (.cells #[.slice none 0 0, .slice none 0 0, .slice none 0 0, .int .i64 0, .int .i64 0, .int .i64 0, .int .i64 0, .slice none 0 0, .slice none 0 0] 41)))) | skip); have sq : v22w.heap.size ≤ wq.heap.size := Q1.out.size; clear mm) | (go_at_call 8; refine (toMsg_u [.int .i64 x2.1, .int .i64 x2.2.1, .int .i64 x2.2.2.1, .int .i64 x2.2.2.2.1, .int .i64 x2.2.2.2.2.1, .slice gaz2 x2.2.2.2.2.2.1.length gcz2, .int .i64 x2.2.2.2.2.2.2] x2 _ (HR2.out _ (zAb HB0.out (And.left (by assumption)))) hbk2).mono ?_; rintro e wr ⟨ds, rfl, mm⟩; obtain ⟨gan, gcn, rfl⟩ := msg_shape (zBy.own_rd mm.1); rw [show zAM [.int .i64 x2.1, .int .i64 x2.2.1, .int .i64 x2.2.2.1, .int .i64 x2.2.2.2.1, .int .i64 x2.2.2.2.2.1, .slice gan x2.2.2.2.2.2.1.length gcn, .int .i64 x2.2.2.2.2.2.2] = .agg #[.int .i64 x2.1, .int .i64 x2.2.1, .int .i64 x2.2.2.1, .int .i64 x2.2.2.2.1, .int .i64 x2.2.2.2.2.1, .slice gan x2.2.2.2.2.2.1.length gcn, .int .i64 x2.2.2.2.2.2.2] from rfl]; have Q2 : Hid (Below v22w.heap.size v22w wr) := zAb (And.left (by assumption)) mm.2; have KQ2 : Hid _ := K.out wr Q2.out; have QZ2 : Hid _ := K.out (wr.alloc (.cells #[.slice none 0 0, .slice none 0 0, .slice none 0 0, .int .i64 0, .int .i64 0, .int .i64 0, .int .i64 0, .slice none 0 0, .slice none 0 0] 41)) (zAb Q2.out (zAf wr (.cells #[.slice none 0 0, .slice none 0 0, .slice none 0 0, .int .i64 0, .int .i64 0, .int .i64 0, .int .i64 0, .slice none 0 0, .slice none 0 0] 41))); have T2 : Hid (zBy.rd wr [.int .i64 x2.1, .int .i64 x2.2.1, .int .i64 x2.2.2.1, .int .i64 x2.2.2.2.1, .int .i64 x2.2.2.2.2.1, .slice gan x2.2.2.2.2.2.1.length gcn, .int .i64 x2.2.2.2.2.2.2] x2) := zBy.own_rd mm.1; (first | (have T1n : Hid (zAn.rd wr [.slice gam x0.1.1.length gcm, .slice gbm x0.1.2.length gdm, .slice ham x0.2.1.length hcm, .int .i64 x0.2.2.1, .int .i64 x0.2.2.2.1, .int .i64 x0.2.2.2.2.1.1, .int .i64 x0.2.2.2.2.1.2.1, .slice iam x0.2.2.2.2.1.2.2.length icm, .slice jam x0.2.2.2.2.2.length jcm] x0) := ?hz; case hz => exact zAN T1.out mm.2) | (have T1n : Hid (zAn.rd wr [.slice gam x0.1.1.length gcm, .slice gbm x0.1.2.length gdm, .slice ham x0.2.1.length hcm, .int .i64 x0.2.2.1, .int .i64 x0.2.2.2.1, .int .i64 x0.2.2.2.2.1.1, .int .i64 x0.2.2.2.2.1.2.1, .slice iam x0.2.2.2.2.1.2.2.length icm, .slice jam x0.2.2.2.2.2.length jcm] x0) := ?hz; case hz => exact zAN (zAN T1.out (zAf _ _)) mm.2)); (first | (have ry1 : wr.heap[v22w.heap.size]? = some (.cells #[.slice none 0 0, .slice none 0 0, .slice none 0 0, .int .i64 0, .int .i64 0, .int .i64 0, .int .i64 0, .slice none 0 0, .slice none 0 0] 41) := ?hz; case hz => exact zAa mm.2 rz1) | skip); (first | (have ry2 : wr.heap[wq.heap.size]? = some (.cells #[.slice none 0 0, .slice none 0 0, .slice none 0 0, .int .i64 0, .int .i64 0, .int .i64 0, .int .i64 0, .slice none 0 0, .slice none 0 0] 41) := ?hz; case hz => exact zAa mm.2 (zAy wq _)) | skip); have sr : v22w.heap.size ≤ wr.heap.size := Q2.out.size; clear mm) | (go_at_call 9; (first | (refine (CIM.out wr [.slice gam x0.1.1.length gcm, .slice gbm x0.1.2.length gdm, .slice ham x0.2.1.length hcm, .int .i64 x0.2.2.1, .int .i64 x0.2.2.2.1, .int .i64 x0.2.2.2.2.1.1, .int .i64 x0.2.2.2.2.1.2.1, .slice iam x0.2.2.2.2.1.2.2.length icm, .slice jam x0.2.2.2.2.2.length jcm] [.int .i64 x2.1, .int .i64 x2.2.1, .int .i64 x2.2.2.1, .int .i64 x2.2.2.2.1, .int .i64 x2.2.2.2.2.1, .slice gan x2.2.2.2.2.2.1.length gcn, .int .i64 x2.2.2.2.2.2.2] (hh.goes (zAb HB0.out Q2.out)) T1n.out hbk0 T2.out hbk2).mono ?_) | (refine (CIM.out _ [.slice gam x0.1.1.length gcm, .slice gbm x0.1.2.length gdm, .slice ham x0.2.1.length hcm, .int .i64 x0.2.2.1, .int .i64 x0.2.2.2.1, .int .i64 x0.2.2.2.2.1.1, .int .i64 x0.2.2.2.2.1.2.1, .slice iam x0.2.2.2.2.1.2.2.length icm, .slice jam x0.2.2.2.2.2.length jcm] [.int .i64 x2.1, .int .i64 x2.2.1, .int .i64 x2.2.2.1, .int .i64 x2.2.2.2.1, .int .i64 x2.2.2.2.2.1, .slice gan x2.2.2.2.2.2.1.length gcn, .int .i64 x2.2.2.2.2.2.2] (hh.goes (zAb HB0.out (zAb Q2.out (zAf _ _)))) (zAN T1n.out (zAf _ _)) hbk0 (zAN T2.out (zAf _ _)) hbk2).mono ?_)); rintro e wf ⟨ds0, ds1, rfl, pl, mm⟩; have mb := mm.2; have o0 := mm.1; have pr := pair_rd ((zBP zAn zBp).own_rd o0) pl; clear pl mm; obtain ⟨gas, gcs, gbs, gds, has, hcs, ias, ics, jas, jcs, rfl⟩ := zCy pr.1; obtain ⟨gas1, gcs1, ro, -, -, -⟩ := pr.2; obtain rfl := ro; clear pr; rw [show zAM [.slice gas y0.1.1.length gcs, .slice gbs y0.1.2.length gds, .slice has y0.2.1.length hcs, .int .i64 y0.2.2.1, .int .i64 y0.2.2.2.1, .int .i64 y0.2.2.2.2.1.1, .int .i64 y0.2.2.2.2.1.2.1, .slice ias y0.2.2.2.2.1.2.2.length ics, .slice jas y0.2.2.2.2.2.length jcs] = .agg #[.slice gas y0.1.1.length gcs, .slice gbs y0.1.2.length gds, .slice has y0.2.1.length hcs, .int .i64 y0.2.2.1, .int .i64 y0.2.2.2.1, .int .i64 y0.2.2.2.2.1.1, .int .i64 y0.2.2.2.2.1.2.1, .slice ias y0.2.2.2.2.1.2.2.length ics, .slice jas y0.2.2.2.2.2.length jcs] from rfl, show zEc [.slice gas1 y1.length gcs1] = .slice gas1 y1.length gcs1 from rfl]; have Q3 : Hid (Below v22w.heap.size v22w wf) := zAb (And.left (by assumption)) mb; have KQ3 : Hid _ := K.out wf Q3.out; have QZ3 : Hid _ := K.out (wf.alloc (.cells #[.slice none 0 0, .slice none 0 0, .slice none 0 0, .int .i64 0, .int .i64 0, .int .i64 0, .int .i64 0, .slice none 0 0, .slice none 0 0] 41)) (zAb Q3.out (zAf wf (.cells #[.slice none 0 0, .slice none 0 0, .slice none 0 0, .int .i64 0, .int .i64 0, .int .i64 0, .int .i64 0, .slice none 0 0, .slice none 0 0] 41))); have QZ4 : Hid _ := K.out (wf.alloc (.cells #[.slice gas y0.1.1.length gcs, .slice gbs y0.1.2.length gds, .slice has y0.2.1.length hcs, .int .i64 y0.2.2.1, .int .i64 y0.2.2.2.1, .int .i64 y0.2.2.2.2.1.1, .int .i64 y0.2.2.2.2.1.2.1, .slice ias y0.2.2.2.2.1.2.2.length ics, .slice jas y0.2.2.2.2.2.length jcs] 41)) (zAb Q3.out (zAf wf _)); have QC1 : Hid _ := K.out (((((((((wf.setCell ⟨v22w.heap.size, 0, none⟩ (.slice gas y0.1.1.length gcs)).setCell ⟨v22w.heap.size, 1, none⟩ (.slice gbs y0.1.2.length gds)).setCell ⟨v22w.heap.size, 2, none⟩ (.slice has y0.2.1.length hcs)).setCell ⟨v22w.heap.size, 3, none⟩ (.int .i64 y0.2.2.1)).setCell ⟨v22w.heap.size, 4, none⟩ (.int .i64 y0.2.2.2.1)).setCell ⟨v22w.heap.size, 5, none⟩ (.int .i64 y0.2.2.2.2.1.1)).setCell ⟨v22w.heap.size, 6, none⟩ (.int .i64 y0.2.2.2.2.1.2.1)).setCell ⟨v22w.heap.size, 7, none⟩ (.slice ias y0.2.2.2.2.1.2.2.length ics)).setCell ⟨v22w.heap.size, 8, none⟩ (.slice jas y0.2.2.2.2.2.length jcs)) (below_set9 Q3.out (Nat.le_refl _)); have QC2 : Hid _ := K.out (((((((((wf.setCell ⟨wq.heap.size, 0, none⟩ (.slice gas y0.1.1.length gcs)).setCell ⟨wq.heap.size, 1, none⟩ (.slice gbs y0.1.2.length gds)).setCell ⟨wq.heap.size, 2, none⟩ (.slice has y0.2.1.length hcs)).setCell ⟨wq.heap.size, 3, none⟩ (.int .i64 y0.2.2.1)).setCell ⟨wq.heap.size, 4, none⟩ (.int .i64 y0.2.2.2.1)).setCell ⟨wq.heap.size, 5, none⟩ (.int .i64 y0.2.2.2.2.1.1)).setCell ⟨wq.heap.size, 6, none⟩ (.int .i64 y0.2.2.2.2.1.2.1)).setCell ⟨wq.heap.size, 7, none⟩ (.slice ias y0.2.2.2.2.1.2.2.length ics)).setCell ⟨wq.heap.size, 8, none⟩ (.slice jas y0.2.2.2.2.2.length jcs)) (below_set9 Q3.out sq); have QC3 : Hid _ := K.out (((((((((wf.setCell ⟨wr.heap.size, 0, none⟩ (.slice gas y0.1.1.length gcs)).setCell ⟨wr.heap.size, 1, none⟩ (.slice gbs y0.1.2.length gds)).setCell ⟨wr.heap.size, 2, none⟩ (.slice has y0.2.1.length hcs)).setCell ⟨wr.heap.size, 3, none⟩ (.int .i64 y0.2.2.1)).setCell ⟨wr.heap.size, 4, none⟩ (.int .i64 y0.2.2.2.1)).setCell ⟨wr.heap.size, 5, none⟩ (.int .i64 y0.2.2.2.2.1.1)).setCell ⟨wr.heap.size, 6, none⟩ (.int .i64 y0.2.2.2.2.1.2.1)).setCell ⟨wr.heap.size, 7, none⟩ (.slice ias y0.2.2.2.2.1.2.2.length ics)).setCell ⟨wr.heap.size, 8, none⟩ (.slice jas y0.2.2.2.2.2.length jcs)) (below_set9 Q3.out sr); (first | (have rx1 : wf.heap[v22w.heap.size]? = some (.cells #[.slice none 0 0, .slice none 0 0, .slice none 0 0, .int .i64 0, .int .i64 0, .int .i64 0, .int .i64 0, .slice none 0 0, .slice none 0 0] 41) := ?hz; case hz => exact zAa mb ry1) | skip); (first | (have rx2 : wf.heap[wq.heap.size]? = some (.cells #[.slice none 0 0, .slice none 0 0, .slice none 0 0, .int .i64 0, .int .i64 0, .int .i64 0, .int .i64 0, .slice none 0 0, .slice none 0 0] 41) := ?hz; case hz => exact zAa mb ry2) | skip); (first | (have rx3 : wf.heap[wr.heap.size]? = some (.cells #[.slice none 0 0, .slice none 0 0, .slice none 0 0, .int .i64 0, .int .i64 0, .int .i64 0, .int .i64 0, .slice none 0 0, .slice none 0 0] 41) := ?hz; case hz => exact zAa mb (zAy wr _)) | skip); (first | (have zz := rx1; clear zz; obtain ⟨rx1c0, rx1c1, rx1c2, rx1c3, rx1c4, rx1c5, rx1c6, rx1c7, rx1c8⟩ := zAc rx1; obtain ⟨rx1f0, rx1f1, rx1f2, rx1f3, rx1f4, rx1f5, rx1f6, rx1f7, rx1f8⟩ := zAr rx1; have rx1lt := (Array.getElem?_eq_some_iff.1 rx1).1) | skip); (first | (have zz := rx2; clear zz; obtain ⟨rx2c0, rx2c1, rx2c2, rx2c3, rx2c4, rx2c5, rx2c6, rx2c7, rx2c8⟩ := zAc rx2; obtain ⟨rx2f0, rx2f1, rx2f2, rx2f3, rx2f4, rx2f5, rx2f6, rx2f7, rx2f8⟩ := zAr rx2; have rx2lt := (Array.getElem?_eq_some_iff.1 rx2).1) | skip); (first | (have zz := rx3; clear zz; obtain ⟨rx3c0, rx3c1, rx3c2, rx3c3, rx3c4, rx3c5, rx3c6, rx3c7, rx3c8⟩ := zAc rx3; obtain ⟨rx3f0, rx3f1, rx3f2, rx3f3, rx3f4, rx3f5, rx3f6, rx3f7, rx3f8⟩ := zAr rx3; have rx3lt := (Array.getElem?_eq_some_iff.1 rx3).1) | skip); have HO0 : Hid _ := o0; clear o0 mb) | fail)) | fail
              all_goals go_wp2_with fail
              all_goals go_meet
              all_goals first | (have zz := rx3; with_reducible exact RegI_b rx3 HO0.out sr (by simp) (by simp; omega) Q3.out) | (have zz := rx2; with_reducible exact RegI_b rx2 HO0.out sq (Array.getElem?_eq_some_iff.1 ry2).1 sr Q3.out) | (have zz := rx1; with_reducible exact RegI_b rx1 HO0.out (Nat.le_refl _) (Array.getElem?_eq_some_iff.1 ry1).1 sr Q3.out) | (with_reducible exact RegI_a HO0.out sr Q3.out)
            case rest =>
              obtain ⟨zbh, loh, hih, gah0, gbh0, hah0, iah0, jah0, gah1, gch0, gdh0, hch0, ich0, jch0, gch1, rfl, rfl, rfl, hzh, hloh, hzzh, Zh0, HH, bq⟩ := hcut
              obtain ⟨v23w, hwn⟩ : ∃ x, x = wc := ⟨_, rfl⟩
              subst hwn
              replace b0 := zAb b0 bq
              replace A0 := zAa bq A0
              replace A2 := zAa bq A2
              replace Zq0 := zAa bq Zq0
              replace ZX0 := zAa bq ZX0
              replace ZX2 := zAa bq ZX2
              replace ZG0 := zAa bq ZG0
              replace GG := zA6 GG bq
              replace S0 := sight_next S0 bq
              replace S1 := sight_next S1 bq
              clear bq
              obtain ⟨Zq0c0, Zq0c1, Zq0c2, Zq0c3, Zq0c4, Zq0c5, Zq0c6, Zq0c7, Zq0c8⟩ := zAc Zq0
              have Zq0lt := (Array.getElem?_eq_some_iff.1 Zq0).1
              obtain ⟨Zh0c0, Zh0c1, Zh0c2, Zh0c3, Zh0c4, Zh0c5, Zh0c6, Zh0c7, Zh0c8⟩ := zAc Zh0
              have Zh0lt := (Array.getElem?_eq_some_iff.1 Zh0).1
              go_wp2_with fail
              clear Zq0c0 Zq0c1 Zq0c2 Zq0c3 Zq0c4 Zq0c5 Zq0c6 Zq0c7 Zq0c8 Zq0lt Zh0c0 Zh0c1 Zh0c2 Zh0c3 Zh0c4 Zh0c5 Zh0c6 Zh0c7 Zh0c8 Zh0lt
              refine (eqCore_u [.slice gah0 y0.1.1.length gch0, .slice gbh0 y0.1.2.length gdh0, .slice hah0 y0.2.1.length hch0, .int .i64 y0.2.2.1, .int .i64 y0.2.2.2.1, .int .i64 y0.2.2.2.2.1.1, .int .i64 y0.2.2.2.2.1.2.1, .slice iah0 y0.2.2.2.2.1.2.2.length ich0, .slice jah0 y0.2.2.2.2.2.length jch0] [.slice gaq0 y0.1.1.length gcq0, .slice gbq0 y0.1.2.length gdq0, .slice haq0 y0.2.1.length hcq0, .int .i64 y0.2.2.1, .int .i64 y0.2.2.2.1, .int .i64 y0.2.2.2.2.1.1, .int .i64 y0.2.2.2.2.1.2.1, .slice iaq0 y0.2.2.2.2.1.2.2.length icq0, .slice jaq0 y0.2.2.2.2.2.length jcq0] y0 _ (pair_rd ((zBP zAn zBp).own_rd HH.1) rfl).1 (sight_rd S0) hl0).mono ?_
              rintro e v24w ⟨rfl, bq⟩
              replace b0 := zAb b0 bq
              replace A0 := zAa bq A0
              replace A2 := zAa bq A2
              replace Zq0 := zAa bq Zq0
              replace ZX0 := zAa bq ZX0
              replace ZX2 := zAa bq ZX2
              replace ZG0 := zAa bq ZG0
              replace Zh0 := zAa bq Zh0
              replace GG := zA6 GG bq
              replace HH := zA6 HH bq
              replace S0 := sight_next S0 bq
              replace S1 := sight_next S1 bq
              clear bq
              go_wp2_with fail
              refine (eqMsgs_u [.slice gah1 y1.length gch1] [.slice gaq1 y1.length gcq1] y1 _ (pair_rd ((zBP zAn zBp).own_rd HH.1) rfl).2 (sight_rd S1) hl1).mono ?_
              rintro e v25w ⟨rfl, bq⟩
              replace b0 := zAb b0 bq
              replace A0 := zAa bq A0
              replace A2 := zAa bq A2
              replace Zq0 := zAa bq Zq0
              replace ZX0 := zAa bq ZX0
              replace ZX2 := zAa bq ZX2
              replace ZG0 := zAa bq ZG0
              replace Zh0 := zAa bq Zh0
              replace GG := zA6 GG bq
              replace HH := zA6 HH bq
              replace S0 := sight_next S0 bq
              replace S1 := sight_next S1 bq
              clear bq
              obtain ⟨ZG0c0, ZG0c1, ZG0c2, ZG0c3, ZG0c4, ZG0c5, ZG0c6, ZG0c7, ZG0c8⟩ := zAc ZG0
              have ZG0lt := (Array.getElem?_eq_some_iff.1 ZG0).1
              go_wp2_with fail
              clear ZG0c0 ZG0c1 ZG0c2 ZG0c3 ZG0c4 ZG0c5 ZG0c6 ZG0c7 ZG0c8 ZG0lt
              refine (hdCore_u [.slice gag0 y0.1.1.length gcg0, .slice gbg0 y0.1.2.length gdg0, .slice hag0 y0.2.1.length hcg0, .int .i64 y0.2.2.1, .int .i64 y0.2.2.2.1, .int .i64 y0.2.2.2.2.1.1, .int .i64 y0.2.2.2.2.1.2.1, .slice iag0 y0.2.2.2.2.1.2.2.length icg0, .slice jag0 y0.2.2.2.2.2.length jcg0] y0 (1) _ (pair_rd ((zBP zAn zBp).own_rd GG.1) rfl).1 (by omega) (by rw [HKY0.out]; omega) hl0).mono ?_
              rintro e v26w ⟨rfl, bq⟩
              rw [HKY0.out]
              replace b0 := zAb b0 bq
              replace A0 := zAa bq A0
              replace A2 := zAa bq A2
              replace Zq0 := zAa bq Zq0
              replace ZX0 := zAa bq ZX0
              replace ZX2 := zAa bq ZX2
              replace ZG0 := zAa bq ZG0
              replace Zh0 := zAa bq Zh0
              replace GG := zA6 GG bq
              replace HH := zA6 HH bq
              replace S0 := sight_next S0 bq
              replace S1 := sight_next S1 bq
              clear bq
              have nh0 : ¬ (1 + (ky0 : Int) < 0) := by omega
              go_wp2_with fail
              refine (hdMsgs_u [.slice gag1 y1.length gcg1] y1 (1 + (ky0 : Int)) _ (pair_rd ((zBP zAn zBp).own_rd GG.1) rfl).2 (by omega) (by rw [HKY1.out]; omega) hl1).mono ?_
              rintro e v27w ⟨rfl, bq⟩
              rw [HKY1.out]
              replace b0 := zAb b0 bq
              replace A0 := zAa bq A0
              replace A2 := zAa bq A2
              replace Zq0 := zAa bq Zq0
              replace ZX0 := zAa bq ZX0
              replace ZX2 := zAa bq ZX2
              replace ZG0 := zAa bq ZG0
              replace Zh0 := zAa bq Zh0
              replace GG := zA6 GG bq
              replace HH := zA6 HH bq
              replace S0 := sight_next S0 bq
              replace S1 := sight_next S1 bq
              clear bq
              have nh1 : ¬ (1 + (ky0 : Int) + (ky1 : Int) < 0) := by omega
              clear A0 A2 Zq0 ZX0 ZX2 ZG0 Zh0 GG HH S0 S1
              go_wp2
              go_ret
              exact ⟨rfl, b0⟩
    · have HS2 : Hid (szI (zCD.bk x2) (1048576 - (zEe.bk x0 : Int)) = -1) := zCz hf2
      rw [HS2.out]
      go_wp2
      go_ret
      exact ⟨rfl, b0⟩
  · have HS0 : Hid (szI (zEe.bk x0) (1048576) = -1) := zCz hf0
    rw [HS0.out]
    go_wp2
    go_ret
    exact ⟨rfl, b0⟩
end Go.Proofs.YtoihjejenjcokaaGreatDoor.fnExactGot
