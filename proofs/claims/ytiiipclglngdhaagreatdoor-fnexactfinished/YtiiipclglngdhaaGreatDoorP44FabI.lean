import Derived.Test.YtiiipclglngdhaaGreatDoorP00Box
import Derived.Test.YtiiipclglngdhaaGreatDoorP42FabDefs
import Derived.Test.YtiiipclglngdhaaGreatDoorP43EvImpl
import Derived.Test.YtiiipclglngdhaaGreatDoorP07OpL
import Derived.Test.YtiiipclglngdhaaGreatDoorP19Prog11
import Derived.Test.YtiiipclglngdhaaGreatDoorP03Bits
import Derived.Test.YtiiipclglngdhaaGreatDoorP40DmaOkS
import Derived.Test.YtiiipclglngdhaaGreatDoorP22CopyInts
import Derived.Test.YtiiipclglngdhaaGreatDoorP13StoreC
import Derived.Test.YtiiipclglngdhaaGreatDoorP29RepInt64SS
import Derived.Test.YtiiipclglngdhaaGreatDoorP02Nums
import Derived.Test.YtiiipclglngdhaaGreatDoorP14Lines6
namespace Go.Proofs.YtiiipclglngdhaaGreatDoor
set_option maxHeartbeats 4000000
set_option maxRecDepth 20000
open Go.ChangeShapes Go.WideShapes Go.ChangeAt Go.RowKit
set_option linter.unusedVariables false
set_option linter.unusedSimpArgs false
theorem implFabricOk_any (x : FabricD) (a1 : Option Addr) (c1 : Nat) (b1 : Option Addr) (d1 : Nat) (a2 : Option Addr) (c2 : Nat) (a3 : Option Addr) (c3 : Nat) (b3 : Option Addr) (d3 : Nat) (a4 : Option Addr) (c4 : Nat) (a5 : Option Addr) (c5 : Nat) (w : World) (R : FabRd w x a1 c1 b1 d1 a2 c2 a3 c3 b3 d3 a4 c4 a5 c5) (hh : Hold w) :
    Calls Tryz.prog 25 #[.agg #[.int .i64 x.1.1, .int .i64 x.1.2.1, .int .i64 x.1.2.2.1, .int .i64 x.1.2.2.2, .slice a1 x.2.1.1.length c1, .slice b1 x.2.1.2.length d1, .slice a2 x.2.2.1.length c2, .slice a3 x.2.2.2.1.1.length c3, .int .i64 x.2.2.2.1.2.1, .bool x.2.2.2.1.2.2.1, .slice b3 x.2.2.2.1.2.2.2.length d3, .slice a4 x.2.2.2.2.1.length c4, .slice a5 x.2.2.2.2.2.length c5]] w fun e w' => e = .returned (.bool (fabI x)) ∧ Below w.heap.size w w' := by
 have H0 : Hid (∀ W, Below w.heap.size w W → Calls Tryz.prog 56 #[.agg #[.int .i64 x.1.1, .int .i64 x.1.2.1, .int .i64 x.1.2.2.1, .int .i64 x.1.2.2.2]] W fun e w' => e = .returned (.int .i64 (codeI x.1.1 x.1.2.1 x.1.2.2.1 x.1.2.2.2)) ∧ Below W.heap.size W w') := fun W hb => implCode_any x.1.1 x.1.2.1 x.1.2.2.1 x.1.2.2.2 W
 have H1 : Hid (codeI x.1.1 x.1.2.1 x.1.2.2.1 x.1.2.2.2 = 0 → ∀ W, Below w.heap.size w W → Calls Tryz.prog 57 #[.agg #[.int .i64 x.1.1, .int .i64 x.1.2.1, .int .i64 x.1.2.2.1, .int .i64 x.1.2.2.2, .slice a1 x.2.1.1.length c1, .slice b1 x.2.1.2.length d1, .slice a2 x.2.2.1.length c2, .slice a3 x.2.2.2.1.1.length c3, .int .i64 x.2.2.2.1.2.1, .bool x.2.2.2.1.2.2.1, .slice b3 x.2.2.2.1.2.2.2.length d3, .slice a4 x.2.2.2.2.1.length c4, .slice a5 x.2.2.2.2.2.length c5]] W fun e w' => e = .returned (.bool (houseFit x)) ∧ Below W.heap.size W w') := fun hc W hb => fabHouse_any x a1 c1 b1 d1 a2 c2 a3 c3 b3 d3 a4 c4 a5 c5 W hc (fab_next R hb)
 have H2 : Hid (codeI x.1.1 x.1.2.1 x.1.2.2.1 x.1.2.2.2 = 0 → ∀ W, Below w.heap.size w W → Calls Tryz.prog 58 #[.agg #[.int .i64 x.1.1, .int .i64 x.1.2.1, .int .i64 x.1.2.2.1, .int .i64 x.1.2.2.2, .slice a1 x.2.1.1.length c1, .slice b1 x.2.1.2.length d1, .slice a2 x.2.2.1.length c2, .slice a3 x.2.2.2.1.1.length c3, .int .i64 x.2.2.2.1.2.1, .bool x.2.2.2.1.2.2.1, .slice b3 x.2.2.2.1.2.2.2.length d3, .slice a4 x.2.2.2.2.1.length c4, .slice a5 x.2.2.2.2.2.length c5]] W fun e w' => e = .returned (.bool (coresFit x)) ∧ Below W.heap.size W w') := fun hc W hb => fabCores_any x a1 c1 b1 d1 a2 c2 a3 c3 b3 d3 a4 c4 a5 c5 W hc (fab_next R hb) (hh.goes hb)
 have H3 : Hid (codeI x.1.1 x.1.2.1 x.1.2.2.1 x.1.2.2.2 = 0 → ∀ W, Below w.heap.size w W → Calls Tryz.prog 59 #[.agg #[.int .i64 x.1.1, .int .i64 x.1.2.1, .int .i64 x.1.2.2.1, .int .i64 x.1.2.2.2, .slice a1 x.2.1.1.length c1, .slice b1 x.2.1.2.length d1, .slice a2 x.2.2.1.length c2, .slice a3 x.2.2.2.1.1.length c3, .int .i64 x.2.2.2.1.2.1, .bool x.2.2.2.1.2.2.1, .slice b3 x.2.2.2.1.2.2.2.length d3, .slice a4 x.2.2.2.2.1.length c4, .slice a5 x.2.2.2.2.2.length c5]] W fun e w' => e = .returned (.bool (dmaFit x)) ∧ Below W.heap.size W w') := fun hc W hb => fabDma_any x a1 c1 b1 d1 a2 c2 a3 c3 b3 d3 a4 c4 a5 c5 W hc (fab_next R hb) (hh.goes hb)
 have H4 : Hid (codeI x.1.1 x.1.2.1 x.1.2.2.1 x.1.2.2.2 = 0 → ∀ W, Below w.heap.size w W → Calls Tryz.prog 60 #[.agg #[.int .i64 x.1.1, .int .i64 x.1.2.1, .int .i64 x.1.2.2.1, .int .i64 x.1.2.2.2, .slice a1 x.2.1.1.length c1, .slice b1 x.2.1.2.length d1, .slice a2 x.2.2.1.length c2, .slice a3 x.2.2.2.1.1.length c3, .int .i64 x.2.2.2.1.2.1, .bool x.2.2.2.1.2.2.1, .slice b3 x.2.2.2.1.2.2.2.length d3, .slice a4 x.2.2.2.2.1.length c4, .slice a5 x.2.2.2.2.2.length c5]] W fun e w' => e = .returned (.bool (netFit x)) ∧ Below W.heap.size W w') := fun hc W hb => fabNet_any x a1 c1 b1 d1 a2 c2 a3 c3 b3 d3 a4 c4 a5 c5 W hc (fab_next R hb)
 have H5 : Hid (∀ W, Below w.heap.size w W → Calls Tryz.prog 61 #[.agg #[.int .i64 x.1.1, .int .i64 x.1.2.1, .int .i64 x.1.2.2.1, .int .i64 x.1.2.2.2, .slice a1 x.2.1.1.length c1, .slice b1 x.2.1.2.length d1, .slice a2 x.2.2.1.length c2, .slice a3 x.2.2.2.1.1.length c3, .int .i64 x.2.2.2.1.2.1, .bool x.2.2.2.1.2.2.1, .slice b3 x.2.2.2.1.2.2.2.length d3, .slice a4 x.2.2.2.2.1.length c4, .slice a5 x.2.2.2.2.2.length c5]] W fun e w' => e = .returned (.bool (decide (x.2.2.2.2.2.length ≤ 200) && x.2.2.2.2.2.all evB)) ∧ Below W.heap.size W w') := fun W hb => fabEvents_any x a1 c1 b1 d1 a2 c2 a3 c3 b3 d3 a4 c4 a5 c5 W (fab_next R hb)
 unfold fabI
 clear R hh
 generalize codeI x.1.1 x.1.2.1 x.1.2.2.1 x.1.2.2.2 = kc at H0 H1 H2 H3 H4 ⊢
 generalize houseFit x = q1 at H1 ⊢
 generalize coresFit x = q2 at H2 ⊢
 generalize dmaFit x = q3 at H3 ⊢
 generalize netFit x = q4 at H4 ⊢
 generalize (decide (x.2.2.2.2.2.length ≤ 200) && x.2.2.2.2.2.all evB) = q5 at H5 ⊢
 have B := Below.refl w.heap.size w
 go_enter Tryz.func25, Tryz.ntmps25
 go_upto_region 1 with fail
 generalize hu1w : w.alloc _ = u1w
 have F := boxH hu1w
 have bz := boxB hu1w
 have zF := boxL hu1w
 replace B := below_step B bz
 clear bz
 clear hu1w
 have zFa := Nat.le_of_eq zF
 have zFb := Nat.le_of_eq zF.symm
 clear zF
 obtain ⟨Fc0, Fc1, Fc2, Fc3, Fc4, Fc5, Fc6, Fc7, Fc8, Fc9, Fc10, Fc11, Fc12⟩ := cells_fabric F
 have Flt := (Array.getElem?_eq_some_iff.1 F).1
 go_wp2_with fail
 clear Fc0 Fc1 Fc2 Fc3 Fc4 Fc5 Fc6 Fc7 Fc8 Fc9 Fc10 Fc11 Fc12 Flt
 refine (H0.out _ B).mono ?_
 rintro e u2w ⟨rfl, bq⟩
 have tu2w : u1w.heap.size ≤ u2w.heap.size := bq.size
 replace B := below_step B bq
 replace F := row_keep bq F
 clear bq
 by_cases hz : kc = 0
 ·have zt : (kc == 0) = true := by simp [hz]
  subst hz
  have hz : (0 : Int) = 0 := rfl
  clear hz
  obtain ⟨Fc0, Fc1, Fc2, Fc3, Fc4, Fc5, Fc6, Fc7, Fc8, Fc9, Fc10, Fc11, Fc12⟩ := cells_fabric F
  have Flt := (Array.getElem?_eq_some_iff.1 F).1
  go_wp2_with fail
  clear Fc0 Fc1 Fc2 Fc3 Fc4 Fc5 Fc6 Fc7 Fc8 Fc9 Fc10 Fc11 Fc12 Flt
  refine (H1.out (by first | rfl | trivial) _ B).mono ?_
  rintro e u3w ⟨rfl, bq⟩
  have tu3w : u2w.heap.size ≤ u3w.heap.size := bq.size
  replace B := below_step B bq
  replace F := row_keep bq F
  clear bq
  cases q1
  ·skip
   obtain ⟨Fc0, Fc1, Fc2, Fc3, Fc4, Fc5, Fc6, Fc7, Fc8, Fc9, Fc10, Fc11, Fc12⟩ := cells_fabric F
   have Flt := (Array.getElem?_eq_some_iff.1 F).1
   have HB : Hid _ := B
   clear B F
   go_wp2
   go_ret
   exact ⟨by simp, HB.out⟩
  ·skip
   obtain ⟨Fc0, Fc1, Fc2, Fc3, Fc4, Fc5, Fc6, Fc7, Fc8, Fc9, Fc10, Fc11, Fc12⟩ := cells_fabric F
   have Flt := (Array.getElem?_eq_some_iff.1 F).1
   go_wp2_with fail
   clear Fc0 Fc1 Fc2 Fc3 Fc4 Fc5 Fc6 Fc7 Fc8 Fc9 Fc10 Fc11 Fc12 Flt
   refine (H2.out (by first | rfl | trivial) _ B).mono ?_
   rintro e u4w ⟨rfl, bq⟩
   have tu4w : u3w.heap.size ≤ u4w.heap.size := bq.size
   replace B := below_step B bq
   replace F := row_keep bq F
   clear bq
   cases q2
   ·skip
    obtain ⟨Fc0, Fc1, Fc2, Fc3, Fc4, Fc5, Fc6, Fc7, Fc8, Fc9, Fc10, Fc11, Fc12⟩ := cells_fabric F
    have Flt := (Array.getElem?_eq_some_iff.1 F).1
    have HB : Hid _ := B
    clear B F
    go_wp2
    go_ret
    exact ⟨by simp, HB.out⟩
   ·skip
    obtain ⟨Fc0, Fc1, Fc2, Fc3, Fc4, Fc5, Fc6, Fc7, Fc8, Fc9, Fc10, Fc11, Fc12⟩ := cells_fabric F
    have Flt := (Array.getElem?_eq_some_iff.1 F).1
    go_wp2_with fail
    clear Fc0 Fc1 Fc2 Fc3 Fc4 Fc5 Fc6 Fc7 Fc8 Fc9 Fc10 Fc11 Fc12 Flt
    refine (H3.out (by first | rfl | trivial) _ B).mono ?_
    rintro e u5w ⟨rfl, bq⟩
    have tu5w : u4w.heap.size ≤ u5w.heap.size := bq.size
    replace B := below_step B bq
    replace F := row_keep bq F
    clear bq
    cases q3
    ·skip
     obtain ⟨Fc0, Fc1, Fc2, Fc3, Fc4, Fc5, Fc6, Fc7, Fc8, Fc9, Fc10, Fc11, Fc12⟩ := cells_fabric F
     have Flt := (Array.getElem?_eq_some_iff.1 F).1
     have HB : Hid _ := B
     clear B F
     go_wp2
     go_ret
     exact ⟨by simp, HB.out⟩
    ·skip
     obtain ⟨Fc0, Fc1, Fc2, Fc3, Fc4, Fc5, Fc6, Fc7, Fc8, Fc9, Fc10, Fc11, Fc12⟩ := cells_fabric F
     have Flt := (Array.getElem?_eq_some_iff.1 F).1
     go_wp2_with fail
     clear Fc0 Fc1 Fc2 Fc3 Fc4 Fc5 Fc6 Fc7 Fc8 Fc9 Fc10 Fc11 Fc12 Flt
     refine (H4.out (by first | rfl | trivial) _ B).mono ?_
     rintro e u6w ⟨rfl, bq⟩
     have tu6w : u5w.heap.size ≤ u6w.heap.size := bq.size
     replace B := below_step B bq
     replace F := row_keep bq F
     clear bq
     cases q4
     ·skip
      obtain ⟨Fc0, Fc1, Fc2, Fc3, Fc4, Fc5, Fc6, Fc7, Fc8, Fc9, Fc10, Fc11, Fc12⟩ := cells_fabric F
      have Flt := (Array.getElem?_eq_some_iff.1 F).1
      have HB : Hid _ := B
      clear B F
      go_wp2
      go_ret
      exact ⟨by simp, HB.out⟩
     ·skip
      obtain ⟨Fc0, Fc1, Fc2, Fc3, Fc4, Fc5, Fc6, Fc7, Fc8, Fc9, Fc10, Fc11, Fc12⟩ := cells_fabric F
      have Flt := (Array.getElem?_eq_some_iff.1 F).1
      go_wp2_with fail
      clear Fc0 Fc1 Fc2 Fc3 Fc4 Fc5 Fc6 Fc7 Fc8 Fc9 Fc10 Fc11 Fc12 Flt
      refine (H5.out _ B).mono ?_
      rintro e u7w ⟨rfl, bq⟩
      have tu7w : u6w.heap.size ≤ u7w.heap.size := bq.size
      replace B := below_step B bq
      replace F := row_keep bq F
      clear bq
      obtain ⟨Fc0, Fc1, Fc2, Fc3, Fc4, Fc5, Fc6, Fc7, Fc8, Fc9, Fc10, Fc11, Fc12⟩ := cells_fabric F
      have Flt := (Array.getElem?_eq_some_iff.1 F).1
      have HB : Hid _ := B
      clear B F
      go_wp2
      go_ret
      exact ⟨by simp, HB.out⟩
 ·have zt : (kc == 0) = false := by simp [hz]
  have HZ : Hid (¬ kc = 0) := hz
  clear hz
  obtain ⟨Fc0, Fc1, Fc2, Fc3, Fc4, Fc5, Fc6, Fc7, Fc8, Fc9, Fc10, Fc11, Fc12⟩ := cells_fabric F
  have Flt := (Array.getElem?_eq_some_iff.1 F).1
  have HB : Hid _ := B
  clear B F
  go_wp2
  go_ret
  exact ⟨by simp [HZ.out], HB.out⟩
variable {α : Type}
theorem idxHas (a : Option Addr) (xs : List CoreD) (cap : Nat) (w : World) (h : SlRd coreR w a xs) (hm : xs.length ≤ maxLen) :
    Calls Tryz.prog 111 #[.slice a xs.length cap, .func (.func 63) #[] #[]] w fun e w' => e = .returned (.int .i64 (badP idleC xs)) ∧ Below w.heap.size w w' := by
 have hm' : xs.length ≤ 9223372036854775807 := hm
 have H0 : Hid (∀ W, Below w.heap.size w W → SlRd coreR W a xs) := fun W hb => slrd_keep h fun k hk => hb.block k hk
 clear h hm
 go_enter Tryz.func111, Tryz.ntmps111
 go_wp2
 go_loopw [8] (fun i wr => ∃ k : Nat, k ≤ xs.length ∧ i = .int .i64 k ∧ (∀ j v, j < k → xs[j]? = some v → idleC v = true) ∧ Below w.heap.size w wr) (fun i _ => xs.length - (intOf i).toNat)
 case atStart => exact ⟨0, Nat.zero_le _, rfl, fun j v hj => by omega, Below.refl _ _⟩
 case round =>
  obtain ⟨k, hk, rfl, hno, BB⟩ := hrel
  by_cases hlt : k < xs.length
  ·have hlt' : (k : Int) < (xs.length : Int) := by omega
   obtain ⟨u, hx⟩ : ∃ u, xs[k]? = some u := ⟨_, List.getElem?_eq_getElem hlt⟩
   obtain ⟨b, off, cs, rfl, hrdx, hcell⟩ := slrd_at (H0.out _ BB) hx
   have HC := implHasOp_u cs u wr hrdx
   obtain ⟨ga, gc, gb, gd, ha, hc, ia, ic, ja, jc, rfl⟩ := core_shape hrdx
   rw [show aggV [.slice ga u.1.1.length gc, .slice gb u.1.2.length gd, .slice ha u.2.1.length hc, .int .i64 u.2.2.1, .int .i64 u.2.2.2.1, .int .i64 u.2.2.2.2.1.1, .int .i64 u.2.2.2.2.1.2.1, .slice ia u.2.2.2.2.1.2.2.length ic, .slice ja u.2.2.2.2.2.length jc] = .agg #[.slice ga u.1.1.length gc, .slice gb u.1.2.length gd, .slice ha u.2.1.length hc, .int .i64 u.2.2.1, .int .i64 u.2.2.2.1, .int .i64 u.2.2.2.2.1.1, .int .i64 u.2.2.2.2.1.2.1, .slice ia u.2.2.2.2.1.2.2.length ic, .slice ja u.2.2.2.2.2.length jc] from rfl] at HC
   obtain ⟨x0, x1, x2, x3, x4, x5, x6, x7, x8⟩ := cellsAt9 hcell rfl
   have HX : Hid (xs[k]? = some u) := hx
   clear hx hcell hrdx
   have hid : decide (u.2.2.1 < (u.2.1.length : Int)) = !idleC u := by unfold idleC; rw [Bool.not_not]
   rw [hid] at HC
   clear hid
   cases hb : idleC u
   ·have HR : Hid (badP idleC xs = k) := badP_at HX.out hb hno
    rw [hb] at HC
    go_wp2_with fail
    refine HC.mono ?_
    rintro e w2 ⟨rfl, b2⟩
    replace BB := below_step BB b2
    clear b2 x0 x1 x2 x3 x4 x5 x6 x7 x8
    go_wp2
    go_ret
    exact ⟨ret_int HR.out.symm, BB⟩
   ·rw [hb] at HC
    go_wp2_with fail
    refine HC.mono ?_
    rintro e w2 ⟨rfl, b2⟩
    replace BB := below_step BB b2
    clear b2 x0 x1 x2 x3 x4 x5 x6 x7 x8
    go_wp2
    go_roundw
    case rel =>
     refine ⟨k + 1, by omega, by go_num, fun j v hj hv => ?_, BB⟩
     by_cases he : j < k
     ·exact hno j v he hv
     ·have : j = k := by omega
      subst this
      rw [HX.out] at hv
      cases hv
      exact hb
    case measure => simp [intOf]; omega
  ·have HR : Hid (badP idleC xs = -1) := badP_no fun j v hv => hno j v (by have := (List.getElem?_eq_some_iff.1 hv).1; omega) hv
   go_wp2
   go_ret
   exact ⟨ret_int HR.out.symm, BB⟩
theorem conHas (a : Option Addr) (xs : List CoreD) (cap : Nat) (w : World) (h : SlRd coreR w a xs) (hm : xs.length ≤ maxLen) :
    Calls Tryz.prog 62 #[.slice a xs.length cap, .func (.func 63) #[] #[]] w fun e w' => e = .returned (.bool (!xs.all idleC)) ∧ Below w.heap.size w w' := by
 have HI := idxHas a xs cap w h hm
 have hab := badP_all idleC xs
 clear h hm
 generalize badP idleC xs = q at HI hab
 generalize xs.all idleC = y at hab ⊢
 subst hab
 by_cases hq : q < 0
 ·have hq2 : ¬ (0 ≤ q) := by omega
  go_enter Tryz.func62, Tryz.ntmps62
  go_wp2_with fail
  refine HI.mono ?_
  rintro e w1 ⟨rfl, b1⟩
  go_wp2
  go_ret
  exact ⟨by simp [hq], b1⟩
 ·have hq2 : 0 ≤ q := by omega
  go_enter Tryz.func62, Tryz.ntmps62
  go_wp2_with fail
  refine HI.mono ?_
  rintro e w1 ⟨rfl, b1⟩
  go_wp2
  go_ret
  exact ⟨by simp [hq], b1⟩
theorem progDone_any (x : FabricD) (a1 : Option Addr) (c1 : Nat) (b1 : Option Addr) (d1 : Nat) (a2 : Option Addr) (c2 : Nat) (a3 : Option Addr) (c3 : Nat) (b3 : Option Addr) (d3 : Nat) (a4 : Option Addr) (c4 : Nat) (a5 : Option Addr) (c5 : Nat) (w : World) (R : FabRd w x a1 c1 b1 d1 a2 c2 a3 c3 b3 d3 a4 c4 a5 c5) :
    Calls Tryz.prog 26 #[.agg #[.int .i64 x.1.1, .int .i64 x.1.2.1, .int .i64 x.1.2.2.1, .int .i64 x.1.2.2.2, .slice a1 x.2.1.1.length c1, .slice b1 x.2.1.2.length d1, .slice a2 x.2.2.1.length c2, .slice a3 x.2.2.2.1.1.length c3, .int .i64 x.2.2.2.1.2.1, .bool x.2.2.2.1.2.2.1, .slice b3 x.2.2.2.1.2.2.2.length d3, .slice a4 x.2.2.2.2.1.length c4, .slice a5 x.2.2.2.2.2.length c5]] w fun e w' => e = .returned (.bool (doneB x)) ∧ Below w.heap.size w w' := by
 have H0 : Hid (∀ W, Below w.heap.size w W → Calls Tryz.prog 62 #[.slice a2 x.2.2.1.length c2, .func (.func 63) #[] #[]] W fun e w' => e = .returned (.bool (!x.2.2.1.all idleC)) ∧ Below W.heap.size W w') := fun W hb => conHas a2 x.2.2.1 c2 W (fab_next R hb).cores R.coresl
 have H1 : Hid (∀ W, Calls Tryz.prog 64 #[.agg #[.slice a3 x.2.2.2.1.1.length c3, .int .i64 x.2.2.2.1.2.1, .bool x.2.2.2.1.2.2.1, .slice b3 x.2.2.2.1.2.2.2.length d3]] W fun e w' => e = .returned (.agg #[.slice a3 x.2.2.2.1.1.length c3, .int .i64 x.2.2.2.1.2.1]) ∧ Below W.heap.size W w') := fun W => queue_any x.2.2.2.1 a3 b3 c3 d3 W
 have H2 : Hid (∀ W, Calls Tryz.prog 65 #[.agg #[.slice a3 x.2.2.2.1.1.length c3, .int .i64 x.2.2.2.1.2.1]] W fun e w' => e = .returned (.bool (decide (x.2.2.2.1.2.1 < (x.2.2.2.1.1.length : Int)))) ∧ Below W.heap.size W w') := fun W => hasNext_any x.2.2.2.1 a3 c3 W R.descsl
 unfold doneB
 clear R
 generalize x.2.2.1.all idleC = q1 at H0 ⊢
 generalize decide (x.2.2.2.1.2.1 < (x.2.2.2.1.1.length : Int)) = q2 at H2 ⊢
 have B := Below.refl w.heap.size w
 go_enter Tryz.func26, Tryz.ntmps26
 go_upto_region 1 with fail
 generalize hu1w : w.alloc _ = u1w
 have F := boxH hu1w
 have bz := boxB hu1w
 have zF := boxL hu1w
 replace B := below_step B bz
 clear bz
 clear hu1w
 clear zF
 obtain ⟨Fc0, Fc1, Fc2, Fc3, Fc4, Fc5, Fc6, Fc7, Fc8, Fc9, Fc10, Fc11, Fc12⟩ := cells_fabric F
 have Flt := (Array.getElem?_eq_some_iff.1 F).1
 go_wp2_with fail
 clear Fc0 Fc1 Fc2 Fc3 Fc4 Fc5 Fc6 Fc7 Fc8 Fc9 Fc10 Fc11 Fc12 Flt
 refine (H0.out _ B).mono ?_
 rintro e u2w ⟨rfl, bq⟩
 replace B := below_step B bq
 replace F := row_keep bq F
 clear bq
 cases q1
 ·skip
  obtain ⟨Fc0, Fc1, Fc2, Fc3, Fc4, Fc5, Fc6, Fc7, Fc8, Fc9, Fc10, Fc11, Fc12⟩ := cells_fabric F
  have Flt := (Array.getElem?_eq_some_iff.1 F).1
  have HB : Hid _ := B
  clear B F
  go_wp2
  go_ret
  exact ⟨by simp, HB.out⟩
 ·skip
  obtain ⟨Fc0, Fc1, Fc2, Fc3, Fc4, Fc5, Fc6, Fc7, Fc8, Fc9, Fc10, Fc11, Fc12⟩ := cells_fabric F
  have Flt := (Array.getElem?_eq_some_iff.1 F).1
  go_wp2_with fail
  clear Fc0 Fc1 Fc2 Fc3 Fc4 Fc5 Fc6 Fc7 Fc8 Fc9 Fc10 Fc11 Fc12 Flt
  refine (H1.out _).mono ?_
  rintro e u3w ⟨rfl, bq⟩
  replace B := below_step B bq
  replace F := row_keep bq F
  clear bq
  obtain ⟨Fc0, Fc1, Fc2, Fc3, Fc4, Fc5, Fc6, Fc7, Fc8, Fc9, Fc10, Fc11, Fc12⟩ := cells_fabric F
  have Flt := (Array.getElem?_eq_some_iff.1 F).1
  go_wp2_with fail
  clear Fc0 Fc1 Fc2 Fc3 Fc4 Fc5 Fc6 Fc7 Fc8 Fc9 Fc10 Fc11 Fc12 Flt
  refine (H2.out _).mono ?_
  rintro e u4w ⟨rfl, bq⟩
  replace B := below_step B bq
  replace F := row_keep bq F
  clear bq
  cases q2
  ·skip
   obtain ⟨Fc0, Fc1, Fc2, Fc3, Fc4, Fc5, Fc6, Fc7, Fc8, Fc9, Fc10, Fc11, Fc12⟩ := cells_fabric F
   have Flt := (Array.getElem?_eq_some_iff.1 F).1
   have HB : Hid _ := B
   clear B F
   go_wp2
   go_ret
   exact ⟨by simp, HB.out⟩
  ·skip
   obtain ⟨Fc0, Fc1, Fc2, Fc3, Fc4, Fc5, Fc6, Fc7, Fc8, Fc9, Fc10, Fc11, Fc12⟩ := cells_fabric F
   have Flt := (Array.getElem?_eq_some_iff.1 F).1
   have HB : Hid _ := B
   clear B F
   go_wp2
   go_ret
   exact ⟨by simp, HB.out⟩
theorem implFinished_any (x : FabricD) (a1 : Option Addr) (c1 : Nat) (b1 : Option Addr) (d1 : Nat) (a2 : Option Addr) (c2 : Nat) (a3 : Option Addr) (c3 : Nat) (b3 : Option Addr) (d3 : Nat) (a4 : Option Addr) (c4 : Nat) (a5 : Option Addr) (c5 : Nat) (w : World) (R : FabRd w x a1 c1 b1 d1 a2 c2 a3 c3 b3 d3 a4 c4 a5 c5) (hh : Hold w) :
    Calls Tryz.prog 8 #[.agg #[.int .i64 x.1.1, .int .i64 x.1.2.1, .int .i64 x.1.2.2.1, .int .i64 x.1.2.2.2, .slice a1 x.2.1.1.length c1, .slice b1 x.2.1.2.length d1, .slice a2 x.2.2.1.length c2, .slice a3 x.2.2.2.1.1.length c3, .int .i64 x.2.2.2.1.2.1, .bool x.2.2.2.1.2.2.1, .slice b3 x.2.2.2.1.2.2.2.length d3, .slice a4 x.2.2.2.2.1.length c4, .slice a5 x.2.2.2.2.2.length c5]] w fun e w' => e = .returned (.bool (finI x)) ∧ Below w.heap.size w w' := by
 have H0 : Hid (∀ W, Below w.heap.size w W → Calls Tryz.prog 25 #[.agg #[.int .i64 x.1.1, .int .i64 x.1.2.1, .int .i64 x.1.2.2.1, .int .i64 x.1.2.2.2, .slice a1 x.2.1.1.length c1, .slice b1 x.2.1.2.length d1, .slice a2 x.2.2.1.length c2, .slice a3 x.2.2.2.1.1.length c3, .int .i64 x.2.2.2.1.2.1, .bool x.2.2.2.1.2.2.1, .slice b3 x.2.2.2.1.2.2.2.length d3, .slice a4 x.2.2.2.2.1.length c4, .slice a5 x.2.2.2.2.2.length c5]] W fun e w' => e = .returned (.bool (fabI x)) ∧ Below W.heap.size W w') := fun W hb => implFabricOk_any x a1 c1 b1 d1 a2 c2 a3 c3 b3 d3 a4 c4 a5 c5 W (fab_next R hb) (hh.goes hb)
 have H1 : Hid (∀ W, Below w.heap.size w W → Calls Tryz.prog 26 #[.agg #[.int .i64 x.1.1, .int .i64 x.1.2.1, .int .i64 x.1.2.2.1, .int .i64 x.1.2.2.2, .slice a1 x.2.1.1.length c1, .slice b1 x.2.1.2.length d1, .slice a2 x.2.2.1.length c2, .slice a3 x.2.2.2.1.1.length c3, .int .i64 x.2.2.2.1.2.1, .bool x.2.2.2.1.2.2.1, .slice b3 x.2.2.2.1.2.2.2.length d3, .slice a4 x.2.2.2.2.1.length c4, .slice a5 x.2.2.2.2.2.length c5]] W fun e w' => e = .returned (.bool (doneB x)) ∧ Below W.heap.size W w') := fun W hb => progDone_any x a1 c1 b1 d1 a2 c2 a3 c3 b3 d3 a4 c4 a5 c5 W (fab_next R hb)
 have hn : x.2.2.2.2.1.length ≤ 9223372036854775807 := R.netl
 unfold finI
 clear R hh
 generalize fabI x = q1 at H0 ⊢
 generalize doneB x = q2 at H1 ⊢
 have B := Below.refl w.heap.size w
 go_enter Tryz.func8, Tryz.ntmps8
 go_upto_region 1 with fail
 generalize hu1w : w.alloc _ = u1w
 have F := boxH hu1w
 have bz := boxB hu1w
 have zF := boxL hu1w
 replace B := below_step B bz
 clear bz
 clear hu1w
 clear zF
 obtain ⟨Fc0, Fc1, Fc2, Fc3, Fc4, Fc5, Fc6, Fc7, Fc8, Fc9, Fc10, Fc11, Fc12⟩ := cells_fabric F
 have Flt := (Array.getElem?_eq_some_iff.1 F).1
 go_wp2_with fail
 clear Fc0 Fc1 Fc2 Fc3 Fc4 Fc5 Fc6 Fc7 Fc8 Fc9 Fc10 Fc11 Fc12 Flt
 refine (H0.out _ B).mono ?_
 rintro e u2w ⟨rfl, bq⟩
 replace B := below_step B bq
 replace F := row_keep bq F
 clear bq
 cases q1
 ·skip
  obtain ⟨Fc0, Fc1, Fc2, Fc3, Fc4, Fc5, Fc6, Fc7, Fc8, Fc9, Fc10, Fc11, Fc12⟩ := cells_fabric F
  have Flt := (Array.getElem?_eq_some_iff.1 F).1
  have HB : Hid _ := B
  clear B F
  go_wp2
  go_ret
  exact ⟨by simp, HB.out⟩
 ·skip
  obtain ⟨Fc0, Fc1, Fc2, Fc3, Fc4, Fc5, Fc6, Fc7, Fc8, Fc9, Fc10, Fc11, Fc12⟩ := cells_fabric F
  have Flt := (Array.getElem?_eq_some_iff.1 F).1
  go_wp2_with fail
  clear Fc0 Fc1 Fc2 Fc3 Fc4 Fc5 Fc6 Fc7 Fc8 Fc9 Fc10 Fc11 Fc12 Flt
  refine (H1.out _ B).mono ?_
  rintro e u3w ⟨rfl, bq⟩
  replace B := below_step B bq
  replace F := row_keep bq F
  clear bq
  cases q2
  ·skip
   obtain ⟨Fc0, Fc1, Fc2, Fc3, Fc4, Fc5, Fc6, Fc7, Fc8, Fc9, Fc10, Fc11, Fc12⟩ := cells_fabric F
   have Flt := (Array.getElem?_eq_some_iff.1 F).1
   have HB : Hid _ := B
   clear B F
   go_wp2
   go_ret
   exact ⟨by simp, HB.out⟩
  ·by_cases hz : x.2.2.2.2.1.length = 0
   ·have hz' : (x.2.2.2.2.1.length : Int) = 0 := by omega
    obtain ⟨Fc0, Fc1, Fc2, Fc3, Fc4, Fc5, Fc6, Fc7, Fc8, Fc9, Fc10, Fc11, Fc12⟩ := cells_fabric F
    have Flt := (Array.getElem?_eq_some_iff.1 F).1
    have HB : Hid _ := B
    clear B F
    go_wp2
    go_ret
    exact ⟨by simp [hz], HB.out⟩
   ·have hz' : ¬ (x.2.2.2.2.1.length : Int) = 0 := by omega
    obtain ⟨Fc0, Fc1, Fc2, Fc3, Fc4, Fc5, Fc6, Fc7, Fc8, Fc9, Fc10, Fc11, Fc12⟩ := cells_fabric F
    have Flt := (Array.getElem?_eq_some_iff.1 F).1
    have HB : Hid _ := B
    clear B F
    go_wp2
    go_ret
    exact ⟨by simp [hz], HB.out⟩
def loopsOf : Code → List Code
 | .loop c => [c]
 | .seq a b => loopsOf a ++ loopsOf b
 | .block _ c => loopsOf c
 | .scope c => loopsOf c
 | .cond _ a b => loopsOf a ++ loopsOf b
 | _ => []
noncomputable def fabCode (n : Nat) : Code := ((Tryz.f17.body.map loopsOf).getD []).getD n .skip
theorem all_upto {α : Type} {p : α → Bool} {xs : List α} (h : ∀ (j : Nat) v, xs[j]? = some v → p v = true) : xs.all p = true := List.all_eq_true.2 fun v hv => by
 obtain ⟨j, hj⟩ := List.getElem?_of_mem hv
 exact h j v hj
structure UptoF (w : World) (x : FabricD) (a1 b1 a2 a3 b3 a4 a5 : Option Addr) (c1 d1 c2 c3 d3 c4 c5 : Nat) (n : Nat) (p : Nat → Prop) (i : Value) (wr : World) : Prop where
 ex : ∃ k : Nat, k ≤ n ∧ i = .int .i64 k ∧ (∀ j, j < k → p j) ∧ Below w.heap.size w wr ∧ wr.heap[w.heap.size]? = some (.cells #[.int .i64 x.1.1, .int .i64 x.1.2.1, .int .i64 x.1.2.2.1, .int .i64 x.1.2.2.2, .slice a1 x.2.1.1.length c1, .slice b1 x.2.1.2.length d1, .slice a2 x.2.2.1.length c2, .slice a3 x.2.2.2.1.1.length c3, .int .i64 x.2.2.2.1.2.1, .bool x.2.2.2.1.2.2.1, .slice b3 x.2.2.2.1.2.2.2.length d3, .slice a4 x.2.2.2.2.1.length c4, .slice a5 x.2.2.2.2.2.length c5] 49 (0, 0))
theorem wrap_u64c {c : Int} (h0 : 0 ≤ c) (h4 : c ≤ 4) : IntKind.u64.wrap c = c := by
 rcases (by omega : c = 0 ∨ c = 1 ∨ c = 2 ∨ c = 3 ∨ c = 4) with rfl | rfl | rfl | rfl | rfl <;> rfl
end Go.Proofs.YtiiipclglngdhaaGreatDoor
