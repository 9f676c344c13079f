import Derived.Test.YtiiipclglngdhaaGreatDoorQ00Box
import Derived.Test.YtiiipclglngdhaaGreatDoorQ44FabI
import Derived.Test.YtiiipclglngdhaaGreatDoorQ50FabS
import Derived.Test.YtiiipclglngdhaaGreatDoorQ03Bits
import Derived.Test.YtiiipclglngdhaaGreatDoorQ42FabDefs
import Derived.Test.YtiiipclglngdhaaGreatDoorQ45RunB
namespace Go.Proofs.YtiiipclglngdhaaGreatDoor
set_option maxHeartbeats 4000000
set_option maxRecDepth 20000
open Go.ChangeShapes Go.WideShapes Go.ChangeAt Go.RowKit
set_option linter.unusedVariables false
theorem specFab_u (cs : List Value) (x : FabricD) (w : World) (h : fabricR.rd w cs x) (hbk : fabricM.bk x ≤ 1048576) :
    Calls Tryz.prog 17 #[aggV cs] w fun e w' => e = .returned (.bool (fabI x)) ∧ Below w.heap.size w w' := by
 rw [← fab_eq]
 exact specFabricOk_u cs x w h hbk
set_option linter.unusedSimpArgs false
theorem core_len {w : World} {cs : List Value} {u : CoreD} (h : coreR.rd w cs u) : u.2.1.length ≤ 9223372036854775807 := by
 obtain ⟨z0, z1, z2, z5, z6, z7, z8, e, r0, ⟨a, c, -, k1, k2, -⟩, -⟩ := core_rd h
 exact Nat.le_trans k1 k2
theorem bound_two {d l : Nat} {c : Int} (hN : d + l ≤ 150) (h1 : 1 ≤ c) (h4 : c ≤ 4) : wrap64 (((d : Int) + (l : Int)) * (7 + 2 * c)) = ((d + l : Nat) : Int) * (7 + 2 * c) := by
 rw [← IntWalk.i64_left, IntKind.wrap_i64]
 rcases (by omega : c = 1 ∨ c = 2 ∨ c = 3 ∨ c = 4) with rfl | rfl | rfl | rfl <;> omega
theorem idle_step {xs : List CoreD} {k : Nat} {u : CoreD} (hno : ∀ j v, j < k → xs[j]? = some v → idleC v = true) (hx : xs[k]? = some u) (hb : idleC u = true) : ∀ j v, j < k + 1 → xs[j]? = some v → idleC v = true := fun j v hj hv => by
 by_cases he : j < k
 ·exact hno j v he hv
 ·have : j = k := by omega
  subst this
  rw [hx] at hv
  cases hv
  exact hb
theorem l16Fin_any (x : FabricD) (a1 : Option Addr) (c1 : Nat) (b1 : Option Addr) (d1 : Nat) (a2 : Option Addr) (c2 : Nat) (a3 : Option Addr) (c3 : Nat) (b3 : Option Addr) (d3 : Nat) (a4 : Option Addr) (c4 : Nat) (a5 : Option Addr) (c5 : Nat) (w : World) (R : FabRd w x a1 c1 b1 d1 a2 c2 a3 c3 b3 d3 a4 c4 a5 c5) :
    Calls Tryz.prog 18 #[.agg #[.int .i64 x.1.1, .int .i64 x.1.2.1, .int .i64 x.1.2.2.1, .int .i64 x.1.2.2.2, .slice a1 x.2.1.1.length c1, .slice b1 x.2.1.2.length d1, .slice a2 x.2.2.1.length c2, .slice a3 x.2.2.2.1.1.length c3, .int .i64 x.2.2.2.1.2.1, .bool x.2.2.2.1.2.2.1, .slice b3 x.2.2.2.1.2.2.2.length d3, .slice a4 x.2.2.2.2.1.length c4, .slice a5 x.2.2.2.2.2.length c5]] w fun e w' => e = .returned (.bool (x.2.2.1.all idleC && (decide (x.2.2.2.2.1.length = 0) && decide (x.2.2.2.1.2.1 = (x.2.2.2.1.1.length : Int))))) ∧ Below w.heap.size w w' := by
 have RR : Hid (∀ W, Below w.heap.size w W → SlRd coreR W a2 x.2.2.1) := fun W hb => (fab_next R hb).cores
 have l1 : x.2.2.1.length ≤ 9223372036854775807 := R.coresl
 have l2 : x.2.2.2.2.1.length ≤ 9223372036854775807 := R.netl
 have l3 : x.2.2.2.1.1.length ≤ 9223372036854775807 := R.descsl
 have B := Below.refl w.heap.size w
 clear R
 go_enter Tryz.func18, Tryz.ntmps18
 go_upto_region 1 with fail
 generalize hu1w : w.alloc _ = u1w
 have F := boxH hu1w
 have bz := boxB hu1w
 have zF := boxL hu1w
 clear hu1w
 replace B := below_step B bz
 clear bz
 clear zF
 go_wp2
 go_loopw [3] (fun i wr => ∃ k : Nat, k ≤ x.2.2.1.length ∧ i = .int .i64 k ∧ (∀ j v, j < k → x.2.2.1[j]? = some v → idleC v = true) ∧ Below w.heap.size w wr ∧ wr.heap[w.heap.size]? = some (.cells #[.int .i64 x.1.1, .int .i64 x.1.2.1, .int .i64 x.1.2.2.1, .int .i64 x.1.2.2.2, .slice a1 x.2.1.1.length c1, .slice b1 x.2.1.2.length d1, .slice a2 x.2.2.1.length c2, .slice a3 x.2.2.2.1.1.length c3, .int .i64 x.2.2.2.1.2.1, .bool x.2.2.2.1.2.2.1, .slice b3 x.2.2.2.1.2.2.2.length d3, .slice a4 x.2.2.2.2.1.length c4, .slice a5 x.2.2.2.2.2.length c5] 49 (0, 0))) (fun i _ => x.2.2.1.length - (intOf i).toNat)
 case atStart => exact ⟨0, Nat.zero_le _, rfl, fun j v hj => by omega, B, F⟩
 case round =>
  clear B F
  obtain ⟨k, hk, rfl, hno, BB, FF⟩ := hrel
  obtain ⟨p0, p1, p2, p3, p4, p5, p6, p7, p8, p9, p10, p11, p12⟩ := cells_fabric FF
  by_cases hlt : k < x.2.2.1.length
  ·have hlt' : (k : Int) < (x.2.2.1.length : Int) := by omega
   obtain ⟨u, hx⟩ : ∃ u, x.2.2.1[k]? = some u := ⟨_, List.getElem?_eq_getElem hlt⟩
   obtain ⟨bb, off, cs, ra, hrdx, hcell⟩ := slrd_at (RR.out _ BB) hx
   have hpl := core_len hrdx
   obtain ⟨ga, gc, gb, gd, ha, hc, ia, ic, ja, jc, rfl⟩ := core_shape hrdx
   obtain ⟨x0, x1, x2, x3, x4, x5, x6, x7, x8⟩ := cellsAt9 hcell rfl
   subst ra
   have HF : Hid _ := FF
   have HX : Hid _ := hx
   have HNO : Hid _ := hno
   clear hcell hrdx hx hno FF
   by_cases hb : u.2.2.1 < (u.2.1.length : Int)
   ·have HN : Hid (x.2.2.1.all idleC = false) := all_not HX.out (by simp [idleC, hb])
    go_wp2_with fail
    go_quiet (fail)
    clear x0 x1 x2 x3 x4 x5 x6 x7 x8 p0 p1 p2 p3 p4 p5 p6 p7 p8 p9 p10 p11 p12
    go_wp2
    go_ret
    exact ⟨by rw [HN.out]; rfl, be_drewN BB _⟩
   ·have HE : Hid _ := idle_step HNO.out HX.out (by simp only [idleC, decide_eq_false hb]; rfl)
    go_wp2_with fail
    go_quiet (fail)
    clear x0 x1 x2 x3 x4 x5 x6 x7 x8 p0 p1 p2 p3 p4 p5 p6 p7 p8 p9 p10 p11 p12
    go_wp2
    go_roundw
    case rel => exact ⟨k + 1, by omega, by go_num, HE.out, be_drewN BB _, HF.out⟩
    case measure => simp [intOf]; omega
  ·have HA : Hid (x.2.2.1.all idleC = true) := all_upto fun j v hv => hno j v (by have := (List.getElem?_eq_some_iff.1 hv).1; omega) hv
   have hge : ¬ ((k : Int) < (x.2.2.1.length : Int)) := by omega
   clear hno FF
   by_cases hz : x.2.2.2.2.1.length = 0
   ·have hz' : (x.2.2.2.2.1.length : Int) = 0 := by omega
    by_cases hd : x.2.2.2.1.2.1 = (x.2.2.2.1.1.length : Int)
    ·go_wp2
     go_ret
     exact ⟨by first | (rw [HA.out]; simp [hz, hd]; done) | (simp [hz, hd]; done), BB⟩
    ·go_wp2
     go_ret
     exact ⟨by first | (rw [HA.out]; simp [hz, hd]; done) | (simp [hz, hd]; done), BB⟩
   ·have hz' : ¬ (x.2.2.2.2.1.length : Int) = 0 := by omega
    go_wp2
    go_ret
    exact ⟨by first | (rw [HA.out]; simp [hz]; done) | (simp [hz]; done), BB⟩
theorem specBound_any (x : FabricD) (a1 : Option Addr) (c1 : Nat) (b1 : Option Addr) (d1 : Nat) (a2 : Option Addr) (c2 : Nat) (a3 : Option Addr) (c3 : Nat) (b3 : Option Addr) (d3 : Nat) (a4 : Option Addr) (c4 : Nat) (a5 : Option Addr) (c5 : Nat) (w : World) (R : FabRd w x a1 c1 b1 d1 a2 c2 a3 c3 b3 d3 a4 c4 a5 c5) (h : fabricR.rd w [.int .i64 x.1.1, .int .i64 x.1.2.1, .int .i64 x.1.2.2.1, .int .i64 x.1.2.2.2, .slice a1 x.2.1.1.length c1, .slice b1 x.2.1.2.length d1, .slice a2 x.2.2.1.length c2, .slice a3 x.2.2.2.1.1.length c3, .int .i64 x.2.2.2.1.2.1, .bool x.2.2.2.1.2.2.1, .slice b3 x.2.2.2.1.2.2.2.length d3, .slice a4 x.2.2.2.2.1.length c4, .slice a5 x.2.2.2.2.2.length c5] x) (hbk : fabricM.bk x ≤ 1048576) :
    Calls Tryz.prog 10 #[.agg #[.int .i64 x.1.1, .int .i64 x.1.2.1, .int .i64 x.1.2.2.1, .int .i64 x.1.2.2.2, .slice a1 x.2.1.1.length c1, .slice b1 x.2.1.2.length d1, .slice a2 x.2.2.1.length c2, .slice a3 x.2.2.2.1.1.length c3, .int .i64 x.2.2.2.1.2.1, .bool x.2.2.2.1.2.2.1, .slice b3 x.2.2.2.1.2.2.2.length d3, .slice a4 x.2.2.2.2.1.length c4, .slice a5 x.2.2.2.2.2.length c5]] w fun e w' => e = .returned (.int .i64 (bouI x)) ∧ Below w.heap.size w w' := by
 have H0 : Hid (∀ W, Below w.heap.size w W → Calls Tryz.prog 17 #[.agg #[.int .i64 x.1.1, .int .i64 x.1.2.1, .int .i64 x.1.2.2.1, .int .i64 x.1.2.2.2, .slice a1 x.2.1.1.length c1, .slice b1 x.2.1.2.length d1, .slice a2 x.2.2.1.length c2, .slice a3 x.2.2.2.1.1.length c3, .int .i64 x.2.2.2.1.2.1, .bool x.2.2.2.1.2.2.1, .slice b3 x.2.2.2.1.2.2.2.length d3, .slice a4 x.2.2.2.2.1.length c4, .slice a5 x.2.2.2.2.2.length c5]] W fun e w' => e = .returned (.bool (fabI x)) ∧ Below W.heap.size W w') := fun W hb => specFab_u [.int .i64 x.1.1, .int .i64 x.1.2.1, .int .i64 x.1.2.2.1, .int .i64 x.1.2.2.2, .slice a1 x.2.1.1.length c1, .slice b1 x.2.1.2.length d1, .slice a2 x.2.2.1.length c2, .slice a3 x.2.2.2.1.1.length c3, .int .i64 x.2.2.2.1.2.1, .bool x.2.2.2.1.2.2.1, .slice b3 x.2.2.2.1.2.2.2.length d3, .slice a4 x.2.2.2.2.1.length c4, .slice a5 x.2.2.2.2.2.length c5] x W (rd_next h hb) hbk
 have B := Below.refl w.heap.size w
 cases hf : fabI x
 ·have HV : Hid (bouI x = -1) := by unfold Hid bouI; rw [hf]; rfl
  rw [hf] at H0
  clear R h
  go_enter Tryz.func10, Tryz.ntmps10
  go_upto_region 1 with fail
  generalize hu1w : w.alloc _ = u1w
  have F := boxH hu1w
  have bz := boxB hu1w
  have zF := boxL hu1w
  clear hu1w
  replace B := below_step B bz
  clear bz
  clear zF
  obtain ⟨Fc0, Fc1, Fc2, Fc3, Fc4, Fc5, Fc6, Fc7, Fc8, Fc9, Fc10, Fc11, Fc12⟩ := cells_fabric F
  have Flt := (Array.getElem?_eq_some_iff.1 F).1
  go_wp2_with fail
  clear Fc0 Fc1 Fc2 Fc3 Fc4 Fc5 Fc6 Fc7 Fc8 Fc9 Fc10 Fc11 Fc12 Flt
  refine (H0.out _ B).mono ?_
  rintro e u2w ⟨rfl, bq⟩
  replace B := below_step B bq
  replace F := row_keep bq F
  clear bq
  obtain ⟨Fc0, Fc1, Fc2, Fc3, Fc4, Fc5, Fc6, Fc7, Fc8, Fc9, Fc10, Fc11, Fc12⟩ := cells_fabric F
  have Flt := (Array.getElem?_eq_some_iff.1 F).1
  have HB : Hid _ := B
  clear B F
  go_wp2
  go_ret
  exact ⟨ret_int HV.out.symm, HB.out⟩
 ·have HV : Hid (bouI x = ((x.2.2.2.1.1.length + lensI (progsL x) : Nat) : Int) * (7 + 2 * x.1.1)) := by unfold Hid bouI; rw [if_pos hf]
  obtain ⟨hp4, hlen⟩ := progs_le hf
  obtain ⟨⟨hc1, hc4⟩, hcl, -⟩ := fab_facts hf
  have RR : Hid (∀ W, Below w.heap.size w W → SlRd coreR W a2 x.2.2.1) := fun W hb => (fab_next R hb).cores
  have HN : Hid _ := bound_num (N := x.2.2.2.1.1.length + lensI (progsL x)) hlen hc1 hc4
  have hel : (progsL x).length = x.2.2.1.length := by simp [progsL]
  rw [hf] at H0
  clear R h
  go_enter Tryz.func10, Tryz.ntmps10
  go_upto_region 1 with fail
  generalize hu1w : w.alloc _ = u1w
  have F := boxH hu1w
  have bz := boxB hu1w
  have zF := boxL hu1w
  clear hu1w
  replace B := below_step B bz
  clear bz
  clear zF
  obtain ⟨Fc0, Fc1, Fc2, Fc3, Fc4, Fc5, Fc6, Fc7, Fc8, Fc9, Fc10, Fc11, Fc12⟩ := cells_fabric F
  have Flt := (Array.getElem?_eq_some_iff.1 F).1
  go_wp2_with fail
  clear Fc0 Fc1 Fc2 Fc3 Fc4 Fc5 Fc6 Fc7 Fc8 Fc9 Fc10 Fc11 Fc12 Flt
  refine (H0.out _ B).mono ?_
  rintro e u2w ⟨rfl, bq⟩
  replace B := below_step B bq
  replace F := row_keep bq F
  clear bq
  obtain ⟨p0, p1, p2, p3, p4, p5, p6, p7, p8, p9, p10, p11, p12⟩ := cells_fabric F
  clear F
  go_wp2
  go_loop [3, 4] (fun n i => ∃ k : Nat, k ≤ x.2.2.1.length ∧ i = .int .i64 k ∧ n = .int .i64 ((x.2.2.2.1.1.length + lensI ((progsL x).take k) : Nat) : Int)) (fun _ i => x.2.2.1.length - (intOf i).toNat)
  case atStart => exact ⟨0, Nat.zero_le _, rfl, by simp [lensI]⟩
  case round =>
   obtain ⟨k, hk, rfl, rfl⟩ := hrel
   by_cases hlt : k < x.2.2.1.length
   ·have hlt' : (k : Int) < (x.2.2.1.length : Int) := by omega
    obtain ⟨u, hx⟩ : ∃ u, x.2.2.1[k]? = some u := ⟨_, List.getElem?_eq_getElem hlt⟩
    obtain ⟨bb, off, cs, ra, hrdx, hcell⟩ := slrd_at (RR.out _ B) hx
    obtain ⟨ga, gc, gb, gd, ha, hc, ia, ic, ja, jc, rfl⟩ := core_shape hrdx
    obtain ⟨x0, x1, x2, x3, x4, x5, x6, x7, x8⟩ := cellsAt9 hcell rfl
    have HT : Hid (lensI ((progsL x).take (k + 1)) = _) := lens_step (progs_at hx)
    have hg := lens_get (progs_at hx)
    clear hcell hx hrdx
    subst ra
    generalize lensI ((progsL x).take k) = t at HT hg ⊢
    go_wp2
    go_round
    case rel => exact ⟨k + 1, by omega, by go_num, by rw [HT.out]; go_num⟩
    case measure => simp [intOf]; omega
   ·have hkl : k = (progsL x).length := by omega
    subst hkl
    rw [List.take_length]
    have hge : ¬ (((progsL x).length : Int) < (x.2.2.1.length : Int)) := by omega
    have HT : Hid _ := bound_two hlen hc1 hc4
    go_wp2
    go_ret
    exact ⟨ret_int (by rw [HV.out]; exact HT.out), B⟩
theorem specBound_u (cs : List Value) (x : FabricD) (w : World) (h : fabricR.rd w cs x) (hbk : fabricM.bk x ≤ 1048576) :
    Calls Tryz.prog 10 #[aggV cs] w fun e w' => e = .returned (.int .i64 (bouI x)) ∧ Below w.heap.size w w' := by
 obtain ⟨a1, c1, b1, d1, a2, c2, a3, c3, b3, d3, a4, c4, a5, c5, rfl, R⟩ := fab_open h
 exact specBound_any x a1 c1 b1 d1 a2 c2 a3 c3 b3 d3 a4 c4 a5 c5 w R h hbk
theorem implBound_u (cs : List Value) (x : FabricD) (w : World) (hh : Hold w) (h : fabricR.rd w cs x) :
    Calls Tryz.prog 11 #[aggV cs] w fun e w' => e = .returned (.int .i64 (bouI x)) ∧ Below w.heap.size w w' := by
 obtain ⟨a1, c1, b1, d1, a2, c2, a3, c3, b3, d3, a4, c4, a5, c5, rfl, R⟩ := fab_open h
 exact implBound_any x a1 c1 b1 d1 a2 c2 a3 c3 b3 d3 a4 c4 a5 c5 w R hh
end Go.Proofs.YtiiipclglngdhaaGreatDoor
