import Derived.Test.YthnfkacboijneaaGreatDoorRows
import Derived.Test.YthnfkacboijneaaGreatDoorP05Boxes
import Derived.Test.YthnfkacboijneaaGreatDoorP08Errs
import Derived.Test.YthnfkacboijneaaGreatDoorP52UOpSS
import Derived.WalkKit
import Derived.ProofKit
import Derived.OpenShut
import Derived.ShutString
import Derived.ChangeOld
import Derived.Below
import Derived.Carry
import Derived.Lib.SmallJoins

/- At every layout, every list of programs and every list of Descs, impl.NewFabric answers as spec.NewFabric does, field by field, writes into no argument, keeps nothing of one, and its answer owns its memory, behind another call too: the law FnExactNewFabric returns true and changes nothing that was there. No condition. -/
namespace Go.Proofs.YthnfkacboijneaaGreatDoor.fnExactNewFabric
open Go.ChangeShapes Go.WideShapes Go.ChangeAt Go.RowKit Go.Joins
open Go.ChangeMaps (open_string shut_string)
set_option linter.unusedVariables false

set_option maxHeartbeats 8000000 in
set_option maxRecDepth 100000 in
theorem walk (cs0 : Array Value) (x0 : RepOf (cfgR)) (a1 : Option Addr) (cap1 : Nat) (x1 : RepOf (opssR)) (a2 : Option Addr) (cap2 : Nat) (x2 : RepOf (descsR)) (w : World) (w0 : (cfgR).rd w cs0.toList x0) (w1 : SlRd opsR w a1 x1) (m1 : x1.length ≤ cap1) (l1 : cap1 ≤ maxLen) (w2 : SlRd descR w a2 x2) (m2 : x2.length ≤ cap2) (l2 : cap2 ≤ maxLen) (hh : Hold w) :
    Calls Tryz.prog 4 #[.agg cs0, .slice a1 x1.length cap1, .slice a2 x2.length cap2] w fun e w' => e = .returned (.bool true) ∧ Below w.heap.size w w' := by
  obtain ⟨hcs0, hci0⟩ := cfg_rd w0
  obtain rfl := arr_of hcs0
  have HR0 : Hid (∀ W, Below w.heap.size w W → cfgR.rd W [.int .i64 x0.1, .int .i64 x0.2.1, .int .i64 x0.2.2.1, .int .i64 x0.2.2.2] x0) := fun W hb => rd_next w0 hb
  have HCI0 : Hid _ := hci0
  clear w0 hcs0 hci0
  have HR1 : Hid (∀ W, Below w.heap.size w W → opssR.rd W [.slice a1 x1.length cap1] x1) := fun W hb => ⟨_, _, rfl, m1, l1, slrd_next w1 hb⟩
  have HR2 : Hid (∀ W, Below w.heap.size w W → descsR.rd W [.slice a2 x2.length cap2] x2) := fun W hb => ⟨_, _, rfl, m2, l2, slrd_next w2 hb⟩
  have hsm := newFab_small x0 x1 x2
  have hev := newFab_events x0 x1 x2
  generalize hres : newFabI x0 x1 x2 = res at hsm hev
  have HRES : Hid (newFabI x0 x1 x2 = res) := hres
  clear hres
  obtain ⟨y0, y1⟩ := res
  simp only at hsm hev
  have HEV : Hid _ := hev
  clear hev
  have CSP : Hid (∀ W cs1 cs2, Hold W → opssR.rd W cs1 x1 → opssM.bk x1 ≤ 1048576 → descsR.rd W cs2 x2 → descsM.bk x2 ≤ 1048576 → Calls Tryz.prog 12 #[.agg #[.int .i64 x0.1, .int .i64 x0.2.1, .int .i64 x0.2.2.1, .int .i64 x0.2.2.2], cell1 cs1, cell1 cs2] W fun e w' => ∃ ds0, e = .returned (.tuple #[aggV ds0, .int .i64 y1]) ∧ fabricR.rd w' ds0 y0 ∧ Below W.heap.size W w') := fun W cs1 cs2 hd h1 k1 h2 k2 => by have := specNewFab_w x0 cs1 cs2 x1 x2 W HCI0.out h1 h2; rw [HRES.out] at this; exact this
  have CIM : Hid (∀ W cs1 cs2, Hold W → opssR.rd W cs1 x1 → opssM.bk x1 ≤ 1048576 → descsR.rd W cs2 x2 → descsM.bk x2 ≤ 1048576 → Calls Tryz.prog 16 #[.agg #[.int .i64 x0.1, .int .i64 x0.2.1, .int .i64 x0.2.2.1, .int .i64 x0.2.2.2], cell1 cs1, cell1 cs2] W fun e w' => ∃ ds0, e = .returned (.tuple #[aggV ds0, .int .i64 y1]) ∧ MadeR fabricR W w' ds0 y0) := fun W cs1 cs2 hd h1 k1 h2 k2 => by have := implNewFab_w x0 cs1 cs2 x1 x2 W HCI0.out hd h1 h2; rw [HRES.out] at this; exact this
  clear HRES
  have b0 := Below.refl w.heap.size w
  go_enter Tryz.func4, Tryz.ntmps4
  go_wp2_with fail
  have A0 := heap_at w (.cells #[.int .i64 x0.1, .int .i64 x0.2.1, .int .i64 x0.2.2.1, .int .i64 x0.2.2.2] 23)
  have bzA0 := box_below w (.cells #[.int .i64 x0.1, .int .i64 x0.2.1, .int .i64 x0.2.2.1, .int .i64 x0.2.2.2] 23)
  replace b0 := below_step b0 bzA0
  clear bzA0
  generalize w.alloc (.cells #[.int .i64 x0.1, .int .i64 x0.2.1, .int .i64 x0.2.2.1, .int .i64 x0.2.2.2] 23) = v1w at b0 A0 ⊢
  refine (szOpss_u [.slice a1 x1.length cap1] x1 (1048576) _ (HR1.out _ b0) (by omega) (by omega)).mono ?_
  rintro e v2w ⟨rfl, bq⟩
  replace b0 := below_step b0 bq
  replace A0 := row_keep bq A0
  clear bq
  by_cases hf1 : ((opssM.bk x1 : Nat) : Int) ≤ 1048576
  · have HS1 : Hid (szI (opssM.bk x1) (1048576) = 1048576 - (opssM.bk x1 : Int)) := szI_yes hf1
    have hg1 : ¬ (1048576 - ((opssM.bk x1 : Nat) : Int) < 0) := by omega
    have hbk1 : opssM.bk x1 ≤ 1048576 := by omega
    have hbl1 : opssM.bk x1 ≤ lot := Nat.le_trans hbk1 (by decide)
    rw [HS1.out]
    obtain ⟨A0c0, A0c1, A0c2, A0c3⟩ := cells_4 A0
    have A0lt := (Array.getElem?_eq_some_iff.1 A0).1
    go_wp2_with fail
    clear A0c0 A0c1 A0c2 A0c3 A0lt
    refine (szDescs_u [.slice a2 x2.length cap2] x2 (1048576 - (opssM.bk x1 : Int)) _ (HR2.out _ b0) (by omega) (by omega)).mono ?_
    rintro e v3w ⟨rfl, bq⟩
    replace b0 := below_step b0 bq
    replace A0 := row_keep bq A0
    clear bq
    by_cases hf2 : ((descsM.bk x2 : Nat) : Int) ≤ 1048576 - (opssM.bk x1 : Int)
    · have HS2 : Hid (szI (descsM.bk x2) (1048576 - (opssM.bk x1 : Int)) = 1048576 - (opssM.bk x1 : Int) - (descsM.bk x2 : Int)) := szI_yes hf2
      have hg2 : ¬ (1048576 - (opssM.bk x1 : Int) - ((descsM.bk x2 : Nat) : Int) < 0) := by omega
      have hbk2 : descsM.bk x2 ≤ 1048576 := by omega
      have hbl2 : descsM.bk x2 ≤ lot := Nat.le_trans hbk2 (by decide)
      rw [HS2.out]
      replace hsm := hsm hbk1 hbk2
      have hxm1 : (opssM.cV x1 : Int) ≤ 268435456 := by have := bv_opss x1; omega
      generalize hkx1 : opssM.cV x1 = kx1 at hxm1
      have HKX1 : Hid (opssM.cV x1 = kx1) := hkx1
      clear hkx1
      have hxm2 : (descsM.cV x2 : Int) ≤ 268435456 := by have := bv_descs x2; omega
      generalize hkx2 : descsM.cV x2 = kx2 at hxm2
      have HKX2 : Hid (descsM.cV x2 = kx2) := hkx2
      clear hkx2
      have hb0 : fabricM.bk y0 ≤ 8388608 := Nat.le_trans hsm (by decide)
      have hl0 : fabricM.bk y0 ≤ lot := Nat.le_trans hb0 (by decide)
      have hgm0 : (fabricM.cV y0 : Int) ≤ 268435456 := by have := bv_fabric y0; omega
      generalize hky0 : fabricM.cV y0 = ky0 at hgm0
      have HKY0 : Hid (fabricM.cV y0 = ky0) := hky0
      clear hky0
      have hlot : (lot : Int) = 4398046511104 := rfl
      obtain ⟨A0c0, A0c1, A0c2, A0c3⟩ := cells_4 A0
      have A0lt := (Array.getElem?_eq_some_iff.1 A0).1
      go_wp2_with fail
      clear A0c0 A0c1 A0c2 A0c3 A0lt
      refine (toConfig_u [.int .i64 x0.1, .int .i64 x0.2.1, .int .i64 x0.2.2.1, .int .i64 x0.2.2.2] x0 _ (HR0.out _ b0) (Nat.zero_le _)).mono ?_
      rintro e v4w ⟨ds, rfl, mm⟩
      obtain ⟨rfl, -⟩ := cfg_rd4 (cfgR.own_rd mm.1)
      rw [show aggV [.int .i64 x0.1, .int .i64 x0.2.1, .int .i64 x0.2.2.1, .int .i64 x0.2.2.2] = .agg #[.int .i64 x0.1, .int .i64 x0.2.1, .int .i64 x0.2.2.1, .int .i64 x0.2.2.2] from rfl]
      have bq := mm.2
      clear mm
      replace b0 := below_step b0 bq
      replace A0 := row_keep bq A0
      clear bq
      obtain ⟨A0c0, A0c1, A0c2, A0c3⟩ := cells_4 A0
      have A0lt := (Array.getElem?_eq_some_iff.1 A0).1
      go_wp2_with fail
      clear A0c0 A0c1 A0c2 A0c3 A0lt
      refine (toOpss_u [.slice a1 x1.length cap1] x1 _ (HR1.out _ b0) hbk1).mono ?_
      rintro e v5w ⟨ds, rfl, mm⟩
      have rr := opssR.own_rd mm.1
      obtain ⟨gap1, gcp1, ro, -, -, -⟩ := rr
      obtain rfl := ro
      rw [show cell1 [.slice gap1 x1.length gcp1] = .slice gap1 x1.length gcp1 from rfl]
      have P1A0 : w.heap.size < v4w.heap.size ∨ v5w.heap.size ≤ w.heap.size := .inl (Array.getElem?_eq_some_iff.1 A0).1
      have P1lo : w.heap.size ≤ v4w.heap.size := b0.size
      have P1 := owned_made (R := opssR) mm
      have mbP1 := mm.2
      replace b0 := below_step b0 mbP1
      replace A0 := row_keep mbP1 A0
      clear mbP1 mm
      obtain ⟨A0c0, A0c1, A0c2, A0c3⟩ := cells_4 A0
      have A0lt := (Array.getElem?_eq_some_iff.1 A0).1
      go_wp2_with fail
      clear A0c0 A0c1 A0c2 A0c3 A0lt
      refine (toDescs_u [.slice a2 x2.length cap2] x2 _ (HR2.out _ b0) hbk2).mono ?_
      rintro e v6w ⟨ds, rfl, mm⟩
      have rr := descsR.own_rd mm.1
      obtain ⟨gap2, gcp2, ro, -, -, -⟩ := rr
      obtain rfl := ro
      rw [show cell1 [.slice gap2 x2.length gcp2] = .slice gap2 x2.length gcp2 from rfl]
      have P2A0 : w.heap.size < v5w.heap.size ∨ v6w.heap.size ≤ w.heap.size := .inl (Array.getElem?_eq_some_iff.1 A0).1
      have P1P2 : v5w.heap.size ≤ v5w.heap.size := P1.2
      have P2lo : w.heap.size ≤ v5w.heap.size := b0.size
      have P2 := owned_made (R := descsR) mm
      have mbP2 := mm.2
      replace b0 := below_step b0 mbP2
      replace A0 := row_keep mbP2 A0
      replace P1 := owned_next P1 mbP2
      clear mbP2 mm
      obtain ⟨A0c0, A0c1, A0c2, A0c3⟩ := cells_4 A0
      have A0lt := (Array.getElem?_eq_some_iff.1 A0).1
      go_wp2_with fail
      clear A0c0 A0c1 A0c2 A0c3 A0lt
      refine (CSP.out _ [.slice gap1 x1.length gcp1] [.slice gap2 x2.length gcp2] (hh.goes b0) (opssR.own_rd P1.1) hbk1 (descsR.own_rd P2.1) hbk2).mono ?_
      rintro e v7w ⟨ds0, rfl, rd0, bq⟩
      replace b0 := below_step b0 bq
      replace A0 := row_keep bq A0
      replace P1 := owned_next P1 bq
      replace P2 := owned_next P2 bq
      clear bq
      clear P1
      clear P2
      obtain ⟨a1q0, c1q0, b1q0, d1q0, a2q0, c2q0, a3q0, c3q0, b3q0, d3q0, a4q0, c4q0, a5q0, c5q0, rfl⟩ := fabric_shape (rd0)
      rw [show aggV [.int .i64 y0.1.1, .int .i64 y0.1.2.1, .int .i64 y0.1.2.2.1, .int .i64 y0.1.2.2.2, .slice a1q0 y0.2.1.1.length c1q0, .slice b1q0 y0.2.1.2.length d1q0, .slice a2q0 y0.2.2.1.length c2q0, .slice a3q0 y0.2.2.2.1.1.length c3q0, .int .i64 y0.2.2.2.1.2.1, .bool y0.2.2.2.1.2.2.1, .slice b3q0 y0.2.2.2.1.2.2.2.length d3q0, .slice a4q0 y0.2.2.2.2.1.length c4q0, .slice a5q0 y0.2.2.2.2.2.length c5q0] = .agg #[.int .i64 y0.1.1, .int .i64 y0.1.2.1, .int .i64 y0.1.2.2.1, .int .i64 y0.1.2.2.2, .slice a1q0 y0.2.1.1.length c1q0, .slice b1q0 y0.2.1.2.length d1q0, .slice a2q0 y0.2.2.1.length c2q0, .slice a3q0 y0.2.2.2.1.1.length c3q0, .int .i64 y0.2.2.2.1.2.1, .bool y0.2.2.2.1.2.2.1, .slice b3q0 y0.2.2.2.1.2.2.2.length d3q0, .slice a4q0 y0.2.2.2.2.1.length c4q0, .slice a5q0 y0.2.2.2.2.2.length c5q0] from rfl]
      have S0 := sight_of rd0
      clear rd0
      obtain ⟨A0c0, A0c1, A0c2, A0c3⟩ := cells_4 A0
      have A0lt := (Array.getElem?_eq_some_iff.1 A0).1
      go_wp2_with fail
      clear A0c0 A0c1 A0c2 A0c3 A0lt
      have ZQ0 := heap_at v7w (.cells #[.int .i64 y0.1.1, .int .i64 y0.1.2.1, .int .i64 y0.1.2.2.1, .int .i64 y0.1.2.2.2, .slice a1q0 y0.2.1.1.length c1q0, .slice b1q0 y0.2.1.2.length d1q0, .slice a2q0 y0.2.2.1.length c2q0, .slice a3q0 y0.2.2.2.1.1.length c3q0, .int .i64 y0.2.2.2.1.2.1, .bool y0.2.2.2.1.2.2.1, .slice b3q0 y0.2.2.2.1.2.2.2.length d3q0, .slice a4q0 y0.2.2.2.2.1.length c4q0, .slice a5q0 y0.2.2.2.2.2.length c5q0] 49)
      have bzZQ0 := box_below v7w (.cells #[.int .i64 y0.1.1, .int .i64 y0.1.2.1, .int .i64 y0.1.2.2.1, .int .i64 y0.1.2.2.2, .slice a1q0 y0.2.1.1.length c1q0, .slice b1q0 y0.2.1.2.length d1q0, .slice a2q0 y0.2.2.1.length c2q0, .slice a3q0 y0.2.2.2.1.1.length c3q0, .int .i64 y0.2.2.2.1.2.1, .bool y0.2.2.2.1.2.2.1, .slice b3q0 y0.2.2.2.1.2.2.2.length d3q0, .slice a4q0 y0.2.2.2.2.1.length c4q0, .slice a5q0 y0.2.2.2.2.2.length c5q0] 49)
      replace b0 := below_step b0 bzZQ0
      replace A0 := row_keep bzZQ0 A0
      replace S0 := sight_next S0 bzZQ0
      clear bzZQ0
      generalize v7w.alloc (.cells #[.int .i64 y0.1.1, .int .i64 y0.1.2.1, .int .i64 y0.1.2.2.1, .int .i64 y0.1.2.2.2, .slice a1q0 y0.2.1.1.length c1q0, .slice b1q0 y0.2.1.2.length d1q0, .slice a2q0 y0.2.2.1.length c2q0, .slice a3q0 y0.2.2.2.1.1.length c3q0, .int .i64 y0.2.2.2.1.2.1, .bool y0.2.2.2.1.2.2.1, .slice b3q0 y0.2.2.2.1.2.2.2.length d3q0, .slice a4q0 y0.2.2.2.2.1.length c4q0, .slice a5q0 y0.2.2.2.2.2.length c5q0] 49) = v8w at b0 A0 ZQ0 S0 ⊢
      obtain ⟨A0c0, A0c1, A0c2, A0c3⟩ := cells_4 A0
      have A0lt := (Array.getElem?_eq_some_iff.1 A0).1
      obtain ⟨ZQ0c0, ZQ0c1, ZQ0c2, ZQ0c3, ZQ0c4, ZQ0c5, ZQ0c6, ZQ0c7, ZQ0c8, ZQ0c9, ZQ0c10, ZQ0c11, ZQ0c12⟩ := cells_fabric ZQ0
      have ZQ0lt := (Array.getElem?_eq_some_iff.1 ZQ0).1
      go_wp2_with fail
      clear A0c0 A0c1 A0c2 A0c3 A0lt ZQ0c0 ZQ0c1 ZQ0c2 ZQ0c3 ZQ0c4 ZQ0c5 ZQ0c6 ZQ0c7 ZQ0c8 ZQ0c9 ZQ0c10 ZQ0c11 ZQ0c12 ZQ0lt
      refine (toOpss_u [.slice a1 x1.length cap1] x1 _ (HR1.out _ b0) hbk1).mono ?_
      rintro e v9w ⟨ds, rfl, mm⟩
      have rr := opssR.own_rd mm.1
      obtain ⟨gax1, gcx1, ro, -, -, -⟩ := rr
      obtain rfl := ro
      rw [show cell1 [.slice gax1 x1.length gcx1] = .slice gax1 x1.length gcx1 from rfl]
      have X1S0 : v7w.heap.size ≤ v8w.heap.size := sight_lt S0
      have X1A0 : w.heap.size < v8w.heap.size ∨ v9w.heap.size ≤ w.heap.size := .inl (Array.getElem?_eq_some_iff.1 A0).1
      have X1ZQ0 : v7w.heap.size < v8w.heap.size ∨ v9w.heap.size ≤ v7w.heap.size := .inl (Array.getElem?_eq_some_iff.1 ZQ0).1
      have X1lo : w.heap.size ≤ v8w.heap.size := b0.size
      have X1 := owned_made (R := opssR) mm
      have mbX1 := mm.2
      replace b0 := below_step b0 mbX1
      replace A0 := row_keep mbX1 A0
      replace ZQ0 := row_keep mbX1 ZQ0
      replace S0 := sight_next S0 mbX1
      clear mbX1 mm
      obtain ⟨A0c0, A0c1, A0c2, A0c3⟩ := cells_4 A0
      have A0lt := (Array.getElem?_eq_some_iff.1 A0).1
      obtain ⟨ZQ0c0, ZQ0c1, ZQ0c2, ZQ0c3, ZQ0c4, ZQ0c5, ZQ0c6, ZQ0c7, ZQ0c8, ZQ0c9, ZQ0c10, ZQ0c11, ZQ0c12⟩ := cells_fabric ZQ0
      have ZQ0lt := (Array.getElem?_eq_some_iff.1 ZQ0).1
      go_wp2_with fail
      clear A0c0 A0c1 A0c2 A0c3 A0lt ZQ0c0 ZQ0c1 ZQ0c2 ZQ0c3 ZQ0c4 ZQ0c5 ZQ0c6 ZQ0c7 ZQ0c8 ZQ0c9 ZQ0c10 ZQ0c11 ZQ0c12 ZQ0lt
      refine (toDescs_u [.slice a2 x2.length cap2] x2 _ (HR2.out _ b0) hbk2).mono ?_
      rintro e v10w ⟨ds, rfl, mm⟩
      have rr := descsR.own_rd mm.1
      obtain ⟨gax2, gcx2, ro, -, -, -⟩ := rr
      obtain rfl := ro
      rw [show cell1 [.slice gax2 x2.length gcx2] = .slice gax2 x2.length gcx2 from rfl]
      have X2S0 : v7w.heap.size ≤ v9w.heap.size := sight_lt S0
      have X2A0 : w.heap.size < v9w.heap.size ∨ v10w.heap.size ≤ w.heap.size := .inl (Array.getElem?_eq_some_iff.1 A0).1
      have X2ZQ0 : v7w.heap.size < v9w.heap.size ∨ v10w.heap.size ≤ v7w.heap.size := .inl (Array.getElem?_eq_some_iff.1 ZQ0).1
      have X1X2 : v9w.heap.size ≤ v9w.heap.size := X1.2
      have X2lo : w.heap.size ≤ v9w.heap.size := b0.size
      have X2 := owned_made (R := descsR) mm
      have mbX2 := mm.2
      replace b0 := below_step b0 mbX2
      replace A0 := row_keep mbX2 A0
      replace ZQ0 := row_keep mbX2 ZQ0
      replace X1 := owned_next X1 mbX2
      replace S0 := sight_next S0 mbX2
      clear mbX2 mm
      obtain ⟨A0c0, A0c1, A0c2, A0c3⟩ := cells_4 A0
      have A0lt := (Array.getElem?_eq_some_iff.1 A0).1
      obtain ⟨ZQ0c0, ZQ0c1, ZQ0c2, ZQ0c3, ZQ0c4, ZQ0c5, ZQ0c6, ZQ0c7, ZQ0c8, ZQ0c9, ZQ0c10, ZQ0c11, ZQ0c12⟩ := cells_fabric ZQ0
      have ZQ0lt := (Array.getElem?_eq_some_iff.1 ZQ0).1
      go_wp2_with fail
      clear A0c0 A0c1 A0c2 A0c3 A0lt ZQ0c0 ZQ0c1 ZQ0c2 ZQ0c3 ZQ0c4 ZQ0c5 ZQ0c6 ZQ0c7 ZQ0c8 ZQ0c9 ZQ0c10 ZQ0c11 ZQ0c12 ZQ0lt
      refine (toConfig_u [.int .i64 x0.1, .int .i64 x0.2.1, .int .i64 x0.2.2.1, .int .i64 x0.2.2.2] x0 _ (HR0.out _ b0) (Nat.zero_le _)).mono ?_
      rintro e v11w ⟨ds, rfl, mm⟩
      obtain ⟨rfl, -⟩ := cfg_rd4 (cfgR.own_rd mm.1)
      rw [show aggV [.int .i64 x0.1, .int .i64 x0.2.1, .int .i64 x0.2.2.1, .int .i64 x0.2.2.2] = .agg #[.int .i64 x0.1, .int .i64 x0.2.1, .int .i64 x0.2.2.1, .int .i64 x0.2.2.2] from rfl]
      have bq := mm.2
      clear mm
      replace b0 := below_step b0 bq
      replace A0 := row_keep bq A0
      replace ZQ0 := row_keep bq ZQ0
      replace X1 := owned_next X1 bq
      replace X2 := owned_next X2 bq
      replace S0 := sight_next S0 bq
      clear bq
      obtain ⟨A0c0, A0c1, A0c2, A0c3⟩ := cells_4 A0
      have A0lt := (Array.getElem?_eq_some_iff.1 A0).1
      obtain ⟨ZQ0c0, ZQ0c1, ZQ0c2, ZQ0c3, ZQ0c4, ZQ0c5, ZQ0c6, ZQ0c7, ZQ0c8, ZQ0c9, ZQ0c10, ZQ0c11, ZQ0c12⟩ := cells_fabric ZQ0
      have ZQ0lt := (Array.getElem?_eq_some_iff.1 ZQ0).1
      go_wp2_with fail
      clear A0c0 A0c1 A0c2 A0c3 A0lt ZQ0c0 ZQ0c1 ZQ0c2 ZQ0c3 ZQ0c4 ZQ0c5 ZQ0c6 ZQ0c7 ZQ0c8 ZQ0c9 ZQ0c10 ZQ0c11 ZQ0c12 ZQ0lt
      refine (CIM.out _ [.slice gax1 x1.length gcx1] [.slice gax2 x2.length gcx2] (hh.goes b0) (opssR.own_rd X1.1) hbk1 (descsR.own_rd X2.1) hbk2).mono ?_
      rintro e v12w ⟨ds0, rfl, mm⟩
      obtain ⟨a1g0, c1g0, b1g0, d1g0, a2g0, c2g0, a3g0, c3g0, b3g0, d3g0, a4g0, c4g0, a5g0, c5g0, rfl⟩ := fabric_shape (fabricR.own_rd mm.1)
      rw [show aggV [.int .i64 y0.1.1, .int .i64 y0.1.2.1, .int .i64 y0.1.2.2.1, .int .i64 y0.1.2.2.2, .slice a1g0 y0.2.1.1.length c1g0, .slice b1g0 y0.2.1.2.length d1g0, .slice a2g0 y0.2.2.1.length c2g0, .slice a3g0 y0.2.2.2.1.1.length c3g0, .int .i64 y0.2.2.2.1.2.1, .bool y0.2.2.2.1.2.2.1, .slice b3g0 y0.2.2.2.1.2.2.2.length d3g0, .slice a4g0 y0.2.2.2.2.1.length c4g0, .slice a5g0 y0.2.2.2.2.2.length c5g0] = .agg #[.int .i64 y0.1.1, .int .i64 y0.1.2.1, .int .i64 y0.1.2.2.1, .int .i64 y0.1.2.2.2, .slice a1g0 y0.2.1.1.length c1g0, .slice b1g0 y0.2.1.2.length d1g0, .slice a2g0 y0.2.2.1.length c2g0, .slice a3g0 y0.2.2.2.1.1.length c3g0, .int .i64 y0.2.2.2.1.2.1, .bool y0.2.2.2.1.2.2.1, .slice b3g0 y0.2.2.2.1.2.2.2.length d3g0, .slice a4g0 y0.2.2.2.2.1.length c4g0, .slice a5g0 y0.2.2.2.2.2.length c5g0] from rfl]
      have GGS0 : v7w.heap.size ≤ v11w.heap.size := sight_lt S0
      have GGA0 : w.heap.size < v11w.heap.size ∨ v12w.heap.size ≤ w.heap.size := .inl (Array.getElem?_eq_some_iff.1 A0).1
      have GGZQ0 : v7w.heap.size < v11w.heap.size ∨ v12w.heap.size ≤ v7w.heap.size := .inl (Array.getElem?_eq_some_iff.1 ZQ0).1
      have X1GG : v9w.heap.size ≤ v11w.heap.size := X1.2
      have X2GG : v10w.heap.size ≤ v11w.heap.size := X2.2
      have GGlo : w.heap.size ≤ v11w.heap.size := b0.size
      have GG := owned_made (R := fabricR) mm
      have mbGG := mm.2
      replace b0 := below_step b0 mbGG
      replace A0 := row_keep mbGG A0
      replace ZQ0 := row_keep mbGG ZQ0
      replace X1 := owned_next X1 mbGG
      replace X2 := owned_next X2 mbGG
      replace S0 := sight_next S0 mbGG
      clear mbGG mm
      obtain ⟨A0c0, A0c1, A0c2, A0c3⟩ := cells_4 A0
      have A0lt := (Array.getElem?_eq_some_iff.1 A0).1
      obtain ⟨ZQ0c0, ZQ0c1, ZQ0c2, ZQ0c3, ZQ0c4, ZQ0c5, ZQ0c6, ZQ0c7, ZQ0c8, ZQ0c9, ZQ0c10, ZQ0c11, ZQ0c12⟩ := cells_fabric ZQ0
      have ZQ0lt := (Array.getElem?_eq_some_iff.1 ZQ0).1
      go_wp2_with fail
      clear A0c0 A0c1 A0c2 A0c3 A0lt ZQ0c0 ZQ0c1 ZQ0c2 ZQ0c3 ZQ0c4 ZQ0c5 ZQ0c6 ZQ0c7 ZQ0c8 ZQ0c9 ZQ0c10 ZQ0c11 ZQ0c12 ZQ0lt
      have ZG0 := heap_at v12w (.cells #[.int .i64 y0.1.1, .int .i64 y0.1.2.1, .int .i64 y0.1.2.2.1, .int .i64 y0.1.2.2.2, .slice a1g0 y0.2.1.1.length c1g0, .slice b1g0 y0.2.1.2.length d1g0, .slice a2g0 y0.2.2.1.length c2g0, .slice a3g0 y0.2.2.2.1.1.length c3g0, .int .i64 y0.2.2.2.1.2.1, .bool y0.2.2.2.1.2.2.1, .slice b3g0 y0.2.2.2.1.2.2.2.length d3g0, .slice a4g0 y0.2.2.2.2.1.length c4g0, .slice a5g0 y0.2.2.2.2.2.length c5g0] 49)
      have bzZG0 := box_below v12w (.cells #[.int .i64 y0.1.1, .int .i64 y0.1.2.1, .int .i64 y0.1.2.2.1, .int .i64 y0.1.2.2.2, .slice a1g0 y0.2.1.1.length c1g0, .slice b1g0 y0.2.1.2.length d1g0, .slice a2g0 y0.2.2.1.length c2g0, .slice a3g0 y0.2.2.2.1.1.length c3g0, .int .i64 y0.2.2.2.1.2.1, .bool y0.2.2.2.1.2.2.1, .slice b3g0 y0.2.2.2.1.2.2.2.length d3g0, .slice a4g0 y0.2.2.2.2.1.length c4g0, .slice a5g0 y0.2.2.2.2.2.length c5g0] 49)
      have X1ZG0 : v12w.heap.size < v8w.heap.size ∨ v9w.heap.size ≤ v12w.heap.size := .inr X1.2
      have X2ZG0 : v12w.heap.size < v9w.heap.size ∨ v10w.heap.size ≤ v12w.heap.size := .inr X2.2
      have GGZG0 : v12w.heap.size < v11w.heap.size ∨ v12w.heap.size ≤ v12w.heap.size := .inr GG.2
      replace b0 := below_step b0 bzZG0
      replace A0 := row_keep bzZG0 A0
      replace ZQ0 := row_keep bzZG0 ZQ0
      replace X1 := owned_next X1 bzZG0
      replace X2 := owned_next X2 bzZG0
      replace GG := owned_next GG bzZG0
      replace S0 := sight_next S0 bzZG0
      clear bzZG0
      generalize v12w.alloc (.cells #[.int .i64 y0.1.1, .int .i64 y0.1.2.1, .int .i64 y0.1.2.2.1, .int .i64 y0.1.2.2.2, .slice a1g0 y0.2.1.1.length c1g0, .slice b1g0 y0.2.1.2.length d1g0, .slice a2g0 y0.2.2.1.length c2g0, .slice a3g0 y0.2.2.2.1.1.length c3g0, .int .i64 y0.2.2.2.1.2.1, .bool y0.2.2.2.1.2.2.1, .slice b3g0 y0.2.2.2.1.2.2.2.length d3g0, .slice a4g0 y0.2.2.2.2.1.length c4g0, .slice a5g0 y0.2.2.2.2.2.length c5g0] 49) = v13w at b0 A0 ZQ0 ZG0 X1 X2 GG S0 ⊢
      obtain ⟨A0c0, A0c1, A0c2, A0c3⟩ := cells_4 A0
      have A0lt := (Array.getElem?_eq_some_iff.1 A0).1
      obtain ⟨ZQ0c0, ZQ0c1, ZQ0c2, ZQ0c3, ZQ0c4, ZQ0c5, ZQ0c6, ZQ0c7, ZQ0c8, ZQ0c9, ZQ0c10, ZQ0c11, ZQ0c12⟩ := cells_fabric ZQ0
      have ZQ0lt := (Array.getElem?_eq_some_iff.1 ZQ0).1
      obtain ⟨ZG0c0, ZG0c1, ZG0c2, ZG0c3, ZG0c4, ZG0c5, ZG0c6, ZG0c7, ZG0c8, ZG0c9, ZG0c10, ZG0c11, ZG0c12⟩ := cells_fabric ZG0
      have ZG0lt := (Array.getElem?_eq_some_iff.1 ZG0).1
      go_wp2_with fail
      clear A0c0 A0c1 A0c2 A0c3 A0lt ZQ0c0 ZQ0c1 ZQ0c2 ZQ0c3 ZQ0c4 ZQ0c5 ZQ0c6 ZQ0c7 ZQ0c8 ZQ0c9 ZQ0c10 ZQ0c11 ZQ0c12 ZQ0lt ZG0c0 ZG0c1 ZG0c2 ZG0c3 ZG0c4 ZG0c5 ZG0c6 ZG0c7 ZG0c8 ZG0c9 ZG0c10 ZG0c11 ZG0c12 ZG0lt
      refine (eqFabric_u [.int .i64 y0.1.1, .int .i64 y0.1.2.1, .int .i64 y0.1.2.2.1, .int .i64 y0.1.2.2.2, .slice a1g0 y0.2.1.1.length c1g0, .slice b1g0 y0.2.1.2.length d1g0, .slice a2g0 y0.2.2.1.length c2g0, .slice a3g0 y0.2.2.2.1.1.length c3g0, .int .i64 y0.2.2.2.1.2.1, .bool y0.2.2.2.1.2.2.1, .slice b3g0 y0.2.2.2.1.2.2.2.length d3g0, .slice a4g0 y0.2.2.2.2.1.length c4g0, .slice a5g0 y0.2.2.2.2.2.length c5g0] [.int .i64 y0.1.1, .int .i64 y0.1.2.1, .int .i64 y0.1.2.2.1, .int .i64 y0.1.2.2.2, .slice a1q0 y0.2.1.1.length c1q0, .slice b1q0 y0.2.1.2.length d1q0, .slice a2q0 y0.2.2.1.length c2q0, .slice a3q0 y0.2.2.2.1.1.length c3q0, .int .i64 y0.2.2.2.1.2.1, .bool y0.2.2.2.1.2.2.1, .slice b3q0 y0.2.2.2.1.2.2.2.length d3q0, .slice a4q0 y0.2.2.2.2.1.length c4q0, .slice a5q0 y0.2.2.2.2.2.length c5q0] y0 _ (fabricR.own_rd GG.1) (sight_rd S0) hl0).mono ?_
      rintro e v14w ⟨rfl, bq⟩
      replace b0 := below_step b0 bq
      replace A0 := row_keep bq A0
      replace ZQ0 := row_keep bq ZQ0
      replace ZG0 := row_keep bq ZG0
      replace X1 := owned_next X1 bq
      replace X2 := owned_next X2 bq
      replace GG := owned_next GG bq
      replace S0 := sight_next S0 bq
      clear bq
      obtain ⟨A0c0, A0c1, A0c2, A0c3⟩ := cells_4 A0
      have A0lt := (Array.getElem?_eq_some_iff.1 A0).1
      obtain ⟨ZQ0c0, ZQ0c1, ZQ0c2, ZQ0c3, ZQ0c4, ZQ0c5, ZQ0c6, ZQ0c7, ZQ0c8, ZQ0c9, ZQ0c10, ZQ0c11, ZQ0c12⟩ := cells_fabric ZQ0
      have ZQ0lt := (Array.getElem?_eq_some_iff.1 ZQ0).1
      obtain ⟨ZG0c0, ZG0c1, ZG0c2, ZG0c3, ZG0c4, ZG0c5, ZG0c6, ZG0c7, ZG0c8, ZG0c9, ZG0c10, ZG0c11, ZG0c12⟩ := cells_fabric ZG0
      have ZG0lt := (Array.getElem?_eq_some_iff.1 ZG0).1
      go_wp2_with fail
      clear A0c0 A0c1 A0c2 A0c3 A0lt ZQ0c0 ZQ0c1 ZQ0c2 ZQ0c3 ZQ0c4 ZQ0c5 ZQ0c6 ZQ0c7 ZQ0c8 ZQ0c9 ZQ0c10 ZQ0c11 ZQ0c12 ZQ0lt ZG0c0 ZG0c1 ZG0c2 ZG0c3 ZG0c4 ZG0c5 ZG0c6 ZG0c7 ZG0c8 ZG0c9 ZG0c10 ZG0c11 ZG0c12 ZG0lt
      refine (toOpss_u [.slice a1 x1.length cap1] x1 _ (HR1.out _ b0) hbk1).mono ?_
      rintro e v15w ⟨ds, rfl, mm⟩
      have rr := opssR.own_rd mm.1
      obtain ⟨gay1, gcy1, ro, -, -, -⟩ := rr
      obtain rfl := ro
      rw [show cell1 [.slice gay1 x1.length gcy1] = .slice gay1 x1.length gcy1 from rfl]
      have Y1S0 : v7w.heap.size ≤ v14w.heap.size := sight_lt S0
      have Y1A0 : w.heap.size < v14w.heap.size ∨ v15w.heap.size ≤ w.heap.size := .inl (Array.getElem?_eq_some_iff.1 A0).1
      have Y1ZQ0 : v7w.heap.size < v14w.heap.size ∨ v15w.heap.size ≤ v7w.heap.size := .inl (Array.getElem?_eq_some_iff.1 ZQ0).1
      have Y1ZG0 : v12w.heap.size < v14w.heap.size ∨ v15w.heap.size ≤ v12w.heap.size := .inl (Array.getElem?_eq_some_iff.1 ZG0).1
      have X1Y1 : v9w.heap.size ≤ v14w.heap.size := X1.2
      have X2Y1 : v10w.heap.size ≤ v14w.heap.size := X2.2
      have GGY1 : v12w.heap.size ≤ v14w.heap.size := GG.2
      have Y1lo : w.heap.size ≤ v14w.heap.size := b0.size
      have Y1 := owned_made (R := opssR) mm
      have mbY1 := mm.2
      replace b0 := below_step b0 mbY1
      replace A0 := row_keep mbY1 A0
      replace ZQ0 := row_keep mbY1 ZQ0
      replace ZG0 := row_keep mbY1 ZG0
      replace X1 := owned_next X1 mbY1
      replace X2 := owned_next X2 mbY1
      replace GG := owned_next GG mbY1
      replace S0 := sight_next S0 mbY1
      clear mbY1 mm
      obtain ⟨A0c0, A0c1, A0c2, A0c3⟩ := cells_4 A0
      have A0lt := (Array.getElem?_eq_some_iff.1 A0).1
      obtain ⟨ZQ0c0, ZQ0c1, ZQ0c2, ZQ0c3, ZQ0c4, ZQ0c5, ZQ0c6, ZQ0c7, ZQ0c8, ZQ0c9, ZQ0c10, ZQ0c11, ZQ0c12⟩ := cells_fabric ZQ0
      have ZQ0lt := (Array.getElem?_eq_some_iff.1 ZQ0).1
      obtain ⟨ZG0c0, ZG0c1, ZG0c2, ZG0c3, ZG0c4, ZG0c5, ZG0c6, ZG0c7, ZG0c8, ZG0c9, ZG0c10, ZG0c11, ZG0c12⟩ := cells_fabric ZG0
      have ZG0lt := (Array.getElem?_eq_some_iff.1 ZG0).1
      go_wp2_with fail
      clear A0c0 A0c1 A0c2 A0c3 A0lt ZQ0c0 ZQ0c1 ZQ0c2 ZQ0c3 ZQ0c4 ZQ0c5 ZQ0c6 ZQ0c7 ZQ0c8 ZQ0c9 ZQ0c10 ZQ0c11 ZQ0c12 ZQ0lt ZG0c0 ZG0c1 ZG0c2 ZG0c3 ZG0c4 ZG0c5 ZG0c6 ZG0c7 ZG0c8 ZG0c9 ZG0c10 ZG0c11 ZG0c12 ZG0lt
      refine (eqOpss_u [.slice gax1 x1.length gcx1] [.slice gay1 x1.length gcy1] x1 _ (opssR.own_rd X1.1) (opssR.own_rd Y1.1) hbl1).mono ?_
      rintro e v16w ⟨rfl, bq⟩
      replace b0 := below_step b0 bq
      replace A0 := row_keep bq A0
      replace ZQ0 := row_keep bq ZQ0
      replace ZG0 := row_keep bq ZG0
      replace X1 := owned_next X1 bq
      replace X2 := owned_next X2 bq
      replace GG := owned_next GG bq
      replace Y1 := owned_next Y1 bq
      replace S0 := sight_next S0 bq
      clear bq
      clear Y1
      obtain ⟨A0c0, A0c1, A0c2, A0c3⟩ := cells_4 A0
      have A0lt := (Array.getElem?_eq_some_iff.1 A0).1
      obtain ⟨ZQ0c0, ZQ0c1, ZQ0c2, ZQ0c3, ZQ0c4, ZQ0c5, ZQ0c6, ZQ0c7, ZQ0c8, ZQ0c9, ZQ0c10, ZQ0c11, ZQ0c12⟩ := cells_fabric ZQ0
      have ZQ0lt := (Array.getElem?_eq_some_iff.1 ZQ0).1
      obtain ⟨ZG0c0, ZG0c1, ZG0c2, ZG0c3, ZG0c4, ZG0c5, ZG0c6, ZG0c7, ZG0c8, ZG0c9, ZG0c10, ZG0c11, ZG0c12⟩ := cells_fabric ZG0
      have ZG0lt := (Array.getElem?_eq_some_iff.1 ZG0).1
      go_wp2_with fail
      clear A0c0 A0c1 A0c2 A0c3 A0lt ZQ0c0 ZQ0c1 ZQ0c2 ZQ0c3 ZQ0c4 ZQ0c5 ZQ0c6 ZQ0c7 ZQ0c8 ZQ0c9 ZQ0c10 ZQ0c11 ZQ0c12 ZQ0lt ZG0c0 ZG0c1 ZG0c2 ZG0c3 ZG0c4 ZG0c5 ZG0c6 ZG0c7 ZG0c8 ZG0c9 ZG0c10 ZG0c11 ZG0c12 ZG0lt
      refine (toDescs_u [.slice a2 x2.length cap2] x2 _ (HR2.out _ b0) hbk2).mono ?_
      rintro e v17w ⟨ds, rfl, mm⟩
      have rr := descsR.own_rd mm.1
      obtain ⟨gay2, gcy2, ro, -, -, -⟩ := rr
      obtain rfl := ro
      rw [show cell1 [.slice gay2 x2.length gcy2] = .slice gay2 x2.length gcy2 from rfl]
      have Y2S0 : v7w.heap.size ≤ v16w.heap.size := sight_lt S0
      have Y2A0 : w.heap.size < v16w.heap.size ∨ v17w.heap.size ≤ w.heap.size := .inl (Array.getElem?_eq_some_iff.1 A0).1
      have Y2ZQ0 : v7w.heap.size < v16w.heap.size ∨ v17w.heap.size ≤ v7w.heap.size := .inl (Array.getElem?_eq_some_iff.1 ZQ0).1
      have Y2ZG0 : v12w.heap.size < v16w.heap.size ∨ v17w.heap.size ≤ v12w.heap.size := .inl (Array.getElem?_eq_some_iff.1 ZG0).1
      have X1Y2 : v9w.heap.size ≤ v16w.heap.size := X1.2
      have X2Y2 : v10w.heap.size ≤ v16w.heap.size := X2.2
      have GGY2 : v12w.heap.size ≤ v16w.heap.size := GG.2
      have Y2lo : w.heap.size ≤ v16w.heap.size := b0.size
      have Y2 := owned_made (R := descsR) mm
      have mbY2 := mm.2
      replace b0 := below_step b0 mbY2
      replace A0 := row_keep mbY2 A0
      replace ZQ0 := row_keep mbY2 ZQ0
      replace ZG0 := row_keep mbY2 ZG0
      replace X1 := owned_next X1 mbY2
      replace X2 := owned_next X2 mbY2
      replace GG := owned_next GG mbY2
      replace S0 := sight_next S0 mbY2
      clear mbY2 mm
      obtain ⟨A0c0, A0c1, A0c2, A0c3⟩ := cells_4 A0
      have A0lt := (Array.getElem?_eq_some_iff.1 A0).1
      obtain ⟨ZQ0c0, ZQ0c1, ZQ0c2, ZQ0c3, ZQ0c4, ZQ0c5, ZQ0c6, ZQ0c7, ZQ0c8, ZQ0c9, ZQ0c10, ZQ0c11, ZQ0c12⟩ := cells_fabric ZQ0
      have ZQ0lt := (Array.getElem?_eq_some_iff.1 ZQ0).1
      obtain ⟨ZG0c0, ZG0c1, ZG0c2, ZG0c3, ZG0c4, ZG0c5, ZG0c6, ZG0c7, ZG0c8, ZG0c9, ZG0c10, ZG0c11, ZG0c12⟩ := cells_fabric ZG0
      have ZG0lt := (Array.getElem?_eq_some_iff.1 ZG0).1
      go_wp2_with fail
      clear A0c0 A0c1 A0c2 A0c3 A0lt ZQ0c0 ZQ0c1 ZQ0c2 ZQ0c3 ZQ0c4 ZQ0c5 ZQ0c6 ZQ0c7 ZQ0c8 ZQ0c9 ZQ0c10 ZQ0c11 ZQ0c12 ZQ0lt ZG0c0 ZG0c1 ZG0c2 ZG0c3 ZG0c4 ZG0c5 ZG0c6 ZG0c7 ZG0c8 ZG0c9 ZG0c10 ZG0c11 ZG0c12 ZG0lt
      refine (eqDescs_u [.slice gax2 x2.length gcx2] [.slice gay2 x2.length gcy2] x2 _ (descsR.own_rd X2.1) (descsR.own_rd Y2.1) hbl2).mono ?_
      rintro e v18w ⟨rfl, bq⟩
      replace b0 := below_step b0 bq
      replace A0 := row_keep bq A0
      replace ZQ0 := row_keep bq ZQ0
      replace ZG0 := row_keep bq ZG0
      replace X1 := owned_next X1 bq
      replace X2 := owned_next X2 bq
      replace GG := owned_next GG bq
      replace Y2 := owned_next Y2 bq
      replace S0 := sight_next S0 bq
      clear bq
      clear Y2
      obtain ⟨A0c0, A0c1, A0c2, A0c3⟩ := cells_4 A0
      have A0lt := (Array.getElem?_eq_some_iff.1 A0).1
      obtain ⟨ZQ0c0, ZQ0c1, ZQ0c2, ZQ0c3, ZQ0c4, ZQ0c5, ZQ0c6, ZQ0c7, ZQ0c8, ZQ0c9, ZQ0c10, ZQ0c11, ZQ0c12⟩ := cells_fabric ZQ0
      have ZQ0lt := (Array.getElem?_eq_some_iff.1 ZQ0).1
      obtain ⟨ZG0c0, ZG0c1, ZG0c2, ZG0c3, ZG0c4, ZG0c5, ZG0c6, ZG0c7, ZG0c8, ZG0c9, ZG0c10, ZG0c11, ZG0c12⟩ := cells_fabric ZG0
      have ZG0lt := (Array.getElem?_eq_some_iff.1 ZG0).1
      go_wp2_with fail
      clear A0c0 A0c1 A0c2 A0c3 A0lt ZQ0c0 ZQ0c1 ZQ0c2 ZQ0c3 ZQ0c4 ZQ0c5 ZQ0c6 ZQ0c7 ZQ0c8 ZQ0c9 ZQ0c10 ZQ0c11 ZQ0c12 ZQ0lt ZG0c0 ZG0c1 ZG0c2 ZG0c3 ZG0c4 ZG0c5 ZG0c6 ZG0c7 ZG0c8 ZG0c9 ZG0c10 ZG0c11 ZG0c12 ZG0lt
      refine (mkOpss_u _ [.slice gax1 x1.length gcx1] x1 (1) _ X1.1 (by omega) (by rw [HKX1.out]; omega) hbl1).mono ?_
      rintro e v19w ⟨rfl, gm, ch⟩
      rw [HKX1.out]
      replace b0 := chg_b0 b0 ch X1lo
      replace A0 := row_chg A0 ch X1A0
      replace ZQ0 := row_chg ZQ0 ch X1ZQ0
      replace ZG0 := row_chg ZG0 ch X1ZG0
      replace X2 := owned_chg X2 ch (.inr X1X2)
      replace GG := owned_chg GG ch (.inr X1GG)
      replace S0 := sight_chg S0 ch X1S0
      have X1M : Owned opssR (v8w.heap.size) (v9w.heap.size) v19w ([.slice gax1 x1.length gcx1]) (opssM.mV (1) x1) := And.intro gm (Nat.le_trans X1.2 ch.size)
      clear ch X1 gm
      have X1MA0 := X1A0
      have X1MZQ0 := X1ZQ0
      have X1MZG0 := X1ZG0
      have X1MS0 := X1S0
      have X1Mlo := X1lo
      have X1MX2 := X1X2
      have X1MGG := X1GG
      obtain ⟨A0c0, A0c1, A0c2, A0c3⟩ := cells_4 A0
      have A0lt := (Array.getElem?_eq_some_iff.1 A0).1
      obtain ⟨ZQ0c0, ZQ0c1, ZQ0c2, ZQ0c3, ZQ0c4, ZQ0c5, ZQ0c6, ZQ0c7, ZQ0c8, ZQ0c9, ZQ0c10, ZQ0c11, ZQ0c12⟩ := cells_fabric ZQ0
      have ZQ0lt := (Array.getElem?_eq_some_iff.1 ZQ0).1
      obtain ⟨ZG0c0, ZG0c1, ZG0c2, ZG0c3, ZG0c4, ZG0c5, ZG0c6, ZG0c7, ZG0c8, ZG0c9, ZG0c10, ZG0c11, ZG0c12⟩ := cells_fabric ZG0
      have ZG0lt := (Array.getElem?_eq_some_iff.1 ZG0).1
      go_wp2_with fail
      clear A0c0 A0c1 A0c2 A0c3 A0lt ZQ0c0 ZQ0c1 ZQ0c2 ZQ0c3 ZQ0c4 ZQ0c5 ZQ0c6 ZQ0c7 ZQ0c8 ZQ0c9 ZQ0c10 ZQ0c11 ZQ0c12 ZQ0lt ZG0c0 ZG0c1 ZG0c2 ZG0c3 ZG0c4 ZG0c5 ZG0c6 ZG0c7 ZG0c8 ZG0c9 ZG0c10 ZG0c11 ZG0c12 ZG0lt
      refine (mkDescs_u _ [.slice gax2 x2.length gcx2] x2 (1 + (kx1 : Int)) _ X2.1 (by omega) (by rw [HKX2.out]; omega) hbl2).mono ?_
      rintro e v20w ⟨rfl, gm, ch⟩
      rw [HKX2.out]
      replace b0 := chg_b0 b0 ch X2lo
      replace A0 := row_chg A0 ch X2A0
      replace ZQ0 := row_chg ZQ0 ch X2ZQ0
      replace ZG0 := row_chg ZG0 ch X2ZG0
      replace X1M := owned_chg X1M ch (.inl X1MX2)
      replace GG := owned_chg GG ch (.inr X2GG)
      replace S0 := sight_chg S0 ch X2S0
      have X2M : Owned descsR (v9w.heap.size) (v10w.heap.size) v20w ([.slice gax2 x2.length gcx2]) (descsM.mV (1 + (kx1 : Int)) x2) := And.intro gm (Nat.le_trans X2.2 ch.size)
      clear ch X2 gm
      have X2MA0 := X2A0
      have X2MZQ0 := X2ZQ0
      have X2MZG0 := X2ZG0
      have X2MS0 := X2S0
      have X2Mlo := X2lo
      have X1MX2M := X1MX2
      have X2MGG := X2GG
      have nk : ¬ (1 + (kx1 : Int) + (kx2 : Int) < 0) := by omega
      obtain ⟨A0c0, A0c1, A0c2, A0c3⟩ := cells_4 A0
      have A0lt := (Array.getElem?_eq_some_iff.1 A0).1
      obtain ⟨ZQ0c0, ZQ0c1, ZQ0c2, ZQ0c3, ZQ0c4, ZQ0c5, ZQ0c6, ZQ0c7, ZQ0c8, ZQ0c9, ZQ0c10, ZQ0c11, ZQ0c12⟩ := cells_fabric ZQ0
      have ZQ0lt := (Array.getElem?_eq_some_iff.1 ZQ0).1
      obtain ⟨ZG0c0, ZG0c1, ZG0c2, ZG0c3, ZG0c4, ZG0c5, ZG0c6, ZG0c7, ZG0c8, ZG0c9, ZG0c10, ZG0c11, ZG0c12⟩ := cells_fabric ZG0
      have ZG0lt := (Array.getElem?_eq_some_iff.1 ZG0).1
      go_wp2_with fail
      clear A0c0 A0c1 A0c2 A0c3 A0lt ZQ0c0 ZQ0c1 ZQ0c2 ZQ0c3 ZQ0c4 ZQ0c5 ZQ0c6 ZQ0c7 ZQ0c8 ZQ0c9 ZQ0c10 ZQ0c11 ZQ0c12 ZQ0lt ZG0c0 ZG0c1 ZG0c2 ZG0c3 ZG0c4 ZG0c5 ZG0c6 ZG0c7 ZG0c8 ZG0c9 ZG0c10 ZG0c11 ZG0c12 ZG0lt
      refine (eqFabric_u [.int .i64 y0.1.1, .int .i64 y0.1.2.1, .int .i64 y0.1.2.2.1, .int .i64 y0.1.2.2.2, .slice a1g0 y0.2.1.1.length c1g0, .slice b1g0 y0.2.1.2.length d1g0, .slice a2g0 y0.2.2.1.length c2g0, .slice a3g0 y0.2.2.2.1.1.length c3g0, .int .i64 y0.2.2.2.1.2.1, .bool y0.2.2.2.1.2.2.1, .slice b3g0 y0.2.2.2.1.2.2.2.length d3g0, .slice a4g0 y0.2.2.2.2.1.length c4g0, .slice a5g0 y0.2.2.2.2.2.length c5g0] [.int .i64 y0.1.1, .int .i64 y0.1.2.1, .int .i64 y0.1.2.2.1, .int .i64 y0.1.2.2.2, .slice a1q0 y0.2.1.1.length c1q0, .slice b1q0 y0.2.1.2.length d1q0, .slice a2q0 y0.2.2.1.length c2q0, .slice a3q0 y0.2.2.2.1.1.length c3q0, .int .i64 y0.2.2.2.1.2.1, .bool y0.2.2.2.1.2.2.1, .slice b3q0 y0.2.2.2.1.2.2.2.length d3q0, .slice a4q0 y0.2.2.2.2.1.length c4q0, .slice a5q0 y0.2.2.2.2.2.length c5q0] y0 _ (fabricR.own_rd GG.1) (sight_rd S0) hl0).mono ?_
      rintro e v21w ⟨rfl, bq⟩
      replace b0 := below_step b0 bq
      replace A0 := row_keep bq A0
      replace ZQ0 := row_keep bq ZQ0
      replace ZG0 := row_keep bq ZG0
      replace X1M := owned_next X1M bq
      replace X2M := owned_next X2M bq
      replace GG := owned_next GG bq
      replace S0 := sight_next S0 bq
      clear bq
      clear X1M
      clear X2M
      clear nk
      obtain ⟨A0c0, A0c1, A0c2, A0c3⟩ := cells_4 A0
      have A0lt := (Array.getElem?_eq_some_iff.1 A0).1
      obtain ⟨ZQ0c0, ZQ0c1, ZQ0c2, ZQ0c3, ZQ0c4, ZQ0c5, ZQ0c6, ZQ0c7, ZQ0c8, ZQ0c9, ZQ0c10, ZQ0c11, ZQ0c12⟩ := cells_fabric ZQ0
      have ZQ0lt := (Array.getElem?_eq_some_iff.1 ZQ0).1
      obtain ⟨ZG0c0, ZG0c1, ZG0c2, ZG0c3, ZG0c4, ZG0c5, ZG0c6, ZG0c7, ZG0c8, ZG0c9, ZG0c10, ZG0c11, ZG0c12⟩ := cells_fabric ZG0
      have ZG0lt := (Array.getElem?_eq_some_iff.1 ZG0).1
      go_wp2_with fail
      clear A0c0 A0c1 A0c2 A0c3 A0lt ZQ0c0 ZQ0c1 ZQ0c2 ZQ0c3 ZQ0c4 ZQ0c5 ZQ0c6 ZQ0c7 ZQ0c8 ZQ0c9 ZQ0c10 ZQ0c11 ZQ0c12 ZQ0lt ZG0c0 ZG0c1 ZG0c2 ZG0c3 ZG0c4 ZG0c5 ZG0c6 ZG0c7 ZG0c8 ZG0c9 ZG0c10 ZG0c11 ZG0c12 ZG0lt
      refine (mkFab_z _ [.int .i64 y0.1.1, .int .i64 y0.1.2.1, .int .i64 y0.1.2.2.1, .int .i64 y0.1.2.2.2, .slice a1g0 y0.2.1.1.length c1g0, .slice b1g0 y0.2.1.2.length d1g0, .slice a2g0 y0.2.2.1.length c2g0, .slice a3g0 y0.2.2.2.1.1.length c3g0, .int .i64 y0.2.2.2.1.2.1, .bool y0.2.2.2.1.2.2.1, .slice b3g0 y0.2.2.2.1.2.2.2.length d3g0, .slice a4g0 y0.2.2.2.2.1.length c4g0, .slice a5g0 y0.2.2.2.2.2.length c5g0] y0 (1) _ HEV.out GG.1 (by omega) (by rw [HKY0.out]; omega) hl0).mono ?_
      rintro e v22w ⟨rfl, gm, ch⟩
      rw [HKY0.out]
      replace b0 := chg_b0 b0 ch GGlo
      replace A0 := row_chg A0 ch GGA0
      replace ZQ0 := row_chg ZQ0 ch GGZQ0
      replace ZG0 := row_chg ZG0 ch GGZG0
      replace S0 := sight_chg S0 ch GGS0
      have GGM : Owned fabricR (v11w.heap.size) (v12w.heap.size) v22w ([.int .i64 y0.1.1, .int .i64 y0.1.2.1, .int .i64 y0.1.2.2.1, .int .i64 y0.1.2.2.2, .slice a1g0 y0.2.1.1.length c1g0, .slice b1g0 y0.2.1.2.length d1g0, .slice a2g0 y0.2.2.1.length c2g0, .slice a3g0 y0.2.2.2.1.1.length c3g0, .int .i64 y0.2.2.2.1.2.1, .bool y0.2.2.2.1.2.2.1, .slice b3g0 y0.2.2.2.1.2.2.2.length d3g0, .slice a4g0 y0.2.2.2.2.1.length c4g0, .slice a5g0 y0.2.2.2.2.2.length c5g0]) (fabricM.mV (1) y0) := And.intro gm (Nat.le_trans GG.2 ch.size)
      clear ch GG gm
      have GGMA0 := GGA0
      have GGMZQ0 := GGZQ0
      have GGMZG0 := GGZG0
      have GGMS0 := GGS0
      have GGMlo := GGlo
      obtain ⟨A0c0, A0c1, A0c2, A0c3⟩ := cells_4 A0
      have A0lt := (Array.getElem?_eq_some_iff.1 A0).1
      obtain ⟨ZQ0c0, ZQ0c1, ZQ0c2, ZQ0c3, ZQ0c4, ZQ0c5, ZQ0c6, ZQ0c7, ZQ0c8, ZQ0c9, ZQ0c10, ZQ0c11, ZQ0c12⟩ := cells_fabric ZQ0
      have ZQ0lt := (Array.getElem?_eq_some_iff.1 ZQ0).1
      obtain ⟨ZG0c0, ZG0c1, ZG0c2, ZG0c3, ZG0c4, ZG0c5, ZG0c6, ZG0c7, ZG0c8, ZG0c9, ZG0c10, ZG0c11, ZG0c12⟩ := cells_fabric ZG0
      have ZG0lt := (Array.getElem?_eq_some_iff.1 ZG0).1
      go_wp2_with fail
      clear A0c0 A0c1 A0c2 A0c3 A0lt ZQ0c0 ZQ0c1 ZQ0c2 ZQ0c3 ZQ0c4 ZQ0c5 ZQ0c6 ZQ0c7 ZQ0c8 ZQ0c9 ZQ0c10 ZQ0c11 ZQ0c12 ZQ0lt ZG0c0 ZG0c1 ZG0c2 ZG0c3 ZG0c4 ZG0c5 ZG0c6 ZG0c7 ZG0c8 ZG0c9 ZG0c10 ZG0c11 ZG0c12 ZG0lt
      refine (hdFab_z [.int .i64 y0.1.1, .int .i64 y0.1.2.1, .int .i64 y0.1.2.2.1, .int .i64 y0.1.2.2.2, .slice a1g0 y0.2.1.1.length c1g0, .slice b1g0 y0.2.1.2.length d1g0, .slice a2g0 y0.2.2.1.length c2g0, .slice a3g0 y0.2.2.2.1.1.length c3g0, .int .i64 y0.2.2.2.1.2.1, .bool y0.2.2.2.1.2.2.1, .slice b3g0 y0.2.2.2.1.2.2.2.length d3g0, .slice a4g0 y0.2.2.2.2.1.length c4g0, .slice a5g0 y0.2.2.2.2.2.length c5g0] y0 (1) _ HEV.out (fabricR.own_rd GGM.1) (by omega) (by rw [HKY0.out]; omega) hl0).mono ?_
      rintro e v23w ⟨rfl, bq⟩
      rw [HKY0.out]
      replace b0 := below_step b0 bq
      replace A0 := row_keep bq A0
      replace ZQ0 := row_keep bq ZQ0
      replace ZG0 := row_keep bq ZG0
      replace GGM := owned_next GGM bq
      replace S0 := sight_next S0 bq
      clear bq
      have nh0 : ¬ (1 + (ky0 : Int) < 0) := by omega
      obtain ⟨A0c0, A0c1, A0c2, A0c3⟩ := cells_4 A0
      have A0lt := (Array.getElem?_eq_some_iff.1 A0).1
      obtain ⟨ZQ0c0, ZQ0c1, ZQ0c2, ZQ0c3, ZQ0c4, ZQ0c5, ZQ0c6, ZQ0c7, ZQ0c8, ZQ0c9, ZQ0c10, ZQ0c11, ZQ0c12⟩ := cells_fabric ZQ0
      have ZQ0lt := (Array.getElem?_eq_some_iff.1 ZQ0).1
      obtain ⟨ZG0c0, ZG0c1, ZG0c2, ZG0c3, ZG0c4, ZG0c5, ZG0c6, ZG0c7, ZG0c8, ZG0c9, ZG0c10, ZG0c11, ZG0c12⟩ := cells_fabric ZG0
      have ZG0lt := (Array.getElem?_eq_some_iff.1 ZG0).1
      go_wp2_with fail
      clear A0c0 A0c1 A0c2 A0c3 A0lt ZQ0c0 ZQ0c1 ZQ0c2 ZQ0c3 ZQ0c4 ZQ0c5 ZQ0c6 ZQ0c7 ZQ0c8 ZQ0c9 ZQ0c10 ZQ0c11 ZQ0c12 ZQ0lt ZG0c0 ZG0c1 ZG0c2 ZG0c3 ZG0c4 ZG0c5 ZG0c6 ZG0c7 ZG0c8 ZG0c9 ZG0c10 ZG0c11 ZG0c12 ZG0lt
      refine (toConfig_u [.int .i64 x0.1, .int .i64 x0.2.1, .int .i64 x0.2.2.1, .int .i64 x0.2.2.2] x0 _ (HR0.out _ b0) (Nat.zero_le _)).mono ?_
      rintro e v24w ⟨ds, rfl, mm⟩
      obtain ⟨rfl, -⟩ := cfg_rd4 (cfgR.own_rd mm.1)
      rw [show aggV [.int .i64 x0.1, .int .i64 x0.2.1, .int .i64 x0.2.2.1, .int .i64 x0.2.2.2] = .agg #[.int .i64 x0.1, .int .i64 x0.2.1, .int .i64 x0.2.2.1, .int .i64 x0.2.2.2] from rfl]
      have bq := mm.2
      clear mm
      replace b0 := below_step b0 bq
      replace A0 := row_keep bq A0
      replace ZQ0 := row_keep bq ZQ0
      replace ZG0 := row_keep bq ZG0
      replace GGM := owned_next GGM bq
      replace S0 := sight_next S0 bq
      clear bq
      obtain ⟨A0c0, A0c1, A0c2, A0c3⟩ := cells_4 A0
      have A0lt := (Array.getElem?_eq_some_iff.1 A0).1
      obtain ⟨ZQ0c0, ZQ0c1, ZQ0c2, ZQ0c3, ZQ0c4, ZQ0c5, ZQ0c6, ZQ0c7, ZQ0c8, ZQ0c9, ZQ0c10, ZQ0c11, ZQ0c12⟩ := cells_fabric ZQ0
      have ZQ0lt := (Array.getElem?_eq_some_iff.1 ZQ0).1
      obtain ⟨ZG0c0, ZG0c1, ZG0c2, ZG0c3, ZG0c4, ZG0c5, ZG0c6, ZG0c7, ZG0c8, ZG0c9, ZG0c10, ZG0c11, ZG0c12⟩ := cells_fabric ZG0
      have ZG0lt := (Array.getElem?_eq_some_iff.1 ZG0).1
      go_wp2_with fail
      clear A0c0 A0c1 A0c2 A0c3 A0lt ZQ0c0 ZQ0c1 ZQ0c2 ZQ0c3 ZQ0c4 ZQ0c5 ZQ0c6 ZQ0c7 ZQ0c8 ZQ0c9 ZQ0c10 ZQ0c11 ZQ0c12 ZQ0lt ZG0c0 ZG0c1 ZG0c2 ZG0c3 ZG0c4 ZG0c5 ZG0c6 ZG0c7 ZG0c8 ZG0c9 ZG0c10 ZG0c11 ZG0c12 ZG0lt
      refine (toOpss_u [.slice a1 x1.length cap1] x1 _ (HR1.out _ b0) hbk1).mono ?_
      rintro e v25w ⟨ds, rfl, mm⟩
      have rr := opssR.own_rd mm.1
      obtain ⟨gau1, gcu1, ro, -, -, -⟩ := rr
      obtain rfl := ro
      rw [show cell1 [.slice gau1 x1.length gcu1] = .slice gau1 x1.length gcu1 from rfl]
      have U1S0 : v7w.heap.size ≤ v24w.heap.size := sight_lt S0
      have U1A0 : w.heap.size < v24w.heap.size ∨ v25w.heap.size ≤ w.heap.size := .inl (Array.getElem?_eq_some_iff.1 A0).1
      have U1ZQ0 : v7w.heap.size < v24w.heap.size ∨ v25w.heap.size ≤ v7w.heap.size := .inl (Array.getElem?_eq_some_iff.1 ZQ0).1
      have U1ZG0 : v12w.heap.size < v24w.heap.size ∨ v25w.heap.size ≤ v12w.heap.size := .inl (Array.getElem?_eq_some_iff.1 ZG0).1
      have GGMU1 : v12w.heap.size ≤ v24w.heap.size := GGM.2
      have U1lo : w.heap.size ≤ v24w.heap.size := b0.size
      have U1 := owned_made (R := opssR) mm
      have mbU1 := mm.2
      replace b0 := below_step b0 mbU1
      replace A0 := row_keep mbU1 A0
      replace ZQ0 := row_keep mbU1 ZQ0
      replace ZG0 := row_keep mbU1 ZG0
      replace GGM := owned_next GGM mbU1
      replace S0 := sight_next S0 mbU1
      clear mbU1 mm
      obtain ⟨A0c0, A0c1, A0c2, A0c3⟩ := cells_4 A0
      have A0lt := (Array.getElem?_eq_some_iff.1 A0).1
      obtain ⟨ZQ0c0, ZQ0c1, ZQ0c2, ZQ0c3, ZQ0c4, ZQ0c5, ZQ0c6, ZQ0c7, ZQ0c8, ZQ0c9, ZQ0c10, ZQ0c11, ZQ0c12⟩ := cells_fabric ZQ0
      have ZQ0lt := (Array.getElem?_eq_some_iff.1 ZQ0).1
      obtain ⟨ZG0c0, ZG0c1, ZG0c2, ZG0c3, ZG0c4, ZG0c5, ZG0c6, ZG0c7, ZG0c8, ZG0c9, ZG0c10, ZG0c11, ZG0c12⟩ := cells_fabric ZG0
      have ZG0lt := (Array.getElem?_eq_some_iff.1 ZG0).1
      go_wp2_with fail
      clear A0c0 A0c1 A0c2 A0c3 A0lt ZQ0c0 ZQ0c1 ZQ0c2 ZQ0c3 ZQ0c4 ZQ0c5 ZQ0c6 ZQ0c7 ZQ0c8 ZQ0c9 ZQ0c10 ZQ0c11 ZQ0c12 ZQ0lt ZG0c0 ZG0c1 ZG0c2 ZG0c3 ZG0c4 ZG0c5 ZG0c6 ZG0c7 ZG0c8 ZG0c9 ZG0c10 ZG0c11 ZG0c12 ZG0lt
      refine (toDescs_u [.slice a2 x2.length cap2] x2 _ (HR2.out _ b0) hbk2).mono ?_
      rintro e v26w ⟨ds, rfl, mm⟩
      have rr := descsR.own_rd mm.1
      obtain ⟨gau2, gcu2, ro, -, -, -⟩ := rr
      obtain rfl := ro
      rw [show cell1 [.slice gau2 x2.length gcu2] = .slice gau2 x2.length gcu2 from rfl]
      have U2S0 : v7w.heap.size ≤ v25w.heap.size := sight_lt S0
      have U2A0 : w.heap.size < v25w.heap.size ∨ v26w.heap.size ≤ w.heap.size := .inl (Array.getElem?_eq_some_iff.1 A0).1
      have U2ZQ0 : v7w.heap.size < v25w.heap.size ∨ v26w.heap.size ≤ v7w.heap.size := .inl (Array.getElem?_eq_some_iff.1 ZQ0).1
      have U2ZG0 : v12w.heap.size < v25w.heap.size ∨ v26w.heap.size ≤ v12w.heap.size := .inl (Array.getElem?_eq_some_iff.1 ZG0).1
      have GGMU2 : v12w.heap.size ≤ v25w.heap.size := GGM.2
      have U1U2 : v25w.heap.size ≤ v25w.heap.size := U1.2
      have U2lo : w.heap.size ≤ v25w.heap.size := b0.size
      have U2 := owned_made (R := descsR) mm
      have mbU2 := mm.2
      replace b0 := below_step b0 mbU2
      replace A0 := row_keep mbU2 A0
      replace ZQ0 := row_keep mbU2 ZQ0
      replace ZG0 := row_keep mbU2 ZG0
      replace GGM := owned_next GGM mbU2
      replace U1 := owned_next U1 mbU2
      replace S0 := sight_next S0 mbU2
      clear mbU2 mm
      obtain ⟨A0c0, A0c1, A0c2, A0c3⟩ := cells_4 A0
      have A0lt := (Array.getElem?_eq_some_iff.1 A0).1
      obtain ⟨ZQ0c0, ZQ0c1, ZQ0c2, ZQ0c3, ZQ0c4, ZQ0c5, ZQ0c6, ZQ0c7, ZQ0c8, ZQ0c9, ZQ0c10, ZQ0c11, ZQ0c12⟩ := cells_fabric ZQ0
      have ZQ0lt := (Array.getElem?_eq_some_iff.1 ZQ0).1
      obtain ⟨ZG0c0, ZG0c1, ZG0c2, ZG0c3, ZG0c4, ZG0c5, ZG0c6, ZG0c7, ZG0c8, ZG0c9, ZG0c10, ZG0c11, ZG0c12⟩ := cells_fabric ZG0
      have ZG0lt := (Array.getElem?_eq_some_iff.1 ZG0).1
      go_wp2_with fail
      clear A0c0 A0c1 A0c2 A0c3 A0lt ZQ0c0 ZQ0c1 ZQ0c2 ZQ0c3 ZQ0c4 ZQ0c5 ZQ0c6 ZQ0c7 ZQ0c8 ZQ0c9 ZQ0c10 ZQ0c11 ZQ0c12 ZQ0lt ZG0c0 ZG0c1 ZG0c2 ZG0c3 ZG0c4 ZG0c5 ZG0c6 ZG0c7 ZG0c8 ZG0c9 ZG0c10 ZG0c11 ZG0c12 ZG0lt
      refine (CIM.out _ [.slice gau1 x1.length gcu1] [.slice gau2 x2.length gcu2] (hh.goes b0) (opssR.own_rd U1.1) hbk1 (descsR.own_rd U2.1) hbk2).mono ?_
      rintro e v27w ⟨ds0, rfl, mm⟩
      obtain ⟨a1h0, c1h0, b1h0, d1h0, a2h0, c2h0, a3h0, c3h0, b3h0, d3h0, a4h0, c4h0, a5h0, c5h0, rfl⟩ := fabric_shape (fabricR.own_rd mm.1)
      rw [show aggV [.int .i64 y0.1.1, .int .i64 y0.1.2.1, .int .i64 y0.1.2.2.1, .int .i64 y0.1.2.2.2, .slice a1h0 y0.2.1.1.length c1h0, .slice b1h0 y0.2.1.2.length d1h0, .slice a2h0 y0.2.2.1.length c2h0, .slice a3h0 y0.2.2.2.1.1.length c3h0, .int .i64 y0.2.2.2.1.2.1, .bool y0.2.2.2.1.2.2.1, .slice b3h0 y0.2.2.2.1.2.2.2.length d3h0, .slice a4h0 y0.2.2.2.2.1.length c4h0, .slice a5h0 y0.2.2.2.2.2.length c5h0] = .agg #[.int .i64 y0.1.1, .int .i64 y0.1.2.1, .int .i64 y0.1.2.2.1, .int .i64 y0.1.2.2.2, .slice a1h0 y0.2.1.1.length c1h0, .slice b1h0 y0.2.1.2.length d1h0, .slice a2h0 y0.2.2.1.length c2h0, .slice a3h0 y0.2.2.2.1.1.length c3h0, .int .i64 y0.2.2.2.1.2.1, .bool y0.2.2.2.1.2.2.1, .slice b3h0 y0.2.2.2.1.2.2.2.length d3h0, .slice a4h0 y0.2.2.2.2.1.length c4h0, .slice a5h0 y0.2.2.2.2.2.length c5h0] from rfl]
      have HHS0 : v7w.heap.size ≤ v26w.heap.size := sight_lt S0
      have HHA0 : w.heap.size < v26w.heap.size ∨ v27w.heap.size ≤ w.heap.size := .inl (Array.getElem?_eq_some_iff.1 A0).1
      have HHZQ0 : v7w.heap.size < v26w.heap.size ∨ v27w.heap.size ≤ v7w.heap.size := .inl (Array.getElem?_eq_some_iff.1 ZQ0).1
      have HHZG0 : v12w.heap.size < v26w.heap.size ∨ v27w.heap.size ≤ v12w.heap.size := .inl (Array.getElem?_eq_some_iff.1 ZG0).1
      have GGMHH : v12w.heap.size ≤ v26w.heap.size := GGM.2
      have U1HH : v25w.heap.size ≤ v26w.heap.size := U1.2
      have U2HH : v26w.heap.size ≤ v26w.heap.size := U2.2
      have HHlo : w.heap.size ≤ v26w.heap.size := b0.size
      have HH := owned_made (R := fabricR) mm
      have mbHH := mm.2
      replace b0 := below_step b0 mbHH
      replace A0 := row_keep mbHH A0
      replace ZQ0 := row_keep mbHH ZQ0
      replace ZG0 := row_keep mbHH ZG0
      replace GGM := owned_next GGM mbHH
      replace U1 := owned_next U1 mbHH
      replace U2 := owned_next U2 mbHH
      replace S0 := sight_next S0 mbHH
      clear mbHH mm
      obtain ⟨A0c0, A0c1, A0c2, A0c3⟩ := cells_4 A0
      have A0lt := (Array.getElem?_eq_some_iff.1 A0).1
      obtain ⟨ZQ0c0, ZQ0c1, ZQ0c2, ZQ0c3, ZQ0c4, ZQ0c5, ZQ0c6, ZQ0c7, ZQ0c8, ZQ0c9, ZQ0c10, ZQ0c11, ZQ0c12⟩ := cells_fabric ZQ0
      have ZQ0lt := (Array.getElem?_eq_some_iff.1 ZQ0).1
      obtain ⟨ZG0c0, ZG0c1, ZG0c2, ZG0c3, ZG0c4, ZG0c5, ZG0c6, ZG0c7, ZG0c8, ZG0c9, ZG0c10, ZG0c11, ZG0c12⟩ := cells_fabric ZG0
      have ZG0lt := (Array.getElem?_eq_some_iff.1 ZG0).1
      go_wp2_with fail
      clear A0c0 A0c1 A0c2 A0c3 A0lt ZQ0c0 ZQ0c1 ZQ0c2 ZQ0c3 ZQ0c4 ZQ0c5 ZQ0c6 ZQ0c7 ZQ0c8 ZQ0c9 ZQ0c10 ZQ0c11 ZQ0c12 ZQ0lt ZG0c0 ZG0c1 ZG0c2 ZG0c3 ZG0c4 ZG0c5 ZG0c6 ZG0c7 ZG0c8 ZG0c9 ZG0c10 ZG0c11 ZG0c12 ZG0lt
      have ZH0 := heap_at v27w (.cells #[.int .i64 y0.1.1, .int .i64 y0.1.2.1, .int .i64 y0.1.2.2.1, .int .i64 y0.1.2.2.2, .slice a1h0 y0.2.1.1.length c1h0, .slice b1h0 y0.2.1.2.length d1h0, .slice a2h0 y0.2.2.1.length c2h0, .slice a3h0 y0.2.2.2.1.1.length c3h0, .int .i64 y0.2.2.2.1.2.1, .bool y0.2.2.2.1.2.2.1, .slice b3h0 y0.2.2.2.1.2.2.2.length d3h0, .slice a4h0 y0.2.2.2.2.1.length c4h0, .slice a5h0 y0.2.2.2.2.2.length c5h0] 49)
      have bzZH0 := box_below v27w (.cells #[.int .i64 y0.1.1, .int .i64 y0.1.2.1, .int .i64 y0.1.2.2.1, .int .i64 y0.1.2.2.2, .slice a1h0 y0.2.1.1.length c1h0, .slice b1h0 y0.2.1.2.length d1h0, .slice a2h0 y0.2.2.1.length c2h0, .slice a3h0 y0.2.2.2.1.1.length c3h0, .int .i64 y0.2.2.2.1.2.1, .bool y0.2.2.2.1.2.2.1, .slice b3h0 y0.2.2.2.1.2.2.2.length d3h0, .slice a4h0 y0.2.2.2.2.1.length c4h0, .slice a5h0 y0.2.2.2.2.2.length c5h0] 49)
      have GGMZH0 : v27w.heap.size < v11w.heap.size ∨ v12w.heap.size ≤ v27w.heap.size := .inr GGM.2
      have U1ZH0 : v27w.heap.size < v24w.heap.size ∨ v25w.heap.size ≤ v27w.heap.size := .inr U1.2
      have U2ZH0 : v27w.heap.size < v25w.heap.size ∨ v26w.heap.size ≤ v27w.heap.size := .inr U2.2
      have HHZH0 : v27w.heap.size < v26w.heap.size ∨ v27w.heap.size ≤ v27w.heap.size := .inr HH.2
      replace b0 := below_step b0 bzZH0
      replace A0 := row_keep bzZH0 A0
      replace ZQ0 := row_keep bzZH0 ZQ0
      replace ZG0 := row_keep bzZH0 ZG0
      replace GGM := owned_next GGM bzZH0
      replace U1 := owned_next U1 bzZH0
      replace U2 := owned_next U2 bzZH0
      replace HH := owned_next HH bzZH0
      replace S0 := sight_next S0 bzZH0
      clear bzZH0
      generalize v27w.alloc (.cells #[.int .i64 y0.1.1, .int .i64 y0.1.2.1, .int .i64 y0.1.2.2.1, .int .i64 y0.1.2.2.2, .slice a1h0 y0.2.1.1.length c1h0, .slice b1h0 y0.2.1.2.length d1h0, .slice a2h0 y0.2.2.1.length c2h0, .slice a3h0 y0.2.2.2.1.1.length c3h0, .int .i64 y0.2.2.2.1.2.1, .bool y0.2.2.2.1.2.2.1, .slice b3h0 y0.2.2.2.1.2.2.2.length d3h0, .slice a4h0 y0.2.2.2.2.1.length c4h0, .slice a5h0 y0.2.2.2.2.2.length c5h0] 49) = v28w at b0 A0 ZQ0 ZG0 ZH0 GGM U1 U2 HH S0 ⊢
      clear U1
      clear U2
      obtain ⟨A0c0, A0c1, A0c2, A0c3⟩ := cells_4 A0
      have A0lt := (Array.getElem?_eq_some_iff.1 A0).1
      obtain ⟨ZQ0c0, ZQ0c1, ZQ0c2, ZQ0c3, ZQ0c4, ZQ0c5, ZQ0c6, ZQ0c7, ZQ0c8, ZQ0c9, ZQ0c10, ZQ0c11, ZQ0c12⟩ := cells_fabric ZQ0
      have ZQ0lt := (Array.getElem?_eq_some_iff.1 ZQ0).1
      obtain ⟨ZG0c0, ZG0c1, ZG0c2, ZG0c3, ZG0c4, ZG0c5, ZG0c6, ZG0c7, ZG0c8, ZG0c9, ZG0c10, ZG0c11, ZG0c12⟩ := cells_fabric ZG0
      have ZG0lt := (Array.getElem?_eq_some_iff.1 ZG0).1
      obtain ⟨ZH0c0, ZH0c1, ZH0c2, ZH0c3, ZH0c4, ZH0c5, ZH0c6, ZH0c7, ZH0c8, ZH0c9, ZH0c10, ZH0c11, ZH0c12⟩ := cells_fabric ZH0
      have ZH0lt := (Array.getElem?_eq_some_iff.1 ZH0).1
      go_wp2_with fail
      clear A0c0 A0c1 A0c2 A0c3 A0lt ZQ0c0 ZQ0c1 ZQ0c2 ZQ0c3 ZQ0c4 ZQ0c5 ZQ0c6 ZQ0c7 ZQ0c8 ZQ0c9 ZQ0c10 ZQ0c11 ZQ0c12 ZQ0lt ZG0c0 ZG0c1 ZG0c2 ZG0c3 ZG0c4 ZG0c5 ZG0c6 ZG0c7 ZG0c8 ZG0c9 ZG0c10 ZG0c11 ZG0c12 ZG0lt ZH0c0 ZH0c1 ZH0c2 ZH0c3 ZH0c4 ZH0c5 ZH0c6 ZH0c7 ZH0c8 ZH0c9 ZH0c10 ZH0c11 ZH0c12 ZH0lt
      refine (eqFabric_u [.int .i64 y0.1.1, .int .i64 y0.1.2.1, .int .i64 y0.1.2.2.1, .int .i64 y0.1.2.2.2, .slice a1h0 y0.2.1.1.length c1h0, .slice b1h0 y0.2.1.2.length d1h0, .slice a2h0 y0.2.2.1.length c2h0, .slice a3h0 y0.2.2.2.1.1.length c3h0, .int .i64 y0.2.2.2.1.2.1, .bool y0.2.2.2.1.2.2.1, .slice b3h0 y0.2.2.2.1.2.2.2.length d3h0, .slice a4h0 y0.2.2.2.2.1.length c4h0, .slice a5h0 y0.2.2.2.2.2.length c5h0] [.int .i64 y0.1.1, .int .i64 y0.1.2.1, .int .i64 y0.1.2.2.1, .int .i64 y0.1.2.2.2, .slice a1q0 y0.2.1.1.length c1q0, .slice b1q0 y0.2.1.2.length d1q0, .slice a2q0 y0.2.2.1.length c2q0, .slice a3q0 y0.2.2.2.1.1.length c3q0, .int .i64 y0.2.2.2.1.2.1, .bool y0.2.2.2.1.2.2.1, .slice b3q0 y0.2.2.2.1.2.2.2.length d3q0, .slice a4q0 y0.2.2.2.2.1.length c4q0, .slice a5q0 y0.2.2.2.2.2.length c5q0] y0 _ (fabricR.own_rd HH.1) (sight_rd S0) hl0).mono ?_
      rintro e v29w ⟨rfl, bq⟩
      replace b0 := below_step b0 bq
      replace A0 := row_keep bq A0
      replace ZQ0 := row_keep bq ZQ0
      replace ZG0 := row_keep bq ZG0
      replace ZH0 := row_keep bq ZH0
      replace GGM := owned_next GGM bq
      replace HH := owned_next HH bq
      replace S0 := sight_next S0 bq
      clear bq
      obtain ⟨A0c0, A0c1, A0c2, A0c3⟩ := cells_4 A0
      have A0lt := (Array.getElem?_eq_some_iff.1 A0).1
      obtain ⟨ZQ0c0, ZQ0c1, ZQ0c2, ZQ0c3, ZQ0c4, ZQ0c5, ZQ0c6, ZQ0c7, ZQ0c8, ZQ0c9, ZQ0c10, ZQ0c11, ZQ0c12⟩ := cells_fabric ZQ0
      have ZQ0lt := (Array.getElem?_eq_some_iff.1 ZQ0).1
      obtain ⟨ZG0c0, ZG0c1, ZG0c2, ZG0c3, ZG0c4, ZG0c5, ZG0c6, ZG0c7, ZG0c8, ZG0c9, ZG0c10, ZG0c11, ZG0c12⟩ := cells_fabric ZG0
      have ZG0lt := (Array.getElem?_eq_some_iff.1 ZG0).1
      obtain ⟨ZH0c0, ZH0c1, ZH0c2, ZH0c3, ZH0c4, ZH0c5, ZH0c6, ZH0c7, ZH0c8, ZH0c9, ZH0c10, ZH0c11, ZH0c12⟩ := cells_fabric ZH0
      have ZH0lt := (Array.getElem?_eq_some_iff.1 ZH0).1
      go_wp2_with fail
      clear A0c0 A0c1 A0c2 A0c3 A0lt ZQ0c0 ZQ0c1 ZQ0c2 ZQ0c3 ZQ0c4 ZQ0c5 ZQ0c6 ZQ0c7 ZQ0c8 ZQ0c9 ZQ0c10 ZQ0c11 ZQ0c12 ZQ0lt ZG0c0 ZG0c1 ZG0c2 ZG0c3 ZG0c4 ZG0c5 ZG0c6 ZG0c7 ZG0c8 ZG0c9 ZG0c10 ZG0c11 ZG0c12 ZG0lt ZH0c0 ZH0c1 ZH0c2 ZH0c3 ZH0c4 ZH0c5 ZH0c6 ZH0c7 ZH0c8 ZH0c9 ZH0c10 ZH0c11 ZH0c12 ZH0lt
      refine (hdFab_z [.int .i64 y0.1.1, .int .i64 y0.1.2.1, .int .i64 y0.1.2.2.1, .int .i64 y0.1.2.2.2, .slice a1g0 y0.2.1.1.length c1g0, .slice b1g0 y0.2.1.2.length d1g0, .slice a2g0 y0.2.2.1.length c2g0, .slice a3g0 y0.2.2.2.1.1.length c3g0, .int .i64 y0.2.2.2.1.2.1, .bool y0.2.2.2.1.2.2.1, .slice b3g0 y0.2.2.2.1.2.2.2.length d3g0, .slice a4g0 y0.2.2.2.2.1.length c4g0, .slice a5g0 y0.2.2.2.2.2.length c5g0] y0 (1) _ HEV.out (fabricR.own_rd GGM.1) (by omega) (by rw [HKY0.out]; omega) hl0).mono ?_
      rintro e v30w ⟨rfl, bq⟩
      rw [HKY0.out]
      replace b0 := below_step b0 bq
      replace A0 := row_keep bq A0
      replace ZQ0 := row_keep bq ZQ0
      replace ZG0 := row_keep bq ZG0
      replace ZH0 := row_keep bq ZH0
      replace GGM := owned_next GGM bq
      replace HH := owned_next HH bq
      replace S0 := sight_next S0 bq
      clear bq
      have nh0 : ¬ (1 + (ky0 : Int) < 0) := by omega
      clear A0 ZQ0 ZG0 ZH0 GGM HH S0
      go_wp2
      go_ret
      exact ⟨rfl, b0⟩
    · have HS2 : Hid (szI (descsM.bk x2) (1048576 - (opssM.bk x1 : Int)) = -1) := szI_no hf2
      rw [HS2.out]
      go_wp2
      go_ret
      exact ⟨rfl, b0⟩
  · have HS1 : Hid (szI (opssM.bk x1) (1048576) = -1) := szI_no hf1
    rw [HS1.out]
    go_wp2
    go_ret
    exact ⟨rfl, b0⟩
end Go.Proofs.YthnfkacboijneaaGreatDoor.fnExactNewFabric
