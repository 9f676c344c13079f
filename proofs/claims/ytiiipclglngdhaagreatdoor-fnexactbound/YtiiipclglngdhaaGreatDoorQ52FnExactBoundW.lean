import Derived.Test.YtiiipclglngdhaaGreatDoorRows
import Derived.Test.YtiiipclglngdhaaGreatDoorQ03Bits
import Derived.Test.YtiiipclglngdhaaGreatDoorQ06Errs
import Derived.Test.YtiiipclglngdhaaGreatDoorQ51FabX
import Derived.WalkKit
import Derived.ProofKit
import Derived.OpenShut
import Derived.ShutString
import Derived.ChangeOld
import Derived.Below
import Derived.Carry
import Derived.Lib.SmallJoins

/- At every fabric, impl.Bound answers as spec.Bound does, field by field, writes into no argument, keeps nothing of one, and its answer owns its memory, behind another call too: the law FnExactBound returns true and changes nothing that was there. No condition. -/
namespace Go.Proofs.YtiiipclglngdhaaGreatDoor.fnExactBound
open Go.ChangeShapes Go.WideShapes Go.ChangeAt Go.RowKit Go.Joins
open Go.ChangeMaps (open_string shut_string)
set_option linter.unusedVariables false

set_option maxHeartbeats 8000000 in
set_option maxRecDepth 100000 in
theorem walk (cs0 : Array Value) (x0 : RepOf (fabricR)) (w : World) (w0 : (fabricR).rd w cs0.toList x0) (hh : Hold w) :
    Calls Tryz.prog 4 #[.agg cs0] w fun e w' => e = .returned (.bool true) ∧ Below w.heap.size w w' := by
  obtain ⟨a1z0, c1z0, b1z0, d1z0, a2z0, c2z0, a3z0, c3z0, b3z0, d3z0, a4z0, c4z0, a5z0, c5z0, hcs0⟩ := fabric_shape w0
  obtain rfl := arr_of hcs0
  have HR0 : Hid (∀ W, Below w.heap.size w W → fabricR.rd W [.int .i64 x0.1.1, .int .i64 x0.1.2.1, .int .i64 x0.1.2.2.1, .int .i64 x0.1.2.2.2, .slice a1z0 x0.2.1.1.length c1z0, .slice b1z0 x0.2.1.2.length d1z0, .slice a2z0 x0.2.2.1.length c2z0, .slice a3z0 x0.2.2.2.1.1.length c3z0, .int .i64 x0.2.2.2.1.2.1, .bool x0.2.2.2.1.2.2.1, .slice b3z0 x0.2.2.2.1.2.2.2.length d3z0, .slice a4z0 x0.2.2.2.2.1.length c4z0, .slice a5z0 x0.2.2.2.2.2.length c5z0] x0) := fun W hb => rd_next w0 hb
  clear w0 hcs0
  generalize hres : bouI x0 = res
  have HRES : Hid (bouI x0 = res) := hres
  clear hres
  have RR : res = res := rfl
  clear RR
  have CSP : Hid (∀ W cs0, Hold W → fabricR.rd W cs0 x0 → fabricM.bk x0 ≤ 1048576 → Calls Tryz.prog 10 #[aggV cs0] W fun e w' => e = .returned (.int .i64 res) ∧ Below W.heap.size W w') := fun W cs0 hd h0 k0 => by have := specBound_u cs0 x0 W h0 k0; rw [HRES.out] at this; exact this
  have CIM : Hid (∀ W cs0, Hold W → fabricR.rd W cs0 x0 → fabricM.bk x0 ≤ 1048576 → Calls Tryz.prog 11 #[aggV cs0] W fun e w' => e = .returned (.int .i64 res) ∧ Below W.heap.size W w') := fun W cs0 hd h0 k0 => by have := implBound_u cs0 x0 W hd h0; rw [HRES.out] at this; exact this
  clear HRES
  have b0 := Below.refl w.heap.size w
  go_enter Tryz.func4, Tryz.ntmps4
  go_wp2_with fail
  have A0 := heap_at w (.cells #[.int .i64 x0.1.1, .int .i64 x0.1.2.1, .int .i64 x0.1.2.2.1, .int .i64 x0.1.2.2.2, .slice a1z0 x0.2.1.1.length c1z0, .slice b1z0 x0.2.1.2.length d1z0, .slice a2z0 x0.2.2.1.length c2z0, .slice a3z0 x0.2.2.2.1.1.length c3z0, .int .i64 x0.2.2.2.1.2.1, .bool x0.2.2.2.1.2.2.1, .slice b3z0 x0.2.2.2.1.2.2.2.length d3z0, .slice a4z0 x0.2.2.2.2.1.length c4z0, .slice a5z0 x0.2.2.2.2.2.length c5z0] 35)
  have bzA0 := box_below w (.cells #[.int .i64 x0.1.1, .int .i64 x0.1.2.1, .int .i64 x0.1.2.2.1, .int .i64 x0.1.2.2.2, .slice a1z0 x0.2.1.1.length c1z0, .slice b1z0 x0.2.1.2.length d1z0, .slice a2z0 x0.2.2.1.length c2z0, .slice a3z0 x0.2.2.2.1.1.length c3z0, .int .i64 x0.2.2.2.1.2.1, .bool x0.2.2.2.1.2.2.1, .slice b3z0 x0.2.2.2.1.2.2.2.length d3z0, .slice a4z0 x0.2.2.2.2.1.length c4z0, .slice a5z0 x0.2.2.2.2.2.length c5z0] 35)
  replace b0 := below_step b0 bzA0
  clear bzA0
  generalize w.alloc (.cells #[.int .i64 x0.1.1, .int .i64 x0.1.2.1, .int .i64 x0.1.2.2.1, .int .i64 x0.1.2.2.2, .slice a1z0 x0.2.1.1.length c1z0, .slice b1z0 x0.2.1.2.length d1z0, .slice a2z0 x0.2.2.1.length c2z0, .slice a3z0 x0.2.2.2.1.1.length c3z0, .int .i64 x0.2.2.2.1.2.1, .bool x0.2.2.2.1.2.2.1, .slice b3z0 x0.2.2.2.1.2.2.2.length d3z0, .slice a4z0 x0.2.2.2.2.1.length c4z0, .slice a5z0 x0.2.2.2.2.2.length c5z0] 35) = v1w at b0 A0 ⊢
  refine (szFabric_u [.int .i64 x0.1.1, .int .i64 x0.1.2.1, .int .i64 x0.1.2.2.1, .int .i64 x0.1.2.2.2, .slice a1z0 x0.2.1.1.length c1z0, .slice b1z0 x0.2.1.2.length d1z0, .slice a2z0 x0.2.2.1.length c2z0, .slice a3z0 x0.2.2.2.1.1.length c3z0, .int .i64 x0.2.2.2.1.2.1, .bool x0.2.2.2.1.2.2.1, .slice b3z0 x0.2.2.2.1.2.2.2.length d3z0, .slice a4z0 x0.2.2.2.2.1.length c4z0, .slice a5z0 x0.2.2.2.2.2.length c5z0] x0 (1048576) _ (HR0.out _ b0) (by omega) (by omega)).mono ?_
  rintro e v2w ⟨rfl, bq⟩
  replace b0 := below_step b0 bq
  replace A0 := row_keep bq A0
  clear bq
  by_cases hf0 : ((fabricM.bk x0 : Nat) : Int) ≤ 1048576
  · have HS0 : Hid (szI (fabricM.bk x0) (1048576) = 1048576 - (fabricM.bk x0 : Int)) := szI_yes hf0
    have hg0 : ¬ (1048576 - ((fabricM.bk x0 : Nat) : Int) < 0) := by omega
    have hbk0 : fabricM.bk x0 ≤ 1048576 := by omega
    have hbl0 : fabricM.bk x0 ≤ lot := Nat.le_trans hbk0 (by decide)
    rw [HS0.out]
    obtain ⟨A0c0, A0c1, A0c2, A0c3, A0c4, A0c5, A0c6, A0c7, A0c8, A0c9, A0c10, A0c11, A0c12⟩ := cells_fabric A0
    have A0lt := (Array.getElem?_eq_some_iff.1 A0).1
    go_wp2_with fail
    clear A0c0 A0c1 A0c2 A0c3 A0c4 A0c5 A0c6 A0c7 A0c8 A0c9 A0c10 A0c11 A0c12 A0lt
    refine (toFabric_u [.int .i64 x0.1.1, .int .i64 x0.1.2.1, .int .i64 x0.1.2.2.1, .int .i64 x0.1.2.2.2, .slice a1z0 x0.2.1.1.length c1z0, .slice b1z0 x0.2.1.2.length d1z0, .slice a2z0 x0.2.2.1.length c2z0, .slice a3z0 x0.2.2.2.1.1.length c3z0, .int .i64 x0.2.2.2.1.2.1, .bool x0.2.2.2.1.2.2.1, .slice b3z0 x0.2.2.2.1.2.2.2.length d3z0, .slice a4z0 x0.2.2.2.2.1.length c4z0, .slice a5z0 x0.2.2.2.2.2.length c5z0] x0 _ (HR0.out _ b0) hbk0).mono ?_
    rintro e v3w ⟨ds, rfl, mm⟩
    obtain ⟨a1p0, c1p0, b1p0, d1p0, a2p0, c2p0, a3p0, c3p0, b3p0, d3p0, a4p0, c4p0, a5p0, c5p0, rfl⟩ := fabric_shape (fabricR.own_rd mm.1)
    rw [show aggV [.int .i64 x0.1.1, .int .i64 x0.1.2.1, .int .i64 x0.1.2.2.1, .int .i64 x0.1.2.2.2, .slice a1p0 x0.2.1.1.length c1p0, .slice b1p0 x0.2.1.2.length d1p0, .slice a2p0 x0.2.2.1.length c2p0, .slice a3p0 x0.2.2.2.1.1.length c3p0, .int .i64 x0.2.2.2.1.2.1, .bool x0.2.2.2.1.2.2.1, .slice b3p0 x0.2.2.2.1.2.2.2.length d3p0, .slice a4p0 x0.2.2.2.2.1.length c4p0, .slice a5p0 x0.2.2.2.2.2.length c5p0] = .agg #[.int .i64 x0.1.1, .int .i64 x0.1.2.1, .int .i64 x0.1.2.2.1, .int .i64 x0.1.2.2.2, .slice a1p0 x0.2.1.1.length c1p0, .slice b1p0 x0.2.1.2.length d1p0, .slice a2p0 x0.2.2.1.length c2p0, .slice a3p0 x0.2.2.2.1.1.length c3p0, .int .i64 x0.2.2.2.1.2.1, .bool x0.2.2.2.1.2.2.1, .slice b3p0 x0.2.2.2.1.2.2.2.length d3p0, .slice a4p0 x0.2.2.2.2.1.length c4p0, .slice a5p0 x0.2.2.2.2.2.length c5p0] from rfl]
    have P0A0 : w.heap.size < v2w.heap.size ∨ v3w.heap.size ≤ w.heap.size := .inl (Array.getElem?_eq_some_iff.1 A0).1
    have P0lo : w.heap.size ≤ v2w.heap.size := b0.size
    have P0 := owned_made (R := fabricR) mm
    have mbP0 := mm.2
    replace b0 := below_step b0 mbP0
    replace A0 := row_keep mbP0 A0
    clear mbP0 mm
    obtain ⟨A0c0, A0c1, A0c2, A0c3, A0c4, A0c5, A0c6, A0c7, A0c8, A0c9, A0c10, A0c11, A0c12⟩ := cells_fabric A0
    have A0lt := (Array.getElem?_eq_some_iff.1 A0).1
    go_wp2_with fail
    clear A0c0 A0c1 A0c2 A0c3 A0c4 A0c5 A0c6 A0c7 A0c8 A0c9 A0c10 A0c11 A0c12 A0lt
    refine (CSP.out _ [.int .i64 x0.1.1, .int .i64 x0.1.2.1, .int .i64 x0.1.2.2.1, .int .i64 x0.1.2.2.2, .slice a1p0 x0.2.1.1.length c1p0, .slice b1p0 x0.2.1.2.length d1p0, .slice a2p0 x0.2.2.1.length c2p0, .slice a3p0 x0.2.2.2.1.1.length c3p0, .int .i64 x0.2.2.2.1.2.1, .bool x0.2.2.2.1.2.2.1, .slice b3p0 x0.2.2.2.1.2.2.2.length d3p0, .slice a4p0 x0.2.2.2.2.1.length c4p0, .slice a5p0 x0.2.2.2.2.2.length c5p0] (hh.goes b0) (fabricR.own_rd P0.1) hbk0).mono ?_
    rintro e v4w ⟨rfl, bq⟩
    replace b0 := below_step b0 bq
    replace A0 := row_keep bq A0
    replace P0 := owned_next P0 bq
    clear bq
    clear P0
    obtain ⟨A0c0, A0c1, A0c2, A0c3, A0c4, A0c5, A0c6, A0c7, A0c8, A0c9, A0c10, A0c11, A0c12⟩ := cells_fabric A0
    have A0lt := (Array.getElem?_eq_some_iff.1 A0).1
    go_wp2_with fail
    clear A0c0 A0c1 A0c2 A0c3 A0c4 A0c5 A0c6 A0c7 A0c8 A0c9 A0c10 A0c11 A0c12 A0lt
    refine (toFabric_u [.int .i64 x0.1.1, .int .i64 x0.1.2.1, .int .i64 x0.1.2.2.1, .int .i64 x0.1.2.2.2, .slice a1z0 x0.2.1.1.length c1z0, .slice b1z0 x0.2.1.2.length d1z0, .slice a2z0 x0.2.2.1.length c2z0, .slice a3z0 x0.2.2.2.1.1.length c3z0, .int .i64 x0.2.2.2.1.2.1, .bool x0.2.2.2.1.2.2.1, .slice b3z0 x0.2.2.2.1.2.2.2.length d3z0, .slice a4z0 x0.2.2.2.2.1.length c4z0, .slice a5z0 x0.2.2.2.2.2.length c5z0] x0 _ (HR0.out _ b0) hbk0).mono ?_
    rintro e v5w ⟨ds, rfl, mm⟩
    obtain ⟨a1x0, c1x0, b1x0, d1x0, a2x0, c2x0, a3x0, c3x0, b3x0, d3x0, a4x0, c4x0, a5x0, c5x0, rfl⟩ := fabric_shape (fabricR.own_rd mm.1)
    rw [show aggV [.int .i64 x0.1.1, .int .i64 x0.1.2.1, .int .i64 x0.1.2.2.1, .int .i64 x0.1.2.2.2, .slice a1x0 x0.2.1.1.length c1x0, .slice b1x0 x0.2.1.2.length d1x0, .slice a2x0 x0.2.2.1.length c2x0, .slice a3x0 x0.2.2.2.1.1.length c3x0, .int .i64 x0.2.2.2.1.2.1, .bool x0.2.2.2.1.2.2.1, .slice b3x0 x0.2.2.2.1.2.2.2.length d3x0, .slice a4x0 x0.2.2.2.2.1.length c4x0, .slice a5x0 x0.2.2.2.2.2.length c5x0] = .agg #[.int .i64 x0.1.1, .int .i64 x0.1.2.1, .int .i64 x0.1.2.2.1, .int .i64 x0.1.2.2.2, .slice a1x0 x0.2.1.1.length c1x0, .slice b1x0 x0.2.1.2.length d1x0, .slice a2x0 x0.2.2.1.length c2x0, .slice a3x0 x0.2.2.2.1.1.length c3x0, .int .i64 x0.2.2.2.1.2.1, .bool x0.2.2.2.1.2.2.1, .slice b3x0 x0.2.2.2.1.2.2.2.length d3x0, .slice a4x0 x0.2.2.2.2.1.length c4x0, .slice a5x0 x0.2.2.2.2.2.length c5x0] from rfl]
    have X0A0 : w.heap.size < v4w.heap.size ∨ v5w.heap.size ≤ w.heap.size := .inl (Array.getElem?_eq_some_iff.1 A0).1
    have X0lo : w.heap.size ≤ v4w.heap.size := b0.size
    have X0 := owned_made (R := fabricR) mm
    have mbX0 := mm.2
    replace b0 := below_step b0 mbX0
    replace A0 := row_keep mbX0 A0
    clear mbX0 mm
    obtain ⟨A0c0, A0c1, A0c2, A0c3, A0c4, A0c5, A0c6, A0c7, A0c8, A0c9, A0c10, A0c11, A0c12⟩ := cells_fabric A0
    have A0lt := (Array.getElem?_eq_some_iff.1 A0).1
    go_wp2_with fail
    clear A0c0 A0c1 A0c2 A0c3 A0c4 A0c5 A0c6 A0c7 A0c8 A0c9 A0c10 A0c11 A0c12 A0lt
    have ZX0 := heap_at v5w (.cells #[.int .i64 x0.1.1, .int .i64 x0.1.2.1, .int .i64 x0.1.2.2.1, .int .i64 x0.1.2.2.2, .slice a1x0 x0.2.1.1.length c1x0, .slice b1x0 x0.2.1.2.length d1x0, .slice a2x0 x0.2.2.1.length c2x0, .slice a3x0 x0.2.2.2.1.1.length c3x0, .int .i64 x0.2.2.2.1.2.1, .bool x0.2.2.2.1.2.2.1, .slice b3x0 x0.2.2.2.1.2.2.2.length d3x0, .slice a4x0 x0.2.2.2.2.1.length c4x0, .slice a5x0 x0.2.2.2.2.2.length c5x0] 49)
    have bzZX0 := box_below v5w (.cells #[.int .i64 x0.1.1, .int .i64 x0.1.2.1, .int .i64 x0.1.2.2.1, .int .i64 x0.1.2.2.2, .slice a1x0 x0.2.1.1.length c1x0, .slice b1x0 x0.2.1.2.length d1x0, .slice a2x0 x0.2.2.1.length c2x0, .slice a3x0 x0.2.2.2.1.1.length c3x0, .int .i64 x0.2.2.2.1.2.1, .bool x0.2.2.2.1.2.2.1, .slice b3x0 x0.2.2.2.1.2.2.2.length d3x0, .slice a4x0 x0.2.2.2.2.1.length c4x0, .slice a5x0 x0.2.2.2.2.2.length c5x0] 49)
    have X0ZX0 : v5w.heap.size < v4w.heap.size ∨ v5w.heap.size ≤ v5w.heap.size := .inr X0.2
    replace b0 := below_step b0 bzZX0
    replace A0 := row_keep bzZX0 A0
    replace X0 := owned_next X0 bzZX0
    clear bzZX0
    generalize v5w.alloc (.cells #[.int .i64 x0.1.1, .int .i64 x0.1.2.1, .int .i64 x0.1.2.2.1, .int .i64 x0.1.2.2.2, .slice a1x0 x0.2.1.1.length c1x0, .slice b1x0 x0.2.1.2.length d1x0, .slice a2x0 x0.2.2.1.length c2x0, .slice a3x0 x0.2.2.2.1.1.length c3x0, .int .i64 x0.2.2.2.1.2.1, .bool x0.2.2.2.1.2.2.1, .slice b3x0 x0.2.2.2.1.2.2.2.length d3x0, .slice a4x0 x0.2.2.2.2.1.length c4x0, .slice a5x0 x0.2.2.2.2.2.length c5x0] 49) = v6w at b0 A0 ZX0 X0 ⊢
    obtain ⟨A0c0, A0c1, A0c2, A0c3, A0c4, A0c5, A0c6, A0c7, A0c8, A0c9, A0c10, A0c11, A0c12⟩ := cells_fabric A0
    have A0lt := (Array.getElem?_eq_some_iff.1 A0).1
    obtain ⟨ZX0c0, ZX0c1, ZX0c2, ZX0c3, ZX0c4, ZX0c5, ZX0c6, ZX0c7, ZX0c8, ZX0c9, ZX0c10, ZX0c11, ZX0c12⟩ := cells_fabric ZX0
    have ZX0lt := (Array.getElem?_eq_some_iff.1 ZX0).1
    go_wp2_with fail
    clear A0c0 A0c1 A0c2 A0c3 A0c4 A0c5 A0c6 A0c7 A0c8 A0c9 A0c10 A0c11 A0c12 A0lt ZX0c0 ZX0c1 ZX0c2 ZX0c3 ZX0c4 ZX0c5 ZX0c6 ZX0c7 ZX0c8 ZX0c9 ZX0c10 ZX0c11 ZX0c12 ZX0lt
    refine (CIM.out _ [.int .i64 x0.1.1, .int .i64 x0.1.2.1, .int .i64 x0.1.2.2.1, .int .i64 x0.1.2.2.2, .slice a1x0 x0.2.1.1.length c1x0, .slice b1x0 x0.2.1.2.length d1x0, .slice a2x0 x0.2.2.1.length c2x0, .slice a3x0 x0.2.2.2.1.1.length c3x0, .int .i64 x0.2.2.2.1.2.1, .bool x0.2.2.2.1.2.2.1, .slice b3x0 x0.2.2.2.1.2.2.2.length d3x0, .slice a4x0 x0.2.2.2.2.1.length c4x0, .slice a5x0 x0.2.2.2.2.2.length c5x0] (hh.goes b0) (fabricR.own_rd X0.1) hbk0).mono ?_
    rintro e v7w ⟨rfl, bq⟩
    replace b0 := below_step b0 bq
    replace A0 := row_keep bq A0
    replace ZX0 := row_keep bq ZX0
    replace X0 := owned_next X0 bq
    clear bq
    obtain ⟨A0c0, A0c1, A0c2, A0c3, A0c4, A0c5, A0c6, A0c7, A0c8, A0c9, A0c10, A0c11, A0c12⟩ := cells_fabric A0
    have A0lt := (Array.getElem?_eq_some_iff.1 A0).1
    obtain ⟨ZX0c0, ZX0c1, ZX0c2, ZX0c3, ZX0c4, ZX0c5, ZX0c6, ZX0c7, ZX0c8, ZX0c9, ZX0c10, ZX0c11, ZX0c12⟩ := cells_fabric ZX0
    have ZX0lt := (Array.getElem?_eq_some_iff.1 ZX0).1
    go_upto_region 10 with fail
    clear A0c0 A0c1 A0c2 A0c3 A0c4 A0c5 A0c6 A0c7 A0c8 A0c9 A0c10 A0c11 A0c12 A0lt ZX0c0 ZX0c1 ZX0c2 ZX0c3 ZX0c4 ZX0c5 ZX0c6 ZX0c7 ZX0c8 ZX0c9 ZX0c10 ZX0c11 ZX0c12 ZX0lt
    go_cut [26] (fun q wx => q = .bool false ∧ Below w.heap.size w wx ∧ wx.heap[w.heap.size]? = some (.cells #[.int .i64 x0.1.1, .int .i64 x0.1.2.1, .int .i64 x0.1.2.2.1, .int .i64 x0.1.2.2.2, .slice a1z0 x0.2.1.1.length c1z0, .slice b1z0 x0.2.1.2.length d1z0, .slice a2z0 x0.2.2.1.length c2z0, .slice a3z0 x0.2.2.2.1.1.length c3z0, .int .i64 x0.2.2.2.1.2.1, .bool x0.2.2.2.1.2.2.1, .slice b3z0 x0.2.2.2.1.2.2.2.length d3z0, .slice a4z0 x0.2.2.2.2.1.length c4z0, .slice a5z0 x0.2.2.2.2.2.length c5z0] 35) ∧ wx.heap[v5w.heap.size]? = some (.cells #[.int .i64 x0.1.1, .int .i64 x0.1.2.1, .int .i64 x0.1.2.2.1, .int .i64 x0.1.2.2.2, .slice a1x0 x0.2.1.1.length c1x0, .slice b1x0 x0.2.1.2.length d1x0, .slice a2x0 x0.2.2.1.length c2x0, .slice a3x0 x0.2.2.2.1.1.length c3x0, .int .i64 x0.2.2.2.1.2.1, .bool x0.2.2.2.1.2.2.1, .slice b3x0 x0.2.2.2.1.2.2.2.length d3x0, .slice a4x0 x0.2.2.2.2.1.length c4x0, .slice a5x0 x0.2.2.2.2.2.length c5x0] 49) ∧ Owned fabricR (v4w.heap.size) (v5w.heap.size) wx ([.int .i64 x0.1.1, .int .i64 x0.1.2.1, .int .i64 x0.1.2.2.1, .int .i64 x0.1.2.2.2, .slice a1x0 x0.2.1.1.length c1x0, .slice b1x0 x0.2.1.2.length d1x0, .slice a2x0 x0.2.2.1.length c2x0, .slice a3x0 x0.2.2.2.1.1.length c3x0, .int .i64 x0.2.2.2.1.2.1, .bool x0.2.2.2.1.2.2.1, .slice b3x0 x0.2.2.2.1.2.2.2.length d3x0, .slice a4x0 x0.2.2.2.2.1.length c4x0, .slice a5x0 x0.2.2.2.2.2.length c5x0]) (x0))
    case first =>
      replace b0 := b0.drew
      replace X0 := owned_drew X0
      obtain ⟨A0c0, A0c1, A0c2, A0c3, A0c4, A0c5, A0c6, A0c7, A0c8, A0c9, A0c10, A0c11, A0c12⟩ := cells_fabric A0
      have A0lt := (Array.getElem?_eq_some_iff.1 A0).1
      obtain ⟨ZX0c0, ZX0c1, ZX0c2, ZX0c3, ZX0c4, ZX0c5, ZX0c6, ZX0c7, ZX0c8, ZX0c9, ZX0c10, ZX0c11, ZX0c12⟩ := cells_fabric ZX0
      have ZX0lt := (Array.getElem?_eq_some_iff.1 ZX0).1
      go_region_with (first | (go_at_call 7; refine (toFabric_u [.int .i64 x0.1.1, .int .i64 x0.1.2.1, .int .i64 x0.1.2.2.1, .int .i64 x0.1.2.2.2, .slice a1z0 x0.2.1.1.length c1z0, .slice b1z0 x0.2.1.2.length d1z0, .slice a2z0 x0.2.2.1.length c2z0, .slice a3z0 x0.2.2.2.1.1.length c3z0, .int .i64 x0.2.2.2.1.2.1, .bool x0.2.2.2.1.2.2.1, .slice b3z0 x0.2.2.2.1.2.2.2.length d3z0, .slice a4z0 x0.2.2.2.2.1.length c4z0, .slice a5z0 x0.2.2.2.2.2.length c5z0] x0 _ (HR0.out _ b0) hbk0).mono ?_; rintro e wq ⟨ds, rfl, mm⟩; obtain ⟨a1y, c1y, b1y, d1y, a2y, c2y, a3y, c3y, b3y, d3y, a4y, c4y, a5y, c5y, rfl⟩ := fabric_shape (fabricR.own_rd mm.1); rw [show aggV [.int .i64 x0.1.1, .int .i64 x0.1.2.1, .int .i64 x0.1.2.2.1, .int .i64 x0.1.2.2.2, .slice a1y x0.2.1.1.length c1y, .slice b1y x0.2.1.2.length d1y, .slice a2y x0.2.2.1.length c2y, .slice a3y x0.2.2.2.1.1.length c3y, .int .i64 x0.2.2.2.1.2.1, .bool x0.2.2.2.1.2.2.1, .slice b3y x0.2.2.2.1.2.2.2.length d3y, .slice a4y x0.2.2.2.2.1.length c4y, .slice a5y x0.2.2.2.2.2.length c5y] = .agg #[.int .i64 x0.1.1, .int .i64 x0.1.2.1, .int .i64 x0.1.2.2.1, .int .i64 x0.1.2.2.2, .slice a1y x0.2.1.1.length c1y, .slice b1y x0.2.1.2.length d1y, .slice a2y x0.2.2.1.length c2y, .slice a3y x0.2.2.2.1.1.length c3y, .int .i64 x0.2.2.2.1.2.1, .bool x0.2.2.2.1.2.2.1, .slice b3y x0.2.2.2.1.2.2.2.length d3y, .slice a4y x0.2.2.2.2.1.length c4y, .slice a5y x0.2.2.2.2.2.length c5y] from rfl]; have YY := fabricR.own_rd mm.1; have mb := mm.2; replace b0 := below_step b0 mb; replace A0 := row_keep mb A0; replace ZX0 := row_keep mb ZX0; replace X0 := owned_next X0 mb; clear mb mm; clear A0c0 A0c1 A0c2 A0c3 A0c4 A0c5 A0c6 A0c7 A0c8 A0c9 A0c10 A0c11 A0c12 A0lt ZX0c0 ZX0c1 ZX0c2 ZX0c3 ZX0c4 ZX0c5 ZX0c6 ZX0c7 ZX0c8 ZX0c9 ZX0c10 ZX0c11 ZX0c12 ZX0lt; obtain ⟨A0c0, A0c1, A0c2, A0c3, A0c4, A0c5, A0c6, A0c7, A0c8, A0c9, A0c10, A0c11, A0c12⟩ := cells_fabric A0; have A0lt := (Array.getElem?_eq_some_iff.1 A0).1; obtain ⟨ZX0c0, ZX0c1, ZX0c2, ZX0c3, ZX0c4, ZX0c5, ZX0c6, ZX0c7, ZX0c8, ZX0c9, ZX0c10, ZX0c11, ZX0c12⟩ := cells_fabric ZX0; have ZX0lt := (Array.getElem?_eq_some_iff.1 ZX0).1) | (go_at_call 9; refine (eqFabric_u [.int .i64 x0.1.1, .int .i64 x0.1.2.1, .int .i64 x0.1.2.2.1, .int .i64 x0.1.2.2.2, .slice a1x0 x0.2.1.1.length c1x0, .slice b1x0 x0.2.1.2.length d1x0, .slice a2x0 x0.2.2.1.length c2x0, .slice a3x0 x0.2.2.2.1.1.length c3x0, .int .i64 x0.2.2.2.1.2.1, .bool x0.2.2.2.1.2.2.1, .slice b3x0 x0.2.2.2.1.2.2.2.length d3x0, .slice a4x0 x0.2.2.2.2.1.length c4x0, .slice a5x0 x0.2.2.2.2.2.length c5x0] [.int .i64 x0.1.1, .int .i64 x0.1.2.1, .int .i64 x0.1.2.2.1, .int .i64 x0.1.2.2.2, .slice a1y x0.2.1.1.length c1y, .slice b1y x0.2.1.2.length d1y, .slice a2y x0.2.2.1.length c2y, .slice a3y x0.2.2.2.1.1.length c3y, .int .i64 x0.2.2.2.1.2.1, .bool x0.2.2.2.1.2.2.1, .slice b3y x0.2.2.2.1.2.2.2.length d3y, .slice a4y x0.2.2.2.2.1.length c4y, .slice a5y x0.2.2.2.2.2.length c5y] x0 _ (fabricR.own_rd X0.1) YY hbl0).mono ?_; rintro e wq ⟨rfl, mb⟩; replace b0 := below_step b0 mb; replace A0 := row_keep mb A0; replace ZX0 := row_keep mb ZX0; replace X0 := owned_next X0 mb; clear mb; clear A0c0 A0c1 A0c2 A0c3 A0c4 A0c5 A0c6 A0c7 A0c8 A0c9 A0c10 A0c11 A0c12 A0lt ZX0c0 ZX0c1 ZX0c2 ZX0c3 ZX0c4 ZX0c5 ZX0c6 ZX0c7 ZX0c8 ZX0c9 ZX0c10 ZX0c11 ZX0c12 ZX0lt; obtain ⟨A0c0, A0c1, A0c2, A0c3, A0c4, A0c5, A0c6, A0c7, A0c8, A0c9, A0c10, A0c11, A0c12⟩ := cells_fabric A0; have A0lt := (Array.getElem?_eq_some_iff.1 A0).1; obtain ⟨ZX0c0, ZX0c1, ZX0c2, ZX0c3, ZX0c4, ZX0c5, ZX0c6, ZX0c7, ZX0c8, ZX0c9, ZX0c10, ZX0c11, ZX0c12⟩ := cells_fabric ZX0; have ZX0lt := (Array.getElem?_eq_some_iff.1 ZX0).1))
      all_goals
        go_wp2_with fail
        go_meet
        exact ⟨rfl, b0, A0, ZX0, X0⟩
    case rest =>
      clear b0 A0 ZX0 X0
      obtain ⟨rfl, b0, A0, ZX0, X0⟩ := hcut
      generalize wc = v8w at b0 A0 ZX0 X0 ⊢
      clear A0 ZX0 X0
      go_wp2
      go_ret
      exact ⟨rfl, b0⟩
  · have HS0 : Hid (szI (fabricM.bk x0) (1048576) = -1) := szI_no hf0
    rw [HS0.out]
    go_wp2
    go_ret
    exact ⟨rfl, b0⟩
end Go.Proofs.YtiiipclglngdhaaGreatDoor.fnExactBound
