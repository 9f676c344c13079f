/- At every core and every number, impl.Begun answers as spec.Begun does, field by field, writes into no argument, keeps nothing of one, and its answer owns its memory, behind another call too: the law FnExactBegun returns true and changes nothing that was there. No condition. -/
import Derived.Test.YthbclkpmgcfdnaaGreatDoorRows
import Derived.Test.YthbclkpmgcfdnaaGreatDoorJLines614Iters
import Derived.Test.YthbclkpmgcfdnaaGreatDoorJNexts3Door
import Derived.Test.YthbclkpmgcfdnaaGreatDoorBegunS
import Derived.Test.YthbclkpmgcfdnaaGreatDoorBegunX
import Derived.Test.YthbclkpmgcfdnaaGreatDoorJMsgs7OpsBad
import Derived.WalkKit
import Derived.ProofKit
import Derived.OpenShut
import Derived.ShutString
import Derived.ChangeOld
import Derived.Below
import Derived.Carry
import Derived.Lib.SmallJoins
namespace Go.Proofs.YthbclkpmgcfdnaaGreatDoor.fnExactBegun
open Go.ChangeShapes Go.WideShapes Go.ChangeAt Go.RowKit Go.Joins
open Go.ChangeMaps (open_string shut_string)
set_option linter.unusedVariables false

theorem own : ownKnob Tryz.prog.godebug = none := by kernel_rfl
theorem laidOut : laidOutB Tryz.prog = true := by kernel_rfl

set_option maxHeartbeats 8000000 in
set_option maxRecDepth 100000 in
theorem walk (cs0 : Array Value) (x0 : RepOf (coreR)) (a1 : Int) (w1 : (Lit.int .i64 a1).wf = true) (w : World) (w0 : (coreR).rd w cs0.toList x0) (hh : Hold w) :
    Calls Tryz.prog 5 #[.agg cs0, .int .i64 a1] w fun e w' => e = .returned (.bool true) ∧ Below w.heap.size w w' := by
  obtain ⟨gaz0, gcz0, gbz0, gdz0, haz0, hcz0, iaz0, icz0, jaz0, jcz0, hcs0⟩ := core_shape w0
  obtain rfl := arr_of hcs0
  have HR0 : Hid (∀ W, Below w.heap.size w W → coreR.rd W [.slice gaz0 x0.1.1.length gcz0, .slice gbz0 x0.1.2.length gdz0, .slice haz0 x0.2.1.length hcz0, .int .i64 x0.2.2.1, .int .i64 x0.2.2.2.1, .int .i64 x0.2.2.2.2.1.1, .int .i64 x0.2.2.2.2.1.2.1, .slice iaz0 x0.2.2.2.2.1.2.2.length icz0, .slice jaz0 x0.2.2.2.2.2.length jcz0] x0) := fun W hb => rd_next w0 hb
  clear w0 hcs0
  have hsm := begun_small x0 a1
  generalize hres : begunI x0 a1 = res at hsm
  have HRES : Hid (begunI x0 a1 = res) := hres
  clear hres
  obtain ⟨y0, y1, y2⟩ := res
  simp only at hsm
  have CSP : Hid (∀ W cs0, Hold W → coreR.rd W cs0 x0 → coreM.bk x0 ≤ 1048576 → Calls Tryz.prog 12 #[aggV cs0, .int .i64 a1] W fun e w' => ∃ ds0 ds1, e = .returned (.tuple #[aggV ds0, cell1 ds1, .int .i64 y2]) ∧ coreR.rd w' ds0 y0 ∧ msgsR.rd w' ds1 y1 ∧ Below W.heap.size W w') := fun W cs0 hd h0 k0 => by have := specBegun_u cs0 x0 a1 W h0; rw [HRES.out] at this; exact this
  have CIM : Hid (∀ W cs0, Hold W → coreR.rd W cs0 x0 → coreM.bk x0 ≤ 1048576 → Calls Tryz.prog 9 #[aggV cs0, .int .i64 a1] W fun e w' => ∃ ds0 ds1, e = .returned (.tuple #[aggV ds0, cell1 ds1, .int .i64 y2]) ∧ ds0.length = coreR.size ∧ MadeR (prodR coreR msgsR) W w' (ds0 ++ ds1) (y0, y1)) := fun W cs0 hd h0 k0 => by have := implBegun_u cs0 x0 a1 W hd h0; rw [HRES.out] at this; exact this
  clear HRES
  have b0 := Below.refl w.heap.size w
  go_enter Tryz.func5, Tryz.ntmps5
  go_wp2_with fail
  have A0 := heap_at w (.cells #[.slice gaz0 x0.1.1.length gcz0, .slice gbz0 x0.1.2.length gdz0, .slice haz0 x0.2.1.length hcz0, .int .i64 x0.2.2.1, .int .i64 x0.2.2.2.1, .int .i64 x0.2.2.2.2.1.1, .int .i64 x0.2.2.2.2.1.2.1, .slice iaz0 x0.2.2.2.2.1.2.2.length icz0, .slice jaz0 x0.2.2.2.2.2.length jcz0] 65)
  have bzA0 := box_below w (.cells #[.slice gaz0 x0.1.1.length gcz0, .slice gbz0 x0.1.2.length gdz0, .slice haz0 x0.2.1.length hcz0, .int .i64 x0.2.2.1, .int .i64 x0.2.2.2.1, .int .i64 x0.2.2.2.2.1.1, .int .i64 x0.2.2.2.2.1.2.1, .slice iaz0 x0.2.2.2.2.1.2.2.length icz0, .slice jaz0 x0.2.2.2.2.2.length jcz0] 65)
  replace b0 := below_step b0 bzA0
  clear bzA0
  generalize w.alloc (.cells #[.slice gaz0 x0.1.1.length gcz0, .slice gbz0 x0.1.2.length gdz0, .slice haz0 x0.2.1.length hcz0, .int .i64 x0.2.2.1, .int .i64 x0.2.2.2.1, .int .i64 x0.2.2.2.2.1.1, .int .i64 x0.2.2.2.2.1.2.1, .slice iaz0 x0.2.2.2.2.1.2.2.length icz0, .slice jaz0 x0.2.2.2.2.2.length jcz0] 65) = v1w at b0 A0 ⊢
  refine (szCore_u [.slice gaz0 x0.1.1.length gcz0, .slice gbz0 x0.1.2.length gdz0, .slice haz0 x0.2.1.length hcz0, .int .i64 x0.2.2.1, .int .i64 x0.2.2.2.1, .int .i64 x0.2.2.2.2.1.1, .int .i64 x0.2.2.2.2.1.2.1, .slice iaz0 x0.2.2.2.2.1.2.2.length icz0, .slice jaz0 x0.2.2.2.2.2.length jcz0] x0 (1048576) _ (HR0.out _ b0) (by omega) (by omega)).mono ?_
  rintro e v2w ⟨rfl, bq⟩
  replace b0 := below_step b0 bq
  replace A0 := row_keep bq A0
  clear bq
  by_cases hf0 : ((coreM.bk x0 : Nat) : Int) ≤ 1048576
  · have HS0 : Hid (szI (coreM.bk x0) (1048576) = 1048576 - (coreM.bk x0 : Int)) := szI_yes hf0
    have hg0 : ¬ (1048576 - ((coreM.bk x0 : Nat) : Int) < 0) := by omega
    have hbk0 : coreM.bk x0 ≤ 1048576 := by omega
    have hbl0 : coreM.bk x0 ≤ lot := Nat.le_trans hbk0 (by decide)
    rw [HS0.out]
    replace hsm := hsm hbk0
    have hxm0 : (coreM.cV x0 : Int) ≤ 268435456 := by have := bv_core x0; omega
    generalize hkx0 : coreM.cV x0 = kx0 at hxm0
    have HKX0 : Hid (coreM.cV x0 = kx0) := hkx0
    clear hkx0
    have hb0 : coreM.bk y0 ≤ 8388608 := hsm.1
    have hl0 : coreM.bk y0 ≤ lot := Nat.le_trans hb0 (by decide)
    have hgm0 : (coreM.cV y0 : Int) ≤ 268435456 := by have := bv_core y0; omega
    generalize hky0 : coreM.cV y0 = ky0 at hgm0
    have HKY0 : Hid (coreM.cV y0 = ky0) := hky0
    clear hky0
    have hb1 : msgsM.bk y1 ≤ 8388608 := hsm.2
    have hl1 : msgsM.bk y1 ≤ lot := Nat.le_trans hb1 (by decide)
    have hgm1 : (msgsM.cV y1 : Int) ≤ 268435456 := by have := bv_msgs y1; omega
    generalize hky1 : msgsM.cV y1 = ky1 at hgm1
    have HKY1 : Hid (msgsM.cV y1 = ky1) := hky1
    clear hky1
    have hlot : (lot : Int) = 4398046511104 := rfl
    obtain ⟨A0c0, A0c1, A0c2, A0c3, A0c4, A0c5, A0c6, A0c7, A0c8⟩ := cells_core A0
    have A0lt := (Array.getElem?_eq_some_iff.1 A0).1
    go_wp2_with fail
    clear A0c0 A0c1 A0c2 A0c3 A0c4 A0c5 A0c6 A0c7 A0c8 A0lt
    refine (toCore_u [.slice gaz0 x0.1.1.length gcz0, .slice gbz0 x0.1.2.length gdz0, .slice haz0 x0.2.1.length hcz0, .int .i64 x0.2.2.1, .int .i64 x0.2.2.2.1, .int .i64 x0.2.2.2.2.1.1, .int .i64 x0.2.2.2.2.1.2.1, .slice iaz0 x0.2.2.2.2.1.2.2.length icz0, .slice jaz0 x0.2.2.2.2.2.length jcz0] x0 _ (HR0.out _ b0) hbk0).mono ?_
    rintro e v3w ⟨ds, rfl, mm⟩
    obtain ⟨gap0, gcp0, gbp0, gdp0, hap0, hcp0, iap0, icp0, jap0, jcp0, rfl⟩ := core_shape (coreR.own_rd mm.1)
    rw [show aggV [.slice gap0 x0.1.1.length gcp0, .slice gbp0 x0.1.2.length gdp0, .slice hap0 x0.2.1.length hcp0, .int .i64 x0.2.2.1, .int .i64 x0.2.2.2.1, .int .i64 x0.2.2.2.2.1.1, .int .i64 x0.2.2.2.2.1.2.1, .slice iap0 x0.2.2.2.2.1.2.2.length icp0, .slice jap0 x0.2.2.2.2.2.length jcp0] = .agg #[.slice gap0 x0.1.1.length gcp0, .slice gbp0 x0.1.2.length gdp0, .slice hap0 x0.2.1.length hcp0, .int .i64 x0.2.2.1, .int .i64 x0.2.2.2.1, .int .i64 x0.2.2.2.2.1.1, .int .i64 x0.2.2.2.2.1.2.1, .slice iap0 x0.2.2.2.2.1.2.2.length icp0, .slice jap0 x0.2.2.2.2.2.length jcp0] from rfl]
    have P0A0 : w.heap.size < v2w.heap.size ∨ v3w.heap.size ≤ w.heap.size := .inl (Array.getElem?_eq_some_iff.1 A0).1
    have P0lo : w.heap.size ≤ v2w.heap.size := b0.size
    have P0 := owned_made (R := coreR) mm
    have mbP0 := mm.2
    replace b0 := below_step b0 mbP0
    replace A0 := row_keep mbP0 A0
    clear mbP0 mm
    obtain ⟨A0c0, A0c1, A0c2, A0c3, A0c4, A0c5, A0c6, A0c7, A0c8⟩ := cells_core A0
    have A0lt := (Array.getElem?_eq_some_iff.1 A0).1
    go_wp2_with fail
    clear A0c0 A0c1 A0c2 A0c3 A0c4 A0c5 A0c6 A0c7 A0c8 A0lt
    refine (CSP.out _ [.slice gap0 x0.1.1.length gcp0, .slice gbp0 x0.1.2.length gdp0, .slice hap0 x0.2.1.length hcp0, .int .i64 x0.2.2.1, .int .i64 x0.2.2.2.1, .int .i64 x0.2.2.2.2.1.1, .int .i64 x0.2.2.2.2.1.2.1, .slice iap0 x0.2.2.2.2.1.2.2.length icp0, .slice jap0 x0.2.2.2.2.2.length jcp0] (hh.to b0) (coreR.own_rd P0.1) hbk0).mono ?_
    rintro e v4w ⟨ds0, ds1, rfl, rd0, rd1, bq⟩
    replace b0 := below_step b0 bq
    replace A0 := row_keep bq A0
    replace P0 := owned_next P0 bq
    clear bq
    clear P0
    obtain ⟨gaq0, gcq0, gbq0, gdq0, haq0, hcq0, iaq0, icq0, jaq0, jcq0, rfl⟩ := core_shape (rd0)
    rw [show aggV [.slice gaq0 y0.1.1.length gcq0, .slice gbq0 y0.1.2.length gdq0, .slice haq0 y0.2.1.length hcq0, .int .i64 y0.2.2.1, .int .i64 y0.2.2.2.1, .int .i64 y0.2.2.2.2.1.1, .int .i64 y0.2.2.2.2.1.2.1, .slice iaq0 y0.2.2.2.2.1.2.2.length icq0, .slice jaq0 y0.2.2.2.2.2.length jcq0] = .agg #[.slice gaq0 y0.1.1.length gcq0, .slice gbq0 y0.1.2.length gdq0, .slice haq0 y0.2.1.length hcq0, .int .i64 y0.2.2.1, .int .i64 y0.2.2.2.1, .int .i64 y0.2.2.2.2.1.1, .int .i64 y0.2.2.2.2.1.2.1, .slice iaq0 y0.2.2.2.2.1.2.2.length icq0, .slice jaq0 y0.2.2.2.2.2.length jcq0] from rfl]
    have S0 := sight_of rd0
    clear rd0
    have rr := rd1
    obtain ⟨gaq1, gcq1, ro, -, -, -⟩ := rr
    obtain rfl := ro
    rw [show cell1 [.slice gaq1 y1.length gcq1] = .slice gaq1 y1.length gcq1 from rfl]
    have S1 := sight_of rd1
    clear rd1
    obtain ⟨A0c0, A0c1, A0c2, A0c3, A0c4, A0c5, A0c6, A0c7, A0c8⟩ := cells_core A0
    have A0lt := (Array.getElem?_eq_some_iff.1 A0).1
    go_wp2_with fail
    clear A0c0 A0c1 A0c2 A0c3 A0c4 A0c5 A0c6 A0c7 A0c8 A0lt
    have ZQ0 := heap_at v4w (.cells #[.slice gaq0 y0.1.1.length gcq0, .slice gbq0 y0.1.2.length gdq0, .slice haq0 y0.2.1.length hcq0, .int .i64 y0.2.2.1, .int .i64 y0.2.2.2.1, .int .i64 y0.2.2.2.2.1.1, .int .i64 y0.2.2.2.2.1.2.1, .slice iaq0 y0.2.2.2.2.1.2.2.length icq0, .slice jaq0 y0.2.2.2.2.2.length jcq0] 32)
    have bzZQ0 := box_below v4w (.cells #[.slice gaq0 y0.1.1.length gcq0, .slice gbq0 y0.1.2.length gdq0, .slice haq0 y0.2.1.length hcq0, .int .i64 y0.2.2.1, .int .i64 y0.2.2.2.1, .int .i64 y0.2.2.2.2.1.1, .int .i64 y0.2.2.2.2.1.2.1, .slice iaq0 y0.2.2.2.2.1.2.2.length icq0, .slice jaq0 y0.2.2.2.2.2.length jcq0] 32)
    replace b0 := below_step b0 bzZQ0
    replace A0 := row_keep bzZQ0 A0
    replace S0 := sight_next S0 bzZQ0
    replace S1 := sight_next S1 bzZQ0
    clear bzZQ0
    generalize v4w.alloc (.cells #[.slice gaq0 y0.1.1.length gcq0, .slice gbq0 y0.1.2.length gdq0, .slice haq0 y0.2.1.length hcq0, .int .i64 y0.2.2.1, .int .i64 y0.2.2.2.1, .int .i64 y0.2.2.2.2.1.1, .int .i64 y0.2.2.2.2.1.2.1, .slice iaq0 y0.2.2.2.2.1.2.2.length icq0, .slice jaq0 y0.2.2.2.2.2.length jcq0] 32) = v5w at b0 A0 ZQ0 S0 S1 ⊢
    obtain ⟨A0c0, A0c1, A0c2, A0c3, A0c4, A0c5, A0c6, A0c7, A0c8⟩ := cells_core A0
    have A0lt := (Array.getElem?_eq_some_iff.1 A0).1
    obtain ⟨ZQ0c0, ZQ0c1, ZQ0c2, ZQ0c3, ZQ0c4, ZQ0c5, ZQ0c6, ZQ0c7, ZQ0c8⟩ := cells_core ZQ0
    have ZQ0lt := (Array.getElem?_eq_some_iff.1 ZQ0).1
    go_wp2_with fail
    clear A0c0 A0c1 A0c2 A0c3 A0c4 A0c5 A0c6 A0c7 A0c8 A0lt ZQ0c0 ZQ0c1 ZQ0c2 ZQ0c3 ZQ0c4 ZQ0c5 ZQ0c6 ZQ0c7 ZQ0c8 ZQ0lt
    refine (toCore_u [.slice gaz0 x0.1.1.length gcz0, .slice gbz0 x0.1.2.length gdz0, .slice haz0 x0.2.1.length hcz0, .int .i64 x0.2.2.1, .int .i64 x0.2.2.2.1, .int .i64 x0.2.2.2.2.1.1, .int .i64 x0.2.2.2.2.1.2.1, .slice iaz0 x0.2.2.2.2.1.2.2.length icz0, .slice jaz0 x0.2.2.2.2.2.length jcz0] x0 _ (HR0.out _ b0) hbk0).mono ?_
    rintro e v6w ⟨ds, rfl, mm⟩
    obtain ⟨gax0, gcx0, gbx0, gdx0, hax0, hcx0, iax0, icx0, jax0, jcx0, rfl⟩ := core_shape (coreR.own_rd mm.1)
    rw [show aggV [.slice gax0 x0.1.1.length gcx0, .slice gbx0 x0.1.2.length gdx0, .slice hax0 x0.2.1.length hcx0, .int .i64 x0.2.2.1, .int .i64 x0.2.2.2.1, .int .i64 x0.2.2.2.2.1.1, .int .i64 x0.2.2.2.2.1.2.1, .slice iax0 x0.2.2.2.2.1.2.2.length icx0, .slice jax0 x0.2.2.2.2.2.length jcx0] = .agg #[.slice gax0 x0.1.1.length gcx0, .slice gbx0 x0.1.2.length gdx0, .slice hax0 x0.2.1.length hcx0, .int .i64 x0.2.2.1, .int .i64 x0.2.2.2.1, .int .i64 x0.2.2.2.2.1.1, .int .i64 x0.2.2.2.2.1.2.1, .slice iax0 x0.2.2.2.2.1.2.2.length icx0, .slice jax0 x0.2.2.2.2.2.length jcx0] from rfl]
    have X0S0 : v4w.heap.size ≤ v5w.heap.size := sight_lt S0
    have X0S1 : v4w.heap.size ≤ v5w.heap.size := sight_lt S1
    have X0A0 : w.heap.size < v5w.heap.size ∨ v6w.heap.size ≤ w.heap.size := .inl (Array.getElem?_eq_some_iff.1 A0).1
    have X0ZQ0 : v4w.heap.size < v5w.heap.size ∨ v6w.heap.size ≤ v4w.heap.size := .inl (Array.getElem?_eq_some_iff.1 ZQ0).1
    have X0lo : w.heap.size ≤ v5w.heap.size := b0.size
    have X0 := owned_made (R := coreR) mm
    have mbX0 := mm.2
    replace b0 := below_step b0 mbX0
    replace A0 := row_keep mbX0 A0
    replace ZQ0 := row_keep mbX0 ZQ0
    replace S0 := sight_next S0 mbX0
    replace S1 := sight_next S1 mbX0
    clear mbX0 mm
    obtain ⟨A0c0, A0c1, A0c2, A0c3, A0c4, A0c5, A0c6, A0c7, A0c8⟩ := cells_core A0
    have A0lt := (Array.getElem?_eq_some_iff.1 A0).1
    obtain ⟨ZQ0c0, ZQ0c1, ZQ0c2, ZQ0c3, ZQ0c4, ZQ0c5, ZQ0c6, ZQ0c7, ZQ0c8⟩ := cells_core ZQ0
    have ZQ0lt := (Array.getElem?_eq_some_iff.1 ZQ0).1
    go_wp2_with fail
    clear A0c0 A0c1 A0c2 A0c3 A0c4 A0c5 A0c6 A0c7 A0c8 A0lt ZQ0c0 ZQ0c1 ZQ0c2 ZQ0c3 ZQ0c4 ZQ0c5 ZQ0c6 ZQ0c7 ZQ0c8 ZQ0lt
    have ZX0 := heap_at v6w (.cells #[.slice gax0 x0.1.1.length gcx0, .slice gbx0 x0.1.2.length gdx0, .slice hax0 x0.2.1.length hcx0, .int .i64 x0.2.2.1, .int .i64 x0.2.2.2.1, .int .i64 x0.2.2.2.2.1.1, .int .i64 x0.2.2.2.2.1.2.1, .slice iax0 x0.2.2.2.2.1.2.2.length icx0, .slice jax0 x0.2.2.2.2.2.length jcx0] 32)
    have bzZX0 := box_below v6w (.cells #[.slice gax0 x0.1.1.length gcx0, .slice gbx0 x0.1.2.length gdx0, .slice hax0 x0.2.1.length hcx0, .int .i64 x0.2.2.1, .int .i64 x0.2.2.2.1, .int .i64 x0.2.2.2.2.1.1, .int .i64 x0.2.2.2.2.1.2.1, .slice iax0 x0.2.2.2.2.1.2.2.length icx0, .slice jax0 x0.2.2.2.2.2.length jcx0] 32)
    have X0ZX0 : v6w.heap.size < v5w.heap.size ∨ v6w.heap.size ≤ v6w.heap.size := .inr X0.2
    replace b0 := below_step b0 bzZX0
    replace A0 := row_keep bzZX0 A0
    replace ZQ0 := row_keep bzZX0 ZQ0
    replace X0 := owned_next X0 bzZX0
    replace S0 := sight_next S0 bzZX0
    replace S1 := sight_next S1 bzZX0
    clear bzZX0
    generalize v6w.alloc (.cells #[.slice gax0 x0.1.1.length gcx0, .slice gbx0 x0.1.2.length gdx0, .slice hax0 x0.2.1.length hcx0, .int .i64 x0.2.2.1, .int .i64 x0.2.2.2.1, .int .i64 x0.2.2.2.2.1.1, .int .i64 x0.2.2.2.2.1.2.1, .slice iax0 x0.2.2.2.2.1.2.2.length icx0, .slice jax0 x0.2.2.2.2.2.length jcx0] 32) = v7w at b0 A0 ZQ0 ZX0 X0 S0 S1 ⊢
    obtain ⟨A0c0, A0c1, A0c2, A0c3, A0c4, A0c5, A0c6, A0c7, A0c8⟩ := cells_core A0
    have A0lt := (Array.getElem?_eq_some_iff.1 A0).1
    obtain ⟨ZQ0c0, ZQ0c1, ZQ0c2, ZQ0c3, ZQ0c4, ZQ0c5, ZQ0c6, ZQ0c7, ZQ0c8⟩ := cells_core ZQ0
    have ZQ0lt := (Array.getElem?_eq_some_iff.1 ZQ0).1
    obtain ⟨ZX0c0, ZX0c1, ZX0c2, ZX0c3, ZX0c4, ZX0c5, ZX0c6, ZX0c7, ZX0c8⟩ := cells_core ZX0
    have ZX0lt := (Array.getElem?_eq_some_iff.1 ZX0).1
    go_wp2_with fail
    clear A0c0 A0c1 A0c2 A0c3 A0c4 A0c5 A0c6 A0c7 A0c8 A0lt ZQ0c0 ZQ0c1 ZQ0c2 ZQ0c3 ZQ0c4 ZQ0c5 ZQ0c6 ZQ0c7 ZQ0c8 ZQ0lt ZX0c0 ZX0c1 ZX0c2 ZX0c3 ZX0c4 ZX0c5 ZX0c6 ZX0c7 ZX0c8 ZX0lt
    refine (CIM.out _ [.slice gax0 x0.1.1.length gcx0, .slice gbx0 x0.1.2.length gdx0, .slice hax0 x0.2.1.length hcx0, .int .i64 x0.2.2.1, .int .i64 x0.2.2.2.1, .int .i64 x0.2.2.2.2.1.1, .int .i64 x0.2.2.2.2.1.2.1, .slice iax0 x0.2.2.2.2.1.2.2.length icx0, .slice jax0 x0.2.2.2.2.2.length jcx0] (hh.to b0) (coreR.own_rd X0.1) hbk0).mono ?_
    rintro e v8w ⟨ds0, ds1, rfl, pl, mm⟩
    have pr := pair_rd ((prodR coreR msgsR).own_rd mm.1) pl
    clear pl
    obtain ⟨gag0, gcg0, gbg0, gdg0, hag0, hcg0, iag0, icg0, jag0, jcg0, rfl⟩ := core_shape (pr.1)
    rw [show aggV [.slice gag0 y0.1.1.length gcg0, .slice gbg0 y0.1.2.length gdg0, .slice hag0 y0.2.1.length hcg0, .int .i64 y0.2.2.1, .int .i64 y0.2.2.2.1, .int .i64 y0.2.2.2.2.1.1, .int .i64 y0.2.2.2.2.1.2.1, .slice iag0 y0.2.2.2.2.1.2.2.length icg0, .slice jag0 y0.2.2.2.2.2.length jcg0] = .agg #[.slice gag0 y0.1.1.length gcg0, .slice gbg0 y0.1.2.length gdg0, .slice hag0 y0.2.1.length hcg0, .int .i64 y0.2.2.1, .int .i64 y0.2.2.2.1, .int .i64 y0.2.2.2.2.1.1, .int .i64 y0.2.2.2.2.1.2.1, .slice iag0 y0.2.2.2.2.1.2.2.length icg0, .slice jag0 y0.2.2.2.2.2.length jcg0] from rfl]
    have rr := pr.2
    obtain ⟨gag1, gcg1, ro, -, -, -⟩ := rr
    obtain rfl := ro
    rw [show cell1 [.slice gag1 y1.length gcg1] = .slice gag1 y1.length gcg1 from rfl]
    clear pr
    have GGS0 : v4w.heap.size ≤ v7w.heap.size := sight_lt S0
    have GGS1 : v4w.heap.size ≤ v7w.heap.size := sight_lt S1
    have GGA0 : w.heap.size < v7w.heap.size ∨ v8w.heap.size ≤ w.heap.size := .inl (Array.getElem?_eq_some_iff.1 A0).1
    have GGZQ0 : v4w.heap.size < v7w.heap.size ∨ v8w.heap.size ≤ v4w.heap.size := .inl (Array.getElem?_eq_some_iff.1 ZQ0).1
    have GGZX0 : v6w.heap.size < v7w.heap.size ∨ v8w.heap.size ≤ v6w.heap.size := .inl (Array.getElem?_eq_some_iff.1 ZX0).1
    have X0GG : v6w.heap.size ≤ v7w.heap.size := X0.2
    have GGlo : w.heap.size ≤ v7w.heap.size := b0.size
    have GG := owned_made (R := (prodR coreR msgsR)) mm
    have mbGG := mm.2
    replace b0 := below_step b0 mbGG
    replace A0 := row_keep mbGG A0
    replace ZQ0 := row_keep mbGG ZQ0
    replace ZX0 := row_keep mbGG ZX0
    replace X0 := owned_next X0 mbGG
    replace S0 := sight_next S0 mbGG
    replace S1 := sight_next S1 mbGG
    clear mbGG mm
    obtain ⟨A0c0, A0c1, A0c2, A0c3, A0c4, A0c5, A0c6, A0c7, A0c8⟩ := cells_core A0
    have A0lt := (Array.getElem?_eq_some_iff.1 A0).1
    obtain ⟨ZQ0c0, ZQ0c1, ZQ0c2, ZQ0c3, ZQ0c4, ZQ0c5, ZQ0c6, ZQ0c7, ZQ0c8⟩ := cells_core ZQ0
    have ZQ0lt := (Array.getElem?_eq_some_iff.1 ZQ0).1
    obtain ⟨ZX0c0, ZX0c1, ZX0c2, ZX0c3, ZX0c4, ZX0c5, ZX0c6, ZX0c7, ZX0c8⟩ := cells_core ZX0
    have ZX0lt := (Array.getElem?_eq_some_iff.1 ZX0).1
    go_wp2_with fail
    clear A0c0 A0c1 A0c2 A0c3 A0c4 A0c5 A0c6 A0c7 A0c8 A0lt ZQ0c0 ZQ0c1 ZQ0c2 ZQ0c3 ZQ0c4 ZQ0c5 ZQ0c6 ZQ0c7 ZQ0c8 ZQ0lt ZX0c0 ZX0c1 ZX0c2 ZX0c3 ZX0c4 ZX0c5 ZX0c6 ZX0c7 ZX0c8 ZX0lt
    have ZG0 := heap_at v8w (.cells #[.slice gag0 y0.1.1.length gcg0, .slice gbg0 y0.1.2.length gdg0, .slice hag0 y0.2.1.length hcg0, .int .i64 y0.2.2.1, .int .i64 y0.2.2.2.1, .int .i64 y0.2.2.2.2.1.1, .int .i64 y0.2.2.2.2.1.2.1, .slice iag0 y0.2.2.2.2.1.2.2.length icg0, .slice jag0 y0.2.2.2.2.2.length jcg0] 32)
    have bzZG0 := box_below v8w (.cells #[.slice gag0 y0.1.1.length gcg0, .slice gbg0 y0.1.2.length gdg0, .slice hag0 y0.2.1.length hcg0, .int .i64 y0.2.2.1, .int .i64 y0.2.2.2.1, .int .i64 y0.2.2.2.2.1.1, .int .i64 y0.2.2.2.2.1.2.1, .slice iag0 y0.2.2.2.2.1.2.2.length icg0, .slice jag0 y0.2.2.2.2.2.length jcg0] 32)
    have X0ZG0 : v8w.heap.size < v5w.heap.size ∨ v6w.heap.size ≤ v8w.heap.size := .inr X0.2
    have GGZG0 : v8w.heap.size < v7w.heap.size ∨ v8w.heap.size ≤ v8w.heap.size := .inr GG.2
    replace b0 := below_step b0 bzZG0
    replace A0 := row_keep bzZG0 A0
    replace ZQ0 := row_keep bzZG0 ZQ0
    replace ZX0 := row_keep bzZG0 ZX0
    replace X0 := owned_next X0 bzZG0
    replace GG := owned_next GG bzZG0
    replace S0 := sight_next S0 bzZG0
    replace S1 := sight_next S1 bzZG0
    clear bzZG0
    generalize v8w.alloc (.cells #[.slice gag0 y0.1.1.length gcg0, .slice gbg0 y0.1.2.length gdg0, .slice hag0 y0.2.1.length hcg0, .int .i64 y0.2.2.1, .int .i64 y0.2.2.2.1, .int .i64 y0.2.2.2.2.1.1, .int .i64 y0.2.2.2.2.1.2.1, .slice iag0 y0.2.2.2.2.1.2.2.length icg0, .slice jag0 y0.2.2.2.2.2.length jcg0] 32) = v9w at b0 A0 ZQ0 ZX0 ZG0 X0 GG S0 S1 ⊢
    obtain ⟨A0c0, A0c1, A0c2, A0c3, A0c4, A0c5, A0c6, A0c7, A0c8⟩ := cells_core A0
    have A0lt := (Array.getElem?_eq_some_iff.1 A0).1
    obtain ⟨ZQ0c0, ZQ0c1, ZQ0c2, ZQ0c3, ZQ0c4, ZQ0c5, ZQ0c6, ZQ0c7, ZQ0c8⟩ := cells_core ZQ0
    have ZQ0lt := (Array.getElem?_eq_some_iff.1 ZQ0).1
    obtain ⟨ZX0c0, ZX0c1, ZX0c2, ZX0c3, ZX0c4, ZX0c5, ZX0c6, ZX0c7, ZX0c8⟩ := cells_core ZX0
    have ZX0lt := (Array.getElem?_eq_some_iff.1 ZX0).1
    obtain ⟨ZG0c0, ZG0c1, ZG0c2, ZG0c3, ZG0c4, ZG0c5, ZG0c6, ZG0c7, ZG0c8⟩ := cells_core ZG0
    have ZG0lt := (Array.getElem?_eq_some_iff.1 ZG0).1
    go_wp2_with fail
    clear A0c0 A0c1 A0c2 A0c3 A0c4 A0c5 A0c6 A0c7 A0c8 A0lt ZQ0c0 ZQ0c1 ZQ0c2 ZQ0c3 ZQ0c4 ZQ0c5 ZQ0c6 ZQ0c7 ZQ0c8 ZQ0lt ZX0c0 ZX0c1 ZX0c2 ZX0c3 ZX0c4 ZX0c5 ZX0c6 ZX0c7 ZX0c8 ZX0lt ZG0c0 ZG0c1 ZG0c2 ZG0c3 ZG0c4 ZG0c5 ZG0c6 ZG0c7 ZG0c8 ZG0lt
    refine (eqCore_u [.slice gag0 y0.1.1.length gcg0, .slice gbg0 y0.1.2.length gdg0, .slice hag0 y0.2.1.length hcg0, .int .i64 y0.2.2.1, .int .i64 y0.2.2.2.1, .int .i64 y0.2.2.2.2.1.1, .int .i64 y0.2.2.2.2.1.2.1, .slice iag0 y0.2.2.2.2.1.2.2.length icg0, .slice jag0 y0.2.2.2.2.2.length jcg0] [.slice gaq0 y0.1.1.length gcq0, .slice gbq0 y0.1.2.length gdq0, .slice haq0 y0.2.1.length hcq0, .int .i64 y0.2.2.1, .int .i64 y0.2.2.2.1, .int .i64 y0.2.2.2.2.1.1, .int .i64 y0.2.2.2.2.1.2.1, .slice iaq0 y0.2.2.2.2.1.2.2.length icq0, .slice jaq0 y0.2.2.2.2.2.length jcq0] y0 _ (pair_rd ((prodR coreR msgsR).own_rd GG.1) rfl).1 (sight_rd S0) hl0).mono ?_
    rintro e v10w ⟨rfl, bq⟩
    replace b0 := below_step b0 bq
    replace A0 := row_keep bq A0
    replace ZQ0 := row_keep bq ZQ0
    replace ZX0 := row_keep bq ZX0
    replace ZG0 := row_keep bq ZG0
    replace X0 := owned_next X0 bq
    replace GG := owned_next GG bq
    replace S0 := sight_next S0 bq
    replace S1 := sight_next S1 bq
    clear bq
    obtain ⟨A0c0, A0c1, A0c2, A0c3, A0c4, A0c5, A0c6, A0c7, A0c8⟩ := cells_core A0
    have A0lt := (Array.getElem?_eq_some_iff.1 A0).1
    obtain ⟨ZQ0c0, ZQ0c1, ZQ0c2, ZQ0c3, ZQ0c4, ZQ0c5, ZQ0c6, ZQ0c7, ZQ0c8⟩ := cells_core ZQ0
    have ZQ0lt := (Array.getElem?_eq_some_iff.1 ZQ0).1
    obtain ⟨ZX0c0, ZX0c1, ZX0c2, ZX0c3, ZX0c4, ZX0c5, ZX0c6, ZX0c7, ZX0c8⟩ := cells_core ZX0
    have ZX0lt := (Array.getElem?_eq_some_iff.1 ZX0).1
    obtain ⟨ZG0c0, ZG0c1, ZG0c2, ZG0c3, ZG0c4, ZG0c5, ZG0c6, ZG0c7, ZG0c8⟩ := cells_core ZG0
    have ZG0lt := (Array.getElem?_eq_some_iff.1 ZG0).1
    go_wp2_with fail
    clear A0c0 A0c1 A0c2 A0c3 A0c4 A0c5 A0c6 A0c7 A0c8 A0lt ZQ0c0 ZQ0c1 ZQ0c2 ZQ0c3 ZQ0c4 ZQ0c5 ZQ0c6 ZQ0c7 ZQ0c8 ZQ0lt ZX0c0 ZX0c1 ZX0c2 ZX0c3 ZX0c4 ZX0c5 ZX0c6 ZX0c7 ZX0c8 ZX0lt ZG0c0 ZG0c1 ZG0c2 ZG0c3 ZG0c4 ZG0c5 ZG0c6 ZG0c7 ZG0c8 ZG0lt
    refine (eqMsgs_u [.slice gag1 y1.length gcg1] [.slice gaq1 y1.length gcq1] y1 _ (pair_rd ((prodR coreR msgsR).own_rd GG.1) rfl).2 (sight_rd S1) hl1).mono ?_
    rintro e v11w ⟨rfl, bq⟩
    replace b0 := below_step b0 bq
    replace A0 := row_keep bq A0
    replace ZQ0 := row_keep bq ZQ0
    replace ZX0 := row_keep bq ZX0
    replace ZG0 := row_keep bq ZG0
    replace X0 := owned_next X0 bq
    replace GG := owned_next GG bq
    replace S0 := sight_next S0 bq
    replace S1 := sight_next S1 bq
    clear bq
    obtain ⟨A0c0, A0c1, A0c2, A0c3, A0c4, A0c5, A0c6, A0c7, A0c8⟩ := cells_core A0
    have A0lt := (Array.getElem?_eq_some_iff.1 A0).1
    obtain ⟨ZQ0c0, ZQ0c1, ZQ0c2, ZQ0c3, ZQ0c4, ZQ0c5, ZQ0c6, ZQ0c7, ZQ0c8⟩ := cells_core ZQ0
    have ZQ0lt := (Array.getElem?_eq_some_iff.1 ZQ0).1
    obtain ⟨ZX0c0, ZX0c1, ZX0c2, ZX0c3, ZX0c4, ZX0c5, ZX0c6, ZX0c7, ZX0c8⟩ := cells_core ZX0
    have ZX0lt := (Array.getElem?_eq_some_iff.1 ZX0).1
    obtain ⟨ZG0c0, ZG0c1, ZG0c2, ZG0c3, ZG0c4, ZG0c5, ZG0c6, ZG0c7, ZG0c8⟩ := cells_core ZG0
    have ZG0lt := (Array.getElem?_eq_some_iff.1 ZG0).1
    go_upto_region 10 with fail
    clear A0c0 A0c1 A0c2 A0c3 A0c4 A0c5 A0c6 A0c7 A0c8 A0lt ZQ0c0 ZQ0c1 ZQ0c2 ZQ0c3 ZQ0c4 ZQ0c5 ZQ0c6 ZQ0c7 ZQ0c8 ZQ0lt ZX0c0 ZX0c1 ZX0c2 ZX0c3 ZX0c4 ZX0c5 ZX0c6 ZX0c7 ZX0c8 ZX0lt ZG0c0 ZG0c1 ZG0c2 ZG0c3 ZG0c4 ZG0c5 ZG0c6 ZG0c7 ZG0c8 ZG0lt
    go_cut [60] (fun q wx => q = .bool false ∧ Below w.heap.size w wx ∧ wx.heap[w.heap.size]? = some (.cells #[.slice gaz0 x0.1.1.length gcz0, .slice gbz0 x0.1.2.length gdz0, .slice haz0 x0.2.1.length hcz0, .int .i64 x0.2.2.1, .int .i64 x0.2.2.2.1, .int .i64 x0.2.2.2.2.1.1, .int .i64 x0.2.2.2.2.1.2.1, .slice iaz0 x0.2.2.2.2.1.2.2.length icz0, .slice jaz0 x0.2.2.2.2.2.length jcz0] 65) ∧ wx.heap[v4w.heap.size]? = some (.cells #[.slice gaq0 y0.1.1.length gcq0, .slice gbq0 y0.1.2.length gdq0, .slice haq0 y0.2.1.length hcq0, .int .i64 y0.2.2.1, .int .i64 y0.2.2.2.1, .int .i64 y0.2.2.2.2.1.1, .int .i64 y0.2.2.2.2.1.2.1, .slice iaq0 y0.2.2.2.2.1.2.2.length icq0, .slice jaq0 y0.2.2.2.2.2.length jcq0] 32) ∧ wx.heap[v6w.heap.size]? = some (.cells #[.slice gax0 x0.1.1.length gcx0, .slice gbx0 x0.1.2.length gdx0, .slice hax0 x0.2.1.length hcx0, .int .i64 x0.2.2.1, .int .i64 x0.2.2.2.1, .int .i64 x0.2.2.2.2.1.1, .int .i64 x0.2.2.2.2.1.2.1, .slice iax0 x0.2.2.2.2.1.2.2.length icx0, .slice jax0 x0.2.2.2.2.2.length jcx0] 32) ∧ wx.heap[v8w.heap.size]? = some (.cells #[.slice gag0 y0.1.1.length gcg0, .slice gbg0 y0.1.2.length gdg0, .slice hag0 y0.2.1.length hcg0, .int .i64 y0.2.2.1, .int .i64 y0.2.2.2.1, .int .i64 y0.2.2.2.2.1.1, .int .i64 y0.2.2.2.2.1.2.1, .slice iag0 y0.2.2.2.2.1.2.2.length icg0, .slice jag0 y0.2.2.2.2.2.length jcg0] 32) ∧ Owned coreR (v5w.heap.size) (v6w.heap.size) wx ([.slice gax0 x0.1.1.length gcx0, .slice gbx0 x0.1.2.length gdx0, .slice hax0 x0.2.1.length hcx0, .int .i64 x0.2.2.1, .int .i64 x0.2.2.2.1, .int .i64 x0.2.2.2.2.1.1, .int .i64 x0.2.2.2.2.1.2.1, .slice iax0 x0.2.2.2.2.1.2.2.length icx0, .slice jax0 x0.2.2.2.2.2.length jcx0]) (x0) ∧ Owned (prodR coreR msgsR) (v7w.heap.size) (v8w.heap.size) wx ([.slice gag0 y0.1.1.length gcg0, .slice gbg0 y0.1.2.length gdg0, .slice hag0 y0.2.1.length hcg0, .int .i64 y0.2.2.1, .int .i64 y0.2.2.2.1, .int .i64 y0.2.2.2.2.1.1, .int .i64 y0.2.2.2.2.1.2.1, .slice iag0 y0.2.2.2.2.1.2.2.length icg0, .slice jag0 y0.2.2.2.2.2.length jcg0] ++ [.slice gag1 y1.length gcg1]) ((y0, y1)) ∧ Sight coreR v4w.heap.size wx [.slice gaq0 y0.1.1.length gcq0, .slice gbq0 y0.1.2.length gdq0, .slice haq0 y0.2.1.length hcq0, .int .i64 y0.2.2.1, .int .i64 y0.2.2.2.1, .int .i64 y0.2.2.2.2.1.1, .int .i64 y0.2.2.2.2.1.2.1, .slice iaq0 y0.2.2.2.2.1.2.2.length icq0, .slice jaq0 y0.2.2.2.2.2.length jcq0] y0 ∧ Sight msgsR v4w.heap.size wx [.slice gaq1 y1.length gcq1] y1)
    case first =>
      replace b0 := b0.drew
      replace X0 := owned_drew X0
      replace GG := owned_drew GG
      replace S0 := sight_drew S0
      replace S1 := sight_drew S1
      obtain ⟨A0c0, A0c1, A0c2, A0c3, A0c4, A0c5, A0c6, A0c7, A0c8⟩ := cells_core A0
      have A0lt := (Array.getElem?_eq_some_iff.1 A0).1
      obtain ⟨ZQ0c0, ZQ0c1, ZQ0c2, ZQ0c3, ZQ0c4, ZQ0c5, ZQ0c6, ZQ0c7, ZQ0c8⟩ := cells_core ZQ0
      have ZQ0lt := (Array.getElem?_eq_some_iff.1 ZQ0).1
      obtain ⟨ZX0c0, ZX0c1, ZX0c2, ZX0c3, ZX0c4, ZX0c5, ZX0c6, ZX0c7, ZX0c8⟩ := cells_core ZX0
      have ZX0lt := (Array.getElem?_eq_some_iff.1 ZX0).1
      obtain ⟨ZG0c0, ZG0c1, ZG0c2, ZG0c3, ZG0c4, ZG0c5, ZG0c6, ZG0c7, ZG0c8⟩ := cells_core ZG0
      have ZG0lt := (Array.getElem?_eq_some_iff.1 ZG0).1
      go_region_with (first | (go_at_call 28; refine (toCore_u [.slice gaz0 x0.1.1.length gcz0, .slice gbz0 x0.1.2.length gdz0, .slice haz0 x0.2.1.length hcz0, .int .i64 x0.2.2.1, .int .i64 x0.2.2.2.1, .int .i64 x0.2.2.2.2.1.1, .int .i64 x0.2.2.2.2.1.2.1, .slice iaz0 x0.2.2.2.2.1.2.2.length icz0, .slice jaz0 x0.2.2.2.2.2.length jcz0] x0 _ (HR0.out _ b0) hbk0).mono ?_; rintro e wq ⟨ds, rfl, mm⟩; obtain ⟨gay, gcy, gby, gdy, hay, hcy, iay, icy, jay, jcy, rfl⟩ := core_shape (coreR.own_rd mm.1); rw [show aggV [.slice gay x0.1.1.length gcy, .slice gby x0.1.2.length gdy, .slice hay x0.2.1.length hcy, .int .i64 x0.2.2.1, .int .i64 x0.2.2.2.1, .int .i64 x0.2.2.2.2.1.1, .int .i64 x0.2.2.2.2.1.2.1, .slice iay x0.2.2.2.2.1.2.2.length icy, .slice jay x0.2.2.2.2.2.length jcy] = .agg #[.slice gay x0.1.1.length gcy, .slice gby x0.1.2.length gdy, .slice hay x0.2.1.length hcy, .int .i64 x0.2.2.1, .int .i64 x0.2.2.2.1, .int .i64 x0.2.2.2.2.1.1, .int .i64 x0.2.2.2.2.1.2.1, .slice iay x0.2.2.2.2.1.2.2.length icy, .slice jay x0.2.2.2.2.2.length jcy] from rfl]; have YY := coreR.own_rd mm.1; have mb := mm.2; replace b0 := below_step b0 mb; replace A0 := row_keep mb A0; replace ZQ0 := row_keep mb ZQ0; replace ZX0 := row_keep mb ZX0; replace ZG0 := row_keep mb ZG0; replace X0 := owned_next X0 mb; replace GG := owned_next GG mb; replace S0 := sight_next S0 mb; replace S1 := sight_next S1 mb; clear mb mm; clear A0c0 A0c1 A0c2 A0c3 A0c4 A0c5 A0c6 A0c7 A0c8 A0lt ZQ0c0 ZQ0c1 ZQ0c2 ZQ0c3 ZQ0c4 ZQ0c5 ZQ0c6 ZQ0c7 ZQ0c8 ZQ0lt ZX0c0 ZX0c1 ZX0c2 ZX0c3 ZX0c4 ZX0c5 ZX0c6 ZX0c7 ZX0c8 ZX0lt ZG0c0 ZG0c1 ZG0c2 ZG0c3 ZG0c4 ZG0c5 ZG0c6 ZG0c7 ZG0c8 ZG0lt; obtain ⟨A0c0, A0c1, A0c2, A0c3, A0c4, A0c5, A0c6, A0c7, A0c8⟩ := cells_core A0; have A0lt := (Array.getElem?_eq_some_iff.1 A0).1; obtain ⟨ZQ0c0, ZQ0c1, ZQ0c2, ZQ0c3, ZQ0c4, ZQ0c5, ZQ0c6, ZQ0c7, ZQ0c8⟩ := cells_core ZQ0; have ZQ0lt := (Array.getElem?_eq_some_iff.1 ZQ0).1; obtain ⟨ZX0c0, ZX0c1, ZX0c2, ZX0c3, ZX0c4, ZX0c5, ZX0c6, ZX0c7, ZX0c8⟩ := cells_core ZX0; have ZX0lt := (Array.getElem?_eq_some_iff.1 ZX0).1; obtain ⟨ZG0c0, ZG0c1, ZG0c2, ZG0c3, ZG0c4, ZG0c5, ZG0c6, ZG0c7, ZG0c8⟩ := cells_core ZG0; have ZG0lt := (Array.getElem?_eq_some_iff.1 ZG0).1) | (go_at_call 29; refine (eqCore_u [.slice gax0 x0.1.1.length gcx0, .slice gbx0 x0.1.2.length gdx0, .slice hax0 x0.2.1.length hcx0, .int .i64 x0.2.2.1, .int .i64 x0.2.2.2.1, .int .i64 x0.2.2.2.2.1.1, .int .i64 x0.2.2.2.2.1.2.1, .slice iax0 x0.2.2.2.2.1.2.2.length icx0, .slice jax0 x0.2.2.2.2.2.length jcx0] [.slice gay x0.1.1.length gcy, .slice gby x0.1.2.length gdy, .slice hay x0.2.1.length hcy, .int .i64 x0.2.2.1, .int .i64 x0.2.2.2.1, .int .i64 x0.2.2.2.2.1.1, .int .i64 x0.2.2.2.2.1.2.1, .slice iay x0.2.2.2.2.1.2.2.length icy, .slice jay x0.2.2.2.2.2.length jcy] x0 _ (coreR.own_rd X0.1) YY hbl0).mono ?_; rintro e wq ⟨rfl, mb⟩; replace b0 := below_step b0 mb; replace A0 := row_keep mb A0; replace ZQ0 := row_keep mb ZQ0; replace ZX0 := row_keep mb ZX0; replace ZG0 := row_keep mb ZG0; replace X0 := owned_next X0 mb; replace GG := owned_next GG mb; replace S0 := sight_next S0 mb; replace S1 := sight_next S1 mb; clear mb; clear A0c0 A0c1 A0c2 A0c3 A0c4 A0c5 A0c6 A0c7 A0c8 A0lt ZQ0c0 ZQ0c1 ZQ0c2 ZQ0c3 ZQ0c4 ZQ0c5 ZQ0c6 ZQ0c7 ZQ0c8 ZQ0lt ZX0c0 ZX0c1 ZX0c2 ZX0c3 ZX0c4 ZX0c5 ZX0c6 ZX0c7 ZX0c8 ZX0lt ZG0c0 ZG0c1 ZG0c2 ZG0c3 ZG0c4 ZG0c5 ZG0c6 ZG0c7 ZG0c8 ZG0lt; obtain ⟨A0c0, A0c1, A0c2, A0c3, A0c4, A0c5, A0c6, A0c7, A0c8⟩ := cells_core A0; have A0lt := (Array.getElem?_eq_some_iff.1 A0).1; obtain ⟨ZQ0c0, ZQ0c1, ZQ0c2, ZQ0c3, ZQ0c4, ZQ0c5, ZQ0c6, ZQ0c7, ZQ0c8⟩ := cells_core ZQ0; have ZQ0lt := (Array.getElem?_eq_some_iff.1 ZQ0).1; obtain ⟨ZX0c0, ZX0c1, ZX0c2, ZX0c3, ZX0c4, ZX0c5, ZX0c6, ZX0c7, ZX0c8⟩ := cells_core ZX0; have ZX0lt := (Array.getElem?_eq_some_iff.1 ZX0).1; obtain ⟨ZG0c0, ZG0c1, ZG0c2, ZG0c3, ZG0c4, ZG0c5, ZG0c6, ZG0c7, ZG0c8⟩ := cells_core ZG0; have ZG0lt := (Array.getElem?_eq_some_iff.1 ZG0).1))
      all_goals
        go_wp2_with fail
        go_meet
        exact ⟨rfl, b0, A0, ZQ0, ZX0, ZG0, X0, GG, S0, S1⟩
    case rest =>
      clear b0 A0 ZQ0 ZX0 ZG0 X0 GG S0 S1
      obtain ⟨rfl, b0, A0, ZQ0, ZX0, ZG0, X0, GG, S0, S1⟩ := hcut
      generalize wc = v12w at b0 A0 ZQ0 ZX0 ZG0 X0 GG S0 S1 ⊢
      obtain ⟨A0c0, A0c1, A0c2, A0c3, A0c4, A0c5, A0c6, A0c7, A0c8⟩ := cells_core A0
      have A0lt := (Array.getElem?_eq_some_iff.1 A0).1
      obtain ⟨ZQ0c0, ZQ0c1, ZQ0c2, ZQ0c3, ZQ0c4, ZQ0c5, ZQ0c6, ZQ0c7, ZQ0c8⟩ := cells_core ZQ0
      have ZQ0lt := (Array.getElem?_eq_some_iff.1 ZQ0).1
      obtain ⟨ZX0c0, ZX0c1, ZX0c2, ZX0c3, ZX0c4, ZX0c5, ZX0c6, ZX0c7, ZX0c8⟩ := cells_core ZX0
      have ZX0lt := (Array.getElem?_eq_some_iff.1 ZX0).1
      obtain ⟨ZG0c0, ZG0c1, ZG0c2, ZG0c3, ZG0c4, ZG0c5, ZG0c6, ZG0c7, ZG0c8⟩ := cells_core ZG0
      have ZG0lt := (Array.getElem?_eq_some_iff.1 ZG0).1
      go_wp2_with fail
      clear A0c0 A0c1 A0c2 A0c3 A0c4 A0c5 A0c6 A0c7 A0c8 A0lt ZQ0c0 ZQ0c1 ZQ0c2 ZQ0c3 ZQ0c4 ZQ0c5 ZQ0c6 ZQ0c7 ZQ0c8 ZQ0lt ZX0c0 ZX0c1 ZX0c2 ZX0c3 ZX0c4 ZX0c5 ZX0c6 ZX0c7 ZX0c8 ZX0lt ZG0c0 ZG0c1 ZG0c2 ZG0c3 ZG0c4 ZG0c5 ZG0c6 ZG0c7 ZG0c8 ZG0lt
      refine (mkCore_u _ [.slice gax0 x0.1.1.length gcx0, .slice gbx0 x0.1.2.length gdx0, .slice hax0 x0.2.1.length hcx0, .int .i64 x0.2.2.1, .int .i64 x0.2.2.2.1, .int .i64 x0.2.2.2.2.1.1, .int .i64 x0.2.2.2.2.1.2.1, .slice iax0 x0.2.2.2.2.1.2.2.length icx0, .slice jax0 x0.2.2.2.2.2.length jcx0] x0 (1) _ X0.1 (by omega) (by rw [HKX0.out]; omega) hbl0).mono ?_
      rintro e v13w ⟨rfl, gm, ch⟩
      rw [HKX0.out]
      replace b0 := chg_b0 b0 ch X0lo
      replace A0 := row_chg A0 ch X0A0
      replace ZQ0 := row_chg ZQ0 ch X0ZQ0
      replace ZX0 := row_chg ZX0 ch X0ZX0
      replace ZG0 := row_chg ZG0 ch X0ZG0
      replace GG := owned_chg GG ch (.inr X0GG)
      replace S0 := sight_chg S0 ch X0S0
      replace S1 := sight_chg S1 ch X0S1
      have X0M : Owned coreR (v5w.heap.size) (v6w.heap.size) v13w ([.slice gax0 x0.1.1.length gcx0, .slice gbx0 x0.1.2.length gdx0, .slice hax0 x0.2.1.length hcx0, .int .i64 x0.2.2.1, .int .i64 x0.2.2.2.1, .int .i64 x0.2.2.2.2.1.1, .int .i64 x0.2.2.2.2.1.2.1, .slice iax0 x0.2.2.2.2.1.2.2.length icx0, .slice jax0 x0.2.2.2.2.2.length jcx0]) (coreM.mV (1) x0) := And.intro gm (Nat.le_trans X0.2 ch.size)
      clear ch X0 gm
      have X0MA0 := X0A0
      have X0MZQ0 := X0ZQ0
      have X0MZX0 := X0ZX0
      have X0MZG0 := X0ZG0
      have X0MS0 := X0S0
      have X0MS1 := X0S1
      have X0Mlo := X0lo
      have X0MGG := X0GG
      have nk : ¬ (1 + (kx0 : Int) < 0) := by omega
      obtain ⟨A0c0, A0c1, A0c2, A0c3, A0c4, A0c5, A0c6, A0c7, A0c8⟩ := cells_core A0
      have A0lt := (Array.getElem?_eq_some_iff.1 A0).1
      obtain ⟨ZQ0c0, ZQ0c1, ZQ0c2, ZQ0c3, ZQ0c4, ZQ0c5, ZQ0c6, ZQ0c7, ZQ0c8⟩ := cells_core ZQ0
      have ZQ0lt := (Array.getElem?_eq_some_iff.1 ZQ0).1
      obtain ⟨ZX0c0, ZX0c1, ZX0c2, ZX0c3, ZX0c4, ZX0c5, ZX0c6, ZX0c7, ZX0c8⟩ := cells_core ZX0
      have ZX0lt := (Array.getElem?_eq_some_iff.1 ZX0).1
      obtain ⟨ZG0c0, ZG0c1, ZG0c2, ZG0c3, ZG0c4, ZG0c5, ZG0c6, ZG0c7, ZG0c8⟩ := cells_core ZG0
      have ZG0lt := (Array.getElem?_eq_some_iff.1 ZG0).1
      go_wp2_with fail
      clear A0c0 A0c1 A0c2 A0c3 A0c4 A0c5 A0c6 A0c7 A0c8 A0lt ZQ0c0 ZQ0c1 ZQ0c2 ZQ0c3 ZQ0c4 ZQ0c5 ZQ0c6 ZQ0c7 ZQ0c8 ZQ0lt ZX0c0 ZX0c1 ZX0c2 ZX0c3 ZX0c4 ZX0c5 ZX0c6 ZX0c7 ZX0c8 ZX0lt ZG0c0 ZG0c1 ZG0c2 ZG0c3 ZG0c4 ZG0c5 ZG0c6 ZG0c7 ZG0c8 ZG0lt
      refine (eqCore_u [.slice gag0 y0.1.1.length gcg0, .slice gbg0 y0.1.2.length gdg0, .slice hag0 y0.2.1.length hcg0, .int .i64 y0.2.2.1, .int .i64 y0.2.2.2.1, .int .i64 y0.2.2.2.2.1.1, .int .i64 y0.2.2.2.2.1.2.1, .slice iag0 y0.2.2.2.2.1.2.2.length icg0, .slice jag0 y0.2.2.2.2.2.length jcg0] [.slice gaq0 y0.1.1.length gcq0, .slice gbq0 y0.1.2.length gdq0, .slice haq0 y0.2.1.length hcq0, .int .i64 y0.2.2.1, .int .i64 y0.2.2.2.1, .int .i64 y0.2.2.2.2.1.1, .int .i64 y0.2.2.2.2.1.2.1, .slice iaq0 y0.2.2.2.2.1.2.2.length icq0, .slice jaq0 y0.2.2.2.2.2.length jcq0] y0 _ (pair_rd ((prodR coreR msgsR).own_rd GG.1) rfl).1 (sight_rd S0) hl0).mono ?_
      rintro e v14w ⟨rfl, bq⟩
      replace b0 := below_step b0 bq
      replace A0 := row_keep bq A0
      replace ZQ0 := row_keep bq ZQ0
      replace ZX0 := row_keep bq ZX0
      replace ZG0 := row_keep bq ZG0
      replace X0M := owned_next X0M bq
      replace GG := owned_next GG bq
      replace S0 := sight_next S0 bq
      replace S1 := sight_next S1 bq
      clear bq
      obtain ⟨A0c0, A0c1, A0c2, A0c3, A0c4, A0c5, A0c6, A0c7, A0c8⟩ := cells_core A0
      have A0lt := (Array.getElem?_eq_some_iff.1 A0).1
      obtain ⟨ZQ0c0, ZQ0c1, ZQ0c2, ZQ0c3, ZQ0c4, ZQ0c5, ZQ0c6, ZQ0c7, ZQ0c8⟩ := cells_core ZQ0
      have ZQ0lt := (Array.getElem?_eq_some_iff.1 ZQ0).1
      obtain ⟨ZX0c0, ZX0c1, ZX0c2, ZX0c3, ZX0c4, ZX0c5, ZX0c6, ZX0c7, ZX0c8⟩ := cells_core ZX0
      have ZX0lt := (Array.getElem?_eq_some_iff.1 ZX0).1
      obtain ⟨ZG0c0, ZG0c1, ZG0c2, ZG0c3, ZG0c4, ZG0c5, ZG0c6, ZG0c7, ZG0c8⟩ := cells_core ZG0
      have ZG0lt := (Array.getElem?_eq_some_iff.1 ZG0).1
      go_wp2_with fail
      clear A0c0 A0c1 A0c2 A0c3 A0c4 A0c5 A0c6 A0c7 A0c8 A0lt ZQ0c0 ZQ0c1 ZQ0c2 ZQ0c3 ZQ0c4 ZQ0c5 ZQ0c6 ZQ0c7 ZQ0c8 ZQ0lt ZX0c0 ZX0c1 ZX0c2 ZX0c3 ZX0c4 ZX0c5 ZX0c6 ZX0c7 ZX0c8 ZX0lt ZG0c0 ZG0c1 ZG0c2 ZG0c3 ZG0c4 ZG0c5 ZG0c6 ZG0c7 ZG0c8 ZG0lt
      refine (eqMsgs_u [.slice gag1 y1.length gcg1] [.slice gaq1 y1.length gcq1] y1 _ (pair_rd ((prodR coreR msgsR).own_rd GG.1) rfl).2 (sight_rd S1) hl1).mono ?_
      rintro e v15w ⟨rfl, bq⟩
      replace b0 := below_step b0 bq
      replace A0 := row_keep bq A0
      replace ZQ0 := row_keep bq ZQ0
      replace ZX0 := row_keep bq ZX0
      replace ZG0 := row_keep bq ZG0
      replace X0M := owned_next X0M bq
      replace GG := owned_next GG bq
      replace S0 := sight_next S0 bq
      replace S1 := sight_next S1 bq
      clear bq
      clear X0M
      clear nk
      obtain ⟨A0c0, A0c1, A0c2, A0c3, A0c4, A0c5, A0c6, A0c7, A0c8⟩ := cells_core A0
      have A0lt := (Array.getElem?_eq_some_iff.1 A0).1
      obtain ⟨ZQ0c0, ZQ0c1, ZQ0c2, ZQ0c3, ZQ0c4, ZQ0c5, ZQ0c6, ZQ0c7, ZQ0c8⟩ := cells_core ZQ0
      have ZQ0lt := (Array.getElem?_eq_some_iff.1 ZQ0).1
      obtain ⟨ZX0c0, ZX0c1, ZX0c2, ZX0c3, ZX0c4, ZX0c5, ZX0c6, ZX0c7, ZX0c8⟩ := cells_core ZX0
      have ZX0lt := (Array.getElem?_eq_some_iff.1 ZX0).1
      obtain ⟨ZG0c0, ZG0c1, ZG0c2, ZG0c3, ZG0c4, ZG0c5, ZG0c6, ZG0c7, ZG0c8⟩ := cells_core ZG0
      have ZG0lt := (Array.getElem?_eq_some_iff.1 ZG0).1
      go_wp2_with fail
      clear A0c0 A0c1 A0c2 A0c3 A0c4 A0c5 A0c6 A0c7 A0c8 A0lt ZQ0c0 ZQ0c1 ZQ0c2 ZQ0c3 ZQ0c4 ZQ0c5 ZQ0c6 ZQ0c7 ZQ0c8 ZQ0lt ZX0c0 ZX0c1 ZX0c2 ZX0c3 ZX0c4 ZX0c5 ZX0c6 ZX0c7 ZX0c8 ZX0lt ZG0c0 ZG0c1 ZG0c2 ZG0c3 ZG0c4 ZG0c5 ZG0c6 ZG0c7 ZG0c8 ZG0lt
      refine (mk_fst mkCore_u _ [.slice gag0 y0.1.1.length gcg0, .slice gbg0 y0.1.2.length gdg0, .slice hag0 y0.2.1.length hcg0, .int .i64 y0.2.2.1, .int .i64 y0.2.2.2.1, .int .i64 y0.2.2.2.2.1.1, .int .i64 y0.2.2.2.2.1.2.1, .slice iag0 y0.2.2.2.2.1.2.2.length icg0, .slice jag0 y0.2.2.2.2.2.length jcg0] [.slice gag1 y1.length gcg1] (y0) y1 (1) _ GG.1 rfl (by omega) (by rw [HKY0.out]; omega) hl0).mono ?_
      rintro e v16w ⟨rfl, gm, ch⟩
      rw [HKY0.out]
      replace b0 := chg_b0 b0 ch GGlo
      replace A0 := row_chg A0 ch GGA0
      replace ZQ0 := row_chg ZQ0 ch GGZQ0
      replace ZX0 := row_chg ZX0 ch GGZX0
      replace ZG0 := row_chg ZG0 ch GGZG0
      replace S0 := sight_chg S0 ch GGS0
      replace S1 := sight_chg S1 ch GGS1
      have GGM : Owned (prodR coreR msgsR) (v7w.heap.size) (v8w.heap.size) v16w ([.slice gag0 y0.1.1.length gcg0, .slice gbg0 y0.1.2.length gdg0, .slice hag0 y0.2.1.length hcg0, .int .i64 y0.2.2.1, .int .i64 y0.2.2.2.1, .int .i64 y0.2.2.2.2.1.1, .int .i64 y0.2.2.2.2.1.2.1, .slice iag0 y0.2.2.2.2.1.2.2.length icg0, .slice jag0 y0.2.2.2.2.2.length jcg0] ++ [.slice gag1 y1.length gcg1]) ((coreM.mV (1) y0, y1)) := And.intro gm (Nat.le_trans GG.2 ch.size)
      clear ch GG gm
      have GGMA0 := GGA0
      have GGMZQ0 := GGZQ0
      have GGMZX0 := GGZX0
      have GGMZG0 := GGZG0
      have GGMS0 := GGS0
      have GGMS1 := GGS1
      have GGMlo := GGlo
      obtain ⟨A0c0, A0c1, A0c2, A0c3, A0c4, A0c5, A0c6, A0c7, A0c8⟩ := cells_core A0
      have A0lt := (Array.getElem?_eq_some_iff.1 A0).1
      obtain ⟨ZQ0c0, ZQ0c1, ZQ0c2, ZQ0c3, ZQ0c4, ZQ0c5, ZQ0c6, ZQ0c7, ZQ0c8⟩ := cells_core ZQ0
      have ZQ0lt := (Array.getElem?_eq_some_iff.1 ZQ0).1
      obtain ⟨ZX0c0, ZX0c1, ZX0c2, ZX0c3, ZX0c4, ZX0c5, ZX0c6, ZX0c7, ZX0c8⟩ := cells_core ZX0
      have ZX0lt := (Array.getElem?_eq_some_iff.1 ZX0).1
      obtain ⟨ZG0c0, ZG0c1, ZG0c2, ZG0c3, ZG0c4, ZG0c5, ZG0c6, ZG0c7, ZG0c8⟩ := cells_core ZG0
      have ZG0lt := (Array.getElem?_eq_some_iff.1 ZG0).1
      go_wp2_with fail
      clear A0c0 A0c1 A0c2 A0c3 A0c4 A0c5 A0c6 A0c7 A0c8 A0lt ZQ0c0 ZQ0c1 ZQ0c2 ZQ0c3 ZQ0c4 ZQ0c5 ZQ0c6 ZQ0c7 ZQ0c8 ZQ0lt ZX0c0 ZX0c1 ZX0c2 ZX0c3 ZX0c4 ZX0c5 ZX0c6 ZX0c7 ZX0c8 ZX0lt ZG0c0 ZG0c1 ZG0c2 ZG0c3 ZG0c4 ZG0c5 ZG0c6 ZG0c7 ZG0c8 ZG0lt
      refine (mk_snd mkMsgs_u _ [.slice gag0 y0.1.1.length gcg0, .slice gbg0 y0.1.2.length gdg0, .slice hag0 y0.2.1.length hcg0, .int .i64 y0.2.2.1, .int .i64 y0.2.2.2.1, .int .i64 y0.2.2.2.2.1.1, .int .i64 y0.2.2.2.2.1.2.1, .slice iag0 y0.2.2.2.2.1.2.2.length icg0, .slice jag0 y0.2.2.2.2.2.length jcg0] [.slice gag1 y1.length gcg1] (coreM.mV (1) y0) y1 (1 + (ky0 : Int)) _ GGM.1 rfl (by omega) (by rw [HKY1.out]; omega) hl1).mono ?_
      rintro e v17w ⟨rfl, gm, ch⟩
      rw [HKY1.out]
      replace b0 := chg_b0 b0 ch GGMlo
      replace A0 := row_chg A0 ch GGMA0
      replace ZQ0 := row_chg ZQ0 ch GGMZQ0
      replace ZX0 := row_chg ZX0 ch GGMZX0
      replace ZG0 := row_chg ZG0 ch GGMZG0
      replace S0 := sight_chg S0 ch GGMS0
      replace S1 := sight_chg S1 ch GGMS1
      have GGMM : Owned (prodR coreR msgsR) (v7w.heap.size) (v8w.heap.size) v17w ([.slice gag0 y0.1.1.length gcg0, .slice gbg0 y0.1.2.length gdg0, .slice hag0 y0.2.1.length hcg0, .int .i64 y0.2.2.1, .int .i64 y0.2.2.2.1, .int .i64 y0.2.2.2.2.1.1, .int .i64 y0.2.2.2.2.1.2.1, .slice iag0 y0.2.2.2.2.1.2.2.length icg0, .slice jag0 y0.2.2.2.2.2.length jcg0] ++ [.slice gag1 y1.length gcg1]) ((coreM.mV (1) y0, msgsM.mV (1 + (ky0 : Int)) y1)) := And.intro gm (Nat.le_trans GGM.2 ch.size)
      clear ch GGM gm
      have GGMMA0 := GGMA0
      have GGMMZQ0 := GGMZQ0
      have GGMMZX0 := GGMZX0
      have GGMMZG0 := GGMZG0
      have GGMMS0 := GGMS0
      have GGMMS1 := GGMS1
      have GGMMlo := GGMlo
      obtain ⟨A0c0, A0c1, A0c2, A0c3, A0c4, A0c5, A0c6, A0c7, A0c8⟩ := cells_core A0
      have A0lt := (Array.getElem?_eq_some_iff.1 A0).1
      obtain ⟨ZQ0c0, ZQ0c1, ZQ0c2, ZQ0c3, ZQ0c4, ZQ0c5, ZQ0c6, ZQ0c7, ZQ0c8⟩ := cells_core ZQ0
      have ZQ0lt := (Array.getElem?_eq_some_iff.1 ZQ0).1
      obtain ⟨ZX0c0, ZX0c1, ZX0c2, ZX0c3, ZX0c4, ZX0c5, ZX0c6, ZX0c7, ZX0c8⟩ := cells_core ZX0
      have ZX0lt := (Array.getElem?_eq_some_iff.1 ZX0).1
      obtain ⟨ZG0c0, ZG0c1, ZG0c2, ZG0c3, ZG0c4, ZG0c5, ZG0c6, ZG0c7, ZG0c8⟩ := cells_core ZG0
      have ZG0lt := (Array.getElem?_eq_some_iff.1 ZG0).1
      go_wp2_with fail
      clear A0c0 A0c1 A0c2 A0c3 A0c4 A0c5 A0c6 A0c7 A0c8 A0lt ZQ0c0 ZQ0c1 ZQ0c2 ZQ0c3 ZQ0c4 ZQ0c5 ZQ0c6 ZQ0c7 ZQ0c8 ZQ0lt ZX0c0 ZX0c1 ZX0c2 ZX0c3 ZX0c4 ZX0c5 ZX0c6 ZX0c7 ZX0c8 ZX0lt ZG0c0 ZG0c1 ZG0c2 ZG0c3 ZG0c4 ZG0c5 ZG0c6 ZG0c7 ZG0c8 ZG0lt
      refine (hdCore_u [.slice gag0 y0.1.1.length gcg0, .slice gbg0 y0.1.2.length gdg0, .slice hag0 y0.2.1.length hcg0, .int .i64 y0.2.2.1, .int .i64 y0.2.2.2.1, .int .i64 y0.2.2.2.2.1.1, .int .i64 y0.2.2.2.2.1.2.1, .slice iag0 y0.2.2.2.2.1.2.2.length icg0, .slice jag0 y0.2.2.2.2.2.length jcg0] y0 (1) _ (pair_rd ((prodR coreR msgsR).own_rd GGMM.1) rfl).1 (by omega) (by rw [HKY0.out]; omega) hl0).mono ?_
      rintro e v18w ⟨rfl, bq⟩
      rw [HKY0.out]
      replace b0 := below_step b0 bq
      replace A0 := row_keep bq A0
      replace ZQ0 := row_keep bq ZQ0
      replace ZX0 := row_keep bq ZX0
      replace ZG0 := row_keep bq ZG0
      replace GGMM := owned_next GGMM bq
      replace S0 := sight_next S0 bq
      replace S1 := sight_next S1 bq
      clear bq
      have nh0 : ¬ (1 + (ky0 : Int) < 0) := by omega
      obtain ⟨A0c0, A0c1, A0c2, A0c3, A0c4, A0c5, A0c6, A0c7, A0c8⟩ := cells_core A0
      have A0lt := (Array.getElem?_eq_some_iff.1 A0).1
      obtain ⟨ZQ0c0, ZQ0c1, ZQ0c2, ZQ0c3, ZQ0c4, ZQ0c5, ZQ0c6, ZQ0c7, ZQ0c8⟩ := cells_core ZQ0
      have ZQ0lt := (Array.getElem?_eq_some_iff.1 ZQ0).1
      obtain ⟨ZX0c0, ZX0c1, ZX0c2, ZX0c3, ZX0c4, ZX0c5, ZX0c6, ZX0c7, ZX0c8⟩ := cells_core ZX0
      have ZX0lt := (Array.getElem?_eq_some_iff.1 ZX0).1
      obtain ⟨ZG0c0, ZG0c1, ZG0c2, ZG0c3, ZG0c4, ZG0c5, ZG0c6, ZG0c7, ZG0c8⟩ := cells_core ZG0
      have ZG0lt := (Array.getElem?_eq_some_iff.1 ZG0).1
      go_wp2_with fail
      clear A0c0 A0c1 A0c2 A0c3 A0c4 A0c5 A0c6 A0c7 A0c8 A0lt ZQ0c0 ZQ0c1 ZQ0c2 ZQ0c3 ZQ0c4 ZQ0c5 ZQ0c6 ZQ0c7 ZQ0c8 ZQ0lt ZX0c0 ZX0c1 ZX0c2 ZX0c3 ZX0c4 ZX0c5 ZX0c6 ZX0c7 ZX0c8 ZX0lt ZG0c0 ZG0c1 ZG0c2 ZG0c3 ZG0c4 ZG0c5 ZG0c6 ZG0c7 ZG0c8 ZG0lt
      refine (hdMsgs_u [.slice gag1 y1.length gcg1] y1 (1 + (ky0 : Int)) _ (pair_rd ((prodR coreR msgsR).own_rd GGMM.1) rfl).2 (by omega) (by rw [HKY1.out]; omega) hl1).mono ?_
      rintro e v19w ⟨rfl, bq⟩
      rw [HKY1.out]
      replace b0 := below_step b0 bq
      replace A0 := row_keep bq A0
      replace ZQ0 := row_keep bq ZQ0
      replace ZX0 := row_keep bq ZX0
      replace ZG0 := row_keep bq ZG0
      replace GGMM := owned_next GGMM bq
      replace S0 := sight_next S0 bq
      replace S1 := sight_next S1 bq
      clear bq
      have nh1 : ¬ (1 + (ky0 : Int) + (ky1 : Int) < 0) := by omega
      obtain ⟨A0c0, A0c1, A0c2, A0c3, A0c4, A0c5, A0c6, A0c7, A0c8⟩ := cells_core A0
      have A0lt := (Array.getElem?_eq_some_iff.1 A0).1
      obtain ⟨ZQ0c0, ZQ0c1, ZQ0c2, ZQ0c3, ZQ0c4, ZQ0c5, ZQ0c6, ZQ0c7, ZQ0c8⟩ := cells_core ZQ0
      have ZQ0lt := (Array.getElem?_eq_some_iff.1 ZQ0).1
      obtain ⟨ZX0c0, ZX0c1, ZX0c2, ZX0c3, ZX0c4, ZX0c5, ZX0c6, ZX0c7, ZX0c8⟩ := cells_core ZX0
      have ZX0lt := (Array.getElem?_eq_some_iff.1 ZX0).1
      obtain ⟨ZG0c0, ZG0c1, ZG0c2, ZG0c3, ZG0c4, ZG0c5, ZG0c6, ZG0c7, ZG0c8⟩ := cells_core ZG0
      have ZG0lt := (Array.getElem?_eq_some_iff.1 ZG0).1
      go_wp2_with fail
      clear A0c0 A0c1 A0c2 A0c3 A0c4 A0c5 A0c6 A0c7 A0c8 A0lt ZQ0c0 ZQ0c1 ZQ0c2 ZQ0c3 ZQ0c4 ZQ0c5 ZQ0c6 ZQ0c7 ZQ0c8 ZQ0lt ZX0c0 ZX0c1 ZX0c2 ZX0c3 ZX0c4 ZX0c5 ZX0c6 ZX0c7 ZX0c8 ZX0lt ZG0c0 ZG0c1 ZG0c2 ZG0c3 ZG0c4 ZG0c5 ZG0c6 ZG0c7 ZG0c8 ZG0lt
      refine (toCore_u [.slice gaz0 x0.1.1.length gcz0, .slice gbz0 x0.1.2.length gdz0, .slice haz0 x0.2.1.length hcz0, .int .i64 x0.2.2.1, .int .i64 x0.2.2.2.1, .int .i64 x0.2.2.2.2.1.1, .int .i64 x0.2.2.2.2.1.2.1, .slice iaz0 x0.2.2.2.2.1.2.2.length icz0, .slice jaz0 x0.2.2.2.2.2.length jcz0] x0 _ (HR0.out _ b0) hbk0).mono ?_
      rintro e v20w ⟨ds, rfl, mm⟩
      obtain ⟨gau0, gcu0, gbu0, gdu0, hau0, hcu0, iau0, icu0, jau0, jcu0, rfl⟩ := core_shape (coreR.own_rd mm.1)
      rw [show aggV [.slice gau0 x0.1.1.length gcu0, .slice gbu0 x0.1.2.length gdu0, .slice hau0 x0.2.1.length hcu0, .int .i64 x0.2.2.1, .int .i64 x0.2.2.2.1, .int .i64 x0.2.2.2.2.1.1, .int .i64 x0.2.2.2.2.1.2.1, .slice iau0 x0.2.2.2.2.1.2.2.length icu0, .slice jau0 x0.2.2.2.2.2.length jcu0] = .agg #[.slice gau0 x0.1.1.length gcu0, .slice gbu0 x0.1.2.length gdu0, .slice hau0 x0.2.1.length hcu0, .int .i64 x0.2.2.1, .int .i64 x0.2.2.2.1, .int .i64 x0.2.2.2.2.1.1, .int .i64 x0.2.2.2.2.1.2.1, .slice iau0 x0.2.2.2.2.1.2.2.length icu0, .slice jau0 x0.2.2.2.2.2.length jcu0] from rfl]
      have U0S0 : v4w.heap.size ≤ v19w.heap.size := sight_lt S0
      have U0S1 : v4w.heap.size ≤ v19w.heap.size := sight_lt S1
      have U0A0 : w.heap.size < v19w.heap.size ∨ v20w.heap.size ≤ w.heap.size := .inl (Array.getElem?_eq_some_iff.1 A0).1
      have U0ZQ0 : v4w.heap.size < v19w.heap.size ∨ v20w.heap.size ≤ v4w.heap.size := .inl (Array.getElem?_eq_some_iff.1 ZQ0).1
      have U0ZX0 : v6w.heap.size < v19w.heap.size ∨ v20w.heap.size ≤ v6w.heap.size := .inl (Array.getElem?_eq_some_iff.1 ZX0).1
      have U0ZG0 : v8w.heap.size < v19w.heap.size ∨ v20w.heap.size ≤ v8w.heap.size := .inl (Array.getElem?_eq_some_iff.1 ZG0).1
      have GGMMU0 : v8w.heap.size ≤ v19w.heap.size := GGMM.2
      have U0lo : w.heap.size ≤ v19w.heap.size := b0.size
      have U0 := owned_made (R := coreR) mm
      have mbU0 := mm.2
      replace b0 := below_step b0 mbU0
      replace A0 := row_keep mbU0 A0
      replace ZQ0 := row_keep mbU0 ZQ0
      replace ZX0 := row_keep mbU0 ZX0
      replace ZG0 := row_keep mbU0 ZG0
      replace GGMM := owned_next GGMM mbU0
      replace S0 := sight_next S0 mbU0
      replace S1 := sight_next S1 mbU0
      clear mbU0 mm
      obtain ⟨A0c0, A0c1, A0c2, A0c3, A0c4, A0c5, A0c6, A0c7, A0c8⟩ := cells_core A0
      have A0lt := (Array.getElem?_eq_some_iff.1 A0).1
      obtain ⟨ZQ0c0, ZQ0c1, ZQ0c2, ZQ0c3, ZQ0c4, ZQ0c5, ZQ0c6, ZQ0c7, ZQ0c8⟩ := cells_core ZQ0
      have ZQ0lt := (Array.getElem?_eq_some_iff.1 ZQ0).1
      obtain ⟨ZX0c0, ZX0c1, ZX0c2, ZX0c3, ZX0c4, ZX0c5, ZX0c6, ZX0c7, ZX0c8⟩ := cells_core ZX0
      have ZX0lt := (Array.getElem?_eq_some_iff.1 ZX0).1
      obtain ⟨ZG0c0, ZG0c1, ZG0c2, ZG0c3, ZG0c4, ZG0c5, ZG0c6, ZG0c7, ZG0c8⟩ := cells_core ZG0
      have ZG0lt := (Array.getElem?_eq_some_iff.1 ZG0).1
      go_wp2_with fail
      clear A0c0 A0c1 A0c2 A0c3 A0c4 A0c5 A0c6 A0c7 A0c8 A0lt ZQ0c0 ZQ0c1 ZQ0c2 ZQ0c3 ZQ0c4 ZQ0c5 ZQ0c6 ZQ0c7 ZQ0c8 ZQ0lt ZX0c0 ZX0c1 ZX0c2 ZX0c3 ZX0c4 ZX0c5 ZX0c6 ZX0c7 ZX0c8 ZX0lt ZG0c0 ZG0c1 ZG0c2 ZG0c3 ZG0c4 ZG0c5 ZG0c6 ZG0c7 ZG0c8 ZG0lt
      refine (CIM.out _ [.slice gau0 x0.1.1.length gcu0, .slice gbu0 x0.1.2.length gdu0, .slice hau0 x0.2.1.length hcu0, .int .i64 x0.2.2.1, .int .i64 x0.2.2.2.1, .int .i64 x0.2.2.2.2.1.1, .int .i64 x0.2.2.2.2.1.2.1, .slice iau0 x0.2.2.2.2.1.2.2.length icu0, .slice jau0 x0.2.2.2.2.2.length jcu0] (hh.to b0) (coreR.own_rd U0.1) hbk0).mono ?_
      rintro e v21w ⟨ds0, ds1, rfl, pl, mm⟩
      have pr := pair_rd ((prodR coreR msgsR).own_rd mm.1) pl
      clear pl
      obtain ⟨gah0, gch0, gbh0, gdh0, hah0, hch0, iah0, ich0, jah0, jch0, rfl⟩ := core_shape (pr.1)
      rw [show aggV [.slice gah0 y0.1.1.length gch0, .slice gbh0 y0.1.2.length gdh0, .slice hah0 y0.2.1.length hch0, .int .i64 y0.2.2.1, .int .i64 y0.2.2.2.1, .int .i64 y0.2.2.2.2.1.1, .int .i64 y0.2.2.2.2.1.2.1, .slice iah0 y0.2.2.2.2.1.2.2.length ich0, .slice jah0 y0.2.2.2.2.2.length jch0] = .agg #[.slice gah0 y0.1.1.length gch0, .slice gbh0 y0.1.2.length gdh0, .slice hah0 y0.2.1.length hch0, .int .i64 y0.2.2.1, .int .i64 y0.2.2.2.1, .int .i64 y0.2.2.2.2.1.1, .int .i64 y0.2.2.2.2.1.2.1, .slice iah0 y0.2.2.2.2.1.2.2.length ich0, .slice jah0 y0.2.2.2.2.2.length jch0] from rfl]
      have rr := pr.2
      obtain ⟨gah1, gch1, ro, -, -, -⟩ := rr
      obtain rfl := ro
      rw [show cell1 [.slice gah1 y1.length gch1] = .slice gah1 y1.length gch1 from rfl]
      clear pr
      have HHS0 : v4w.heap.size ≤ v20w.heap.size := sight_lt S0
      have HHS1 : v4w.heap.size ≤ v20w.heap.size := sight_lt S1
      have HHA0 : w.heap.size < v20w.heap.size ∨ v21w.heap.size ≤ w.heap.size := .inl (Array.getElem?_eq_some_iff.1 A0).1
      have HHZQ0 : v4w.heap.size < v20w.heap.size ∨ v21w.heap.size ≤ v4w.heap.size := .inl (Array.getElem?_eq_some_iff.1 ZQ0).1
      have HHZX0 : v6w.heap.size < v20w.heap.size ∨ v21w.heap.size ≤ v6w.heap.size := .inl (Array.getElem?_eq_some_iff.1 ZX0).1
      have HHZG0 : v8w.heap.size < v20w.heap.size ∨ v21w.heap.size ≤ v8w.heap.size := .inl (Array.getElem?_eq_some_iff.1 ZG0).1
      have GGMMHH : v8w.heap.size ≤ v20w.heap.size := GGMM.2
      have U0HH : v20w.heap.size ≤ v20w.heap.size := U0.2
      have HHlo : w.heap.size ≤ v20w.heap.size := b0.size
      have HH := owned_made (R := (prodR coreR msgsR)) mm
      have mbHH := mm.2
      replace b0 := below_step b0 mbHH
      replace A0 := row_keep mbHH A0
      replace ZQ0 := row_keep mbHH ZQ0
      replace ZX0 := row_keep mbHH ZX0
      replace ZG0 := row_keep mbHH ZG0
      replace GGMM := owned_next GGMM mbHH
      replace U0 := owned_next U0 mbHH
      replace S0 := sight_next S0 mbHH
      replace S1 := sight_next S1 mbHH
      clear mbHH mm
      obtain ⟨A0c0, A0c1, A0c2, A0c3, A0c4, A0c5, A0c6, A0c7, A0c8⟩ := cells_core A0
      have A0lt := (Array.getElem?_eq_some_iff.1 A0).1
      obtain ⟨ZQ0c0, ZQ0c1, ZQ0c2, ZQ0c3, ZQ0c4, ZQ0c5, ZQ0c6, ZQ0c7, ZQ0c8⟩ := cells_core ZQ0
      have ZQ0lt := (Array.getElem?_eq_some_iff.1 ZQ0).1
      obtain ⟨ZX0c0, ZX0c1, ZX0c2, ZX0c3, ZX0c4, ZX0c5, ZX0c6, ZX0c7, ZX0c8⟩ := cells_core ZX0
      have ZX0lt := (Array.getElem?_eq_some_iff.1 ZX0).1
      obtain ⟨ZG0c0, ZG0c1, ZG0c2, ZG0c3, ZG0c4, ZG0c5, ZG0c6, ZG0c7, ZG0c8⟩ := cells_core ZG0
      have ZG0lt := (Array.getElem?_eq_some_iff.1 ZG0).1
      go_wp2_with fail
      clear A0c0 A0c1 A0c2 A0c3 A0c4 A0c5 A0c6 A0c7 A0c8 A0lt ZQ0c0 ZQ0c1 ZQ0c2 ZQ0c3 ZQ0c4 ZQ0c5 ZQ0c6 ZQ0c7 ZQ0c8 ZQ0lt ZX0c0 ZX0c1 ZX0c2 ZX0c3 ZX0c4 ZX0c5 ZX0c6 ZX0c7 ZX0c8 ZX0lt ZG0c0 ZG0c1 ZG0c2 ZG0c3 ZG0c4 ZG0c5 ZG0c6 ZG0c7 ZG0c8 ZG0lt
      have ZH0 := heap_at v21w (.cells #[.slice gah0 y0.1.1.length gch0, .slice gbh0 y0.1.2.length gdh0, .slice hah0 y0.2.1.length hch0, .int .i64 y0.2.2.1, .int .i64 y0.2.2.2.1, .int .i64 y0.2.2.2.2.1.1, .int .i64 y0.2.2.2.2.1.2.1, .slice iah0 y0.2.2.2.2.1.2.2.length ich0, .slice jah0 y0.2.2.2.2.2.length jch0] 32)
      have bzZH0 := box_below v21w (.cells #[.slice gah0 y0.1.1.length gch0, .slice gbh0 y0.1.2.length gdh0, .slice hah0 y0.2.1.length hch0, .int .i64 y0.2.2.1, .int .i64 y0.2.2.2.1, .int .i64 y0.2.2.2.2.1.1, .int .i64 y0.2.2.2.2.1.2.1, .slice iah0 y0.2.2.2.2.1.2.2.length ich0, .slice jah0 y0.2.2.2.2.2.length jch0] 32)
      have GGMMZH0 : v21w.heap.size < v7w.heap.size ∨ v8w.heap.size ≤ v21w.heap.size := .inr GGMM.2
      have U0ZH0 : v21w.heap.size < v19w.heap.size ∨ v20w.heap.size ≤ v21w.heap.size := .inr U0.2
      have HHZH0 : v21w.heap.size < v20w.heap.size ∨ v21w.heap.size ≤ v21w.heap.size := .inr HH.2
      replace b0 := below_step b0 bzZH0
      replace A0 := row_keep bzZH0 A0
      replace ZQ0 := row_keep bzZH0 ZQ0
      replace ZX0 := row_keep bzZH0 ZX0
      replace ZG0 := row_keep bzZH0 ZG0
      replace GGMM := owned_next GGMM bzZH0
      replace U0 := owned_next U0 bzZH0
      replace HH := owned_next HH bzZH0
      replace S0 := sight_next S0 bzZH0
      replace S1 := sight_next S1 bzZH0
      clear bzZH0
      generalize v21w.alloc (.cells #[.slice gah0 y0.1.1.length gch0, .slice gbh0 y0.1.2.length gdh0, .slice hah0 y0.2.1.length hch0, .int .i64 y0.2.2.1, .int .i64 y0.2.2.2.1, .int .i64 y0.2.2.2.2.1.1, .int .i64 y0.2.2.2.2.1.2.1, .slice iah0 y0.2.2.2.2.1.2.2.length ich0, .slice jah0 y0.2.2.2.2.2.length jch0] 32) = v22w at b0 A0 ZQ0 ZX0 ZG0 ZH0 GGMM U0 HH S0 S1 ⊢
      clear U0
      obtain ⟨A0c0, A0c1, A0c2, A0c3, A0c4, A0c5, A0c6, A0c7, A0c8⟩ := cells_core A0
      have A0lt := (Array.getElem?_eq_some_iff.1 A0).1
      obtain ⟨ZQ0c0, ZQ0c1, ZQ0c2, ZQ0c3, ZQ0c4, ZQ0c5, ZQ0c6, ZQ0c7, ZQ0c8⟩ := cells_core ZQ0
      have ZQ0lt := (Array.getElem?_eq_some_iff.1 ZQ0).1
      obtain ⟨ZX0c0, ZX0c1, ZX0c2, ZX0c3, ZX0c4, ZX0c5, ZX0c6, ZX0c7, ZX0c8⟩ := cells_core ZX0
      have ZX0lt := (Array.getElem?_eq_some_iff.1 ZX0).1
      obtain ⟨ZG0c0, ZG0c1, ZG0c2, ZG0c3, ZG0c4, ZG0c5, ZG0c6, ZG0c7, ZG0c8⟩ := cells_core ZG0
      have ZG0lt := (Array.getElem?_eq_some_iff.1 ZG0).1
      obtain ⟨ZH0c0, ZH0c1, ZH0c2, ZH0c3, ZH0c4, ZH0c5, ZH0c6, ZH0c7, ZH0c8⟩ := cells_core ZH0
      have ZH0lt := (Array.getElem?_eq_some_iff.1 ZH0).1
      go_wp2_with fail
      clear A0c0 A0c1 A0c2 A0c3 A0c4 A0c5 A0c6 A0c7 A0c8 A0lt ZQ0c0 ZQ0c1 ZQ0c2 ZQ0c3 ZQ0c4 ZQ0c5 ZQ0c6 ZQ0c7 ZQ0c8 ZQ0lt ZX0c0 ZX0c1 ZX0c2 ZX0c3 ZX0c4 ZX0c5 ZX0c6 ZX0c7 ZX0c8 ZX0lt ZG0c0 ZG0c1 ZG0c2 ZG0c3 ZG0c4 ZG0c5 ZG0c6 ZG0c7 ZG0c8 ZG0lt ZH0c0 ZH0c1 ZH0c2 ZH0c3 ZH0c4 ZH0c5 ZH0c6 ZH0c7 ZH0c8 ZH0lt
      refine (eqCore_u [.slice gah0 y0.1.1.length gch0, .slice gbh0 y0.1.2.length gdh0, .slice hah0 y0.2.1.length hch0, .int .i64 y0.2.2.1, .int .i64 y0.2.2.2.1, .int .i64 y0.2.2.2.2.1.1, .int .i64 y0.2.2.2.2.1.2.1, .slice iah0 y0.2.2.2.2.1.2.2.length ich0, .slice jah0 y0.2.2.2.2.2.length jch0] [.slice gaq0 y0.1.1.length gcq0, .slice gbq0 y0.1.2.length gdq0, .slice haq0 y0.2.1.length hcq0, .int .i64 y0.2.2.1, .int .i64 y0.2.2.2.1, .int .i64 y0.2.2.2.2.1.1, .int .i64 y0.2.2.2.2.1.2.1, .slice iaq0 y0.2.2.2.2.1.2.2.length icq0, .slice jaq0 y0.2.2.2.2.2.length jcq0] y0 _ (pair_rd ((prodR coreR msgsR).own_rd HH.1) rfl).1 (sight_rd S0) hl0).mono ?_
      rintro e v23w ⟨rfl, bq⟩
      replace b0 := below_step b0 bq
      replace A0 := row_keep bq A0
      replace ZQ0 := row_keep bq ZQ0
      replace ZX0 := row_keep bq ZX0
      replace ZG0 := row_keep bq ZG0
      replace ZH0 := row_keep bq ZH0
      replace GGMM := owned_next GGMM bq
      replace HH := owned_next HH bq
      replace S0 := sight_next S0 bq
      replace S1 := sight_next S1 bq
      clear bq
      obtain ⟨A0c0, A0c1, A0c2, A0c3, A0c4, A0c5, A0c6, A0c7, A0c8⟩ := cells_core A0
      have A0lt := (Array.getElem?_eq_some_iff.1 A0).1
      obtain ⟨ZQ0c0, ZQ0c1, ZQ0c2, ZQ0c3, ZQ0c4, ZQ0c5, ZQ0c6, ZQ0c7, ZQ0c8⟩ := cells_core ZQ0
      have ZQ0lt := (Array.getElem?_eq_some_iff.1 ZQ0).1
      obtain ⟨ZX0c0, ZX0c1, ZX0c2, ZX0c3, ZX0c4, ZX0c5, ZX0c6, ZX0c7, ZX0c8⟩ := cells_core ZX0
      have ZX0lt := (Array.getElem?_eq_some_iff.1 ZX0).1
      obtain ⟨ZG0c0, ZG0c1, ZG0c2, ZG0c3, ZG0c4, ZG0c5, ZG0c6, ZG0c7, ZG0c8⟩ := cells_core ZG0
      have ZG0lt := (Array.getElem?_eq_some_iff.1 ZG0).1
      obtain ⟨ZH0c0, ZH0c1, ZH0c2, ZH0c3, ZH0c4, ZH0c5, ZH0c6, ZH0c7, ZH0c8⟩ := cells_core ZH0
      have ZH0lt := (Array.getElem?_eq_some_iff.1 ZH0).1
      go_wp2_with fail
      clear A0c0 A0c1 A0c2 A0c3 A0c4 A0c5 A0c6 A0c7 A0c8 A0lt ZQ0c0 ZQ0c1 ZQ0c2 ZQ0c3 ZQ0c4 ZQ0c5 ZQ0c6 ZQ0c7 ZQ0c8 ZQ0lt ZX0c0 ZX0c1 ZX0c2 ZX0c3 ZX0c4 ZX0c5 ZX0c6 ZX0c7 ZX0c8 ZX0lt ZG0c0 ZG0c1 ZG0c2 ZG0c3 ZG0c4 ZG0c5 ZG0c6 ZG0c7 ZG0c8 ZG0lt ZH0c0 ZH0c1 ZH0c2 ZH0c3 ZH0c4 ZH0c5 ZH0c6 ZH0c7 ZH0c8 ZH0lt
      refine (eqMsgs_u [.slice gah1 y1.length gch1] [.slice gaq1 y1.length gcq1] y1 _ (pair_rd ((prodR coreR msgsR).own_rd HH.1) rfl).2 (sight_rd S1) hl1).mono ?_
      rintro e v24w ⟨rfl, bq⟩
      replace b0 := below_step b0 bq
      replace A0 := row_keep bq A0
      replace ZQ0 := row_keep bq ZQ0
      replace ZX0 := row_keep bq ZX0
      replace ZG0 := row_keep bq ZG0
      replace ZH0 := row_keep bq ZH0
      replace GGMM := owned_next GGMM bq
      replace HH := owned_next HH bq
      replace S0 := sight_next S0 bq
      replace S1 := sight_next S1 bq
      clear bq
      obtain ⟨A0c0, A0c1, A0c2, A0c3, A0c4, A0c5, A0c6, A0c7, A0c8⟩ := cells_core A0
      have A0lt := (Array.getElem?_eq_some_iff.1 A0).1
      obtain ⟨ZQ0c0, ZQ0c1, ZQ0c2, ZQ0c3, ZQ0c4, ZQ0c5, ZQ0c6, ZQ0c7, ZQ0c8⟩ := cells_core ZQ0
      have ZQ0lt := (Array.getElem?_eq_some_iff.1 ZQ0).1
      obtain ⟨ZX0c0, ZX0c1, ZX0c2, ZX0c3, ZX0c4, ZX0c5, ZX0c6, ZX0c7, ZX0c8⟩ := cells_core ZX0
      have ZX0lt := (Array.getElem?_eq_some_iff.1 ZX0).1
      obtain ⟨ZG0c0, ZG0c1, ZG0c2, ZG0c3, ZG0c4, ZG0c5, ZG0c6, ZG0c7, ZG0c8⟩ := cells_core ZG0
      have ZG0lt := (Array.getElem?_eq_some_iff.1 ZG0).1
      obtain ⟨ZH0c0, ZH0c1, ZH0c2, ZH0c3, ZH0c4, ZH0c5, ZH0c6, ZH0c7, ZH0c8⟩ := cells_core ZH0
      have ZH0lt := (Array.getElem?_eq_some_iff.1 ZH0).1
      go_wp2_with fail
      clear A0c0 A0c1 A0c2 A0c3 A0c4 A0c5 A0c6 A0c7 A0c8 A0lt ZQ0c0 ZQ0c1 ZQ0c2 ZQ0c3 ZQ0c4 ZQ0c5 ZQ0c6 ZQ0c7 ZQ0c8 ZQ0lt ZX0c0 ZX0c1 ZX0c2 ZX0c3 ZX0c4 ZX0c5 ZX0c6 ZX0c7 ZX0c8 ZX0lt ZG0c0 ZG0c1 ZG0c2 ZG0c3 ZG0c4 ZG0c5 ZG0c6 ZG0c7 ZG0c8 ZG0lt ZH0c0 ZH0c1 ZH0c2 ZH0c3 ZH0c4 ZH0c5 ZH0c6 ZH0c7 ZH0c8 ZH0lt
      refine (hdCore_u [.slice gag0 y0.1.1.length gcg0, .slice gbg0 y0.1.2.length gdg0, .slice hag0 y0.2.1.length hcg0, .int .i64 y0.2.2.1, .int .i64 y0.2.2.2.1, .int .i64 y0.2.2.2.2.1.1, .int .i64 y0.2.2.2.2.1.2.1, .slice iag0 y0.2.2.2.2.1.2.2.length icg0, .slice jag0 y0.2.2.2.2.2.length jcg0] y0 (1) _ (pair_rd ((prodR coreR msgsR).own_rd GGMM.1) rfl).1 (by omega) (by rw [HKY0.out]; omega) hl0).mono ?_
      rintro e v25w ⟨rfl, bq⟩
      rw [HKY0.out]
      replace b0 := below_step b0 bq
      replace A0 := row_keep bq A0
      replace ZQ0 := row_keep bq ZQ0
      replace ZX0 := row_keep bq ZX0
      replace ZG0 := row_keep bq ZG0
      replace ZH0 := row_keep bq ZH0
      replace GGMM := owned_next GGMM bq
      replace HH := owned_next HH bq
      replace S0 := sight_next S0 bq
      replace S1 := sight_next S1 bq
      clear bq
      have nh0 : ¬ (1 + (ky0 : Int) < 0) := by omega
      obtain ⟨A0c0, A0c1, A0c2, A0c3, A0c4, A0c5, A0c6, A0c7, A0c8⟩ := cells_core A0
      have A0lt := (Array.getElem?_eq_some_iff.1 A0).1
      obtain ⟨ZQ0c0, ZQ0c1, ZQ0c2, ZQ0c3, ZQ0c4, ZQ0c5, ZQ0c6, ZQ0c7, ZQ0c8⟩ := cells_core ZQ0
      have ZQ0lt := (Array.getElem?_eq_some_iff.1 ZQ0).1
      obtain ⟨ZX0c0, ZX0c1, ZX0c2, ZX0c3, ZX0c4, ZX0c5, ZX0c6, ZX0c7, ZX0c8⟩ := cells_core ZX0
      have ZX0lt := (Array.getElem?_eq_some_iff.1 ZX0).1
      obtain ⟨ZG0c0, ZG0c1, ZG0c2, ZG0c3, ZG0c4, ZG0c5, ZG0c6, ZG0c7, ZG0c8⟩ := cells_core ZG0
      have ZG0lt := (Array.getElem?_eq_some_iff.1 ZG0).1
      obtain ⟨ZH0c0, ZH0c1, ZH0c2, ZH0c3, ZH0c4, ZH0c5, ZH0c6, ZH0c7, ZH0c8⟩ := cells_core ZH0
      have ZH0lt := (Array.getElem?_eq_some_iff.1 ZH0).1
      go_wp2_with fail
      clear A0c0 A0c1 A0c2 A0c3 A0c4 A0c5 A0c6 A0c7 A0c8 A0lt ZQ0c0 ZQ0c1 ZQ0c2 ZQ0c3 ZQ0c4 ZQ0c5 ZQ0c6 ZQ0c7 ZQ0c8 ZQ0lt ZX0c0 ZX0c1 ZX0c2 ZX0c3 ZX0c4 ZX0c5 ZX0c6 ZX0c7 ZX0c8 ZX0lt ZG0c0 ZG0c1 ZG0c2 ZG0c3 ZG0c4 ZG0c5 ZG0c6 ZG0c7 ZG0c8 ZG0lt ZH0c0 ZH0c1 ZH0c2 ZH0c3 ZH0c4 ZH0c5 ZH0c6 ZH0c7 ZH0c8 ZH0lt
      refine (hdMsgs_u [.slice gag1 y1.length gcg1] y1 (1 + (ky0 : Int)) _ (pair_rd ((prodR coreR msgsR).own_rd GGMM.1) rfl).2 (by omega) (by rw [HKY1.out]; omega) hl1).mono ?_
      rintro e v26w ⟨rfl, bq⟩
      rw [HKY1.out]
      replace b0 := below_step b0 bq
      replace A0 := row_keep bq A0
      replace ZQ0 := row_keep bq ZQ0
      replace ZX0 := row_keep bq ZX0
      replace ZG0 := row_keep bq ZG0
      replace ZH0 := row_keep bq ZH0
      replace GGMM := owned_next GGMM bq
      replace HH := owned_next HH bq
      replace S0 := sight_next S0 bq
      replace S1 := sight_next S1 bq
      clear bq
      have nh1 : ¬ (1 + (ky0 : Int) + (ky1 : Int) < 0) := by omega
      clear A0 ZQ0 ZX0 ZG0 ZH0 GGMM HH S0 S1
      go_wp2
      go_ret
      exact ⟨rfl, b0⟩
  · have HS0 : Hid (szI (coreM.bk x0) (1048576) = -1) := szI_no hf0
    rw [HS0.out]
    go_wp2
    go_ret
    exact ⟨rfl, b0⟩

set_option maxRecDepth 100000 in
theorem lifted (os : Os) (started : os.Started) (H : Type) (enc : TypeId × Value → H) :
    ReturnsInHanded {} Tryz.checked os 5 .any (fun w args => (Rows.fnExactBegunSpec.pre enc Tryz.prog Tryz.f5 [] false w args ∧ laidMet Tryz.prog holdL w) ∧ sizedMet enc Tryz.prog Tryz.f5 (OpenSpec.ofChange Rows.fnExactBegunSpec) false w args) (Rows.fnExactBegunSpec.post enc Tryz.prog Tryz.f5 false true false false) := by
  refine returnsInHanded_of_change_and (C := Tryz.checked) (X := fun w _ => laidMet Tryz.prog holdL w) (fun _ _ _ hh h => h.of_heap hh) own started (by kernel_rfl) Tryz.func5
    (ChangeSpec.witness_at (enc := enc) (C := Tryz.checked) (os := os) (X := fun w _ => laidMet Tryz.prog holdL w) false (laidWorld os) #[.agg #[.slice none 0 0, .slice none 0 0, .slice none 0 0, .int .i64 0, .int .i64 0, .int .i64 0, .int .i64 0, .slice none 0 0, .slice none 0 0], .int .i64 0] 8 rfl (by kernel_rfl) (by kernel_rfl) (by kernel_rfl) (by kernel_rfl) (by kernel_rfl) (laid_met os _)) ?_
  intro W base args ds gs before hval0 hW _ _ hL _
  have hval : ∀ (j : Nat) t v, Tryz.f5.params[j]? = some t → args[j]? = some v → Value.okWide Tryz.prog W .any base t v := hval0
  have hW' := hW
  obtain ⟨p, q, hA0, hV0, rfl, hfz, hnd⟩ := hW
  have hA : DataW.TrodAll enc Tryz.prog W 0 (fun _ => true) true Tryz.f5.params.toList args.toList ds p := hA0
  have hV : DataW.TrodVars enc Tryz.prog W (fun _ => true) [holdName] gs q := hV0
  rw [Tryz.params5] at hA hval
  have hvar := hold_var hL
  obtain rfl := vars_one hV hvar
  obtain ⟨v0, vs0, d0, ds0, p0, q0, hargs, rfl, rfl, h0, r0⟩ := trodAll_cons hA
  obtain ⟨v1, vs1, d1, ds1, p1, q1, rfl, rfl, rfl, h1, r1⟩ := trodAll_cons r0
  obtain ⟨rfl, rfl, rfl⟩ := trodAll_nil r1
  obtain rfl : args = #[v0, v1] := by cases args; simp_all
  have k0 := h0
  have lt0 : ∀ x ∈ p0, x.block < W.heap.size := by obtain ⟨m, hm⟩ := k0; exact DataW.trod_lt m _ _ _ hm
  have k1 := h1
  have lt1 : ∀ x ∈ p1, x.block < W.heap.size := by obtain ⟨m, hm⟩ := k1; exact DataW.trod_lt m _ _ _ hm
  obtain ⟨cs0, x0, rfl, w0⟩ := open_struct Tryz.underlying65 opens_core (hval 0 65 v0 rfl rfl) h0
  obtain ⟨a1, rfl, e1, f1, w1⟩ := open_int Tryz.underlying2 (hval 1 2 v1 rfl rfl) h1
  clear hA0 hval0 hV0
  refine (walk cs0 x0 a1 w1 W w0 (hold_of_var hvar)).mono fun e W' ⟨he, bel⟩ => ?_
  subst he
  exact ⟨_, rfl, _, _, _, [], _, _, hW', trodAll_mk1 (shut_bool Tryz.underlying4 _), (trodAll_cons_mk (Below.trod laidOut (by kernel_rfl) (of_decide_eq_true (by kernel_rfl)) k0 bel lt0) (trodAll_cons_mk (Below.trod laidOut (by kernel_rfl) (of_decide_eq_true (by kernel_rfl)) k1 bel lt1) trodAll_mk0)), vars_hold enc _ (var_below hvar bel), bel.frame _, fun h => by cases h⟩

theorem over : Rows.fnExactBegunRow.holds Tryz.pinned (OpenSpec.ofChange Rows.fnExactBegunSpec) :=
  OpenClaim.holds_of_wide 5 Tryz.f5 rfl rfl rfl rfl rfl rfl rfl ⟨rfl, rfl, rfl, rfl, rfl⟩ rfl rfl rfl rfl rfl (by kernel_rfl) Tryz.func5 (by kernel_rfl)
    (of_decide_eq_true (by kernel_rfl)) (by unfold Func.isWrapper; first | (rw [if_pos (by decide +kernel)]; kernel_rfl) | (rw [if_neg (by decide +kernel)]; exact ⟨rfl, rfl⟩))
    (fun os started H enc _ => lifted os started H enc)

theorem proved : Rows.FnExactBegunCardSaid :=
  Claim7.holds_tied_plain_at .later [] [.data] true (true, "b749e2c4cd75801ccba5da0e615856bc1e352607103b4789df24803676dcc497") true
    over (fun _ h => by cases h) (by kernel_rfl) (fun _ h => by cases h) fnExactBegun_row_tie rfl ⟨rfl, rfl⟩ (by kernel_rfl) rfl
    (fun f fn hf hfn => by
      obtain rfl : f = 5 := Option.some.inj ((show Tryz.prog.funcNamed "loop.example/g00342/laws.FnExactBegun" = some 5 by kernel_rfl).symm.trans hf) |>.symm
      obtain rfl : fn = Tryz.f5 := (Option.some.inj (Tryz.func5.symm.trans hfn)).symm
      exact ⟨by kernel_rfl, fun j t ht => by
        rw [Tryz.params5] at ht
        have hall : ∀ t ∈ [65, 2], Tryz.prog.wantsStandIn t = false := by
          intro t ht
          simp only [List.mem_cons, List.not_mem_nil, or_false] at ht
          rcases ht with rfl | rfl <;> kernel_rfl
        exact hall t (by
          have := Array.mem_of_getElem? ht
          simpa using this)⟩)
    (by kernel_rfl)
#print axioms proved
end Go.Proofs.YthbclkpmgcfdnaaGreatDoor.fnExactBegun
