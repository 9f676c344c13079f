/- At every core, impl.CoreOk answers as spec.CoreOk does and writes into no argument: the law FnExactCoreOk returns true and changes nothing that was there. No condition. -/
import Derived.Test.YtbcggkfbahmpoaaRows
import Derived.Test.YtbcggkfbahmpoaaJLinesBoxesAppGenOwned
import Derived.Test.YtbcggkfbahmpoaaCoreOk
import Derived.Test.YtbcggkfbahmpoaaImpl12
import Derived.WalkKit
import Derived.ProofKit
import Derived.OpenShut
import Derived.ShutString
import Derived.ChangeOld
import Derived.Below
import Derived.Carry
import Derived.Lib.SmallJoins
namespace Go.Proofs.Ytbcggkfbahmpoaa.fnExactCoreOk
open Go.ChangeShapes Go.WideShapes Go.ChangeAt Go.RowKit Go.Joins
open Go.ChangeMaps (open_string shut_string)
set_option linter.unusedVariables false

theorem own : ownKnob Try.prog.godebug = none := by kernel_rfl
theorem laidOut : laidOutB Try.prog = true := by kernel_rfl

set_option maxHeartbeats 8000000 in
set_option maxRecDepth 100000 in
theorem walk (cs0 : Array Value) (x0 : RepOf (coreR)) (w : World) (w0 : (coreR).rd w cs0.toList x0) :
    Calls Try.prog 3 #[.agg cs0] w fun e w' => e = .returned (.bool true) ∧ Below w.heap.size w w' := by
  obtain ⟨gaz, gcz, gbz, gdz, haz, hcz, iaz, icz, jaz, jcz, hcs⟩ := core_shape w0
  obtain rfl := arr_of hcs
  have HR : Hid (∀ W, Below w.heap.size w W → coreR.rd W [.slice gaz x0.1.1.length gcz, .slice gbz x0.1.2.length gdz, .slice haz x0.2.1.length hcz, .int .i64 x0.2.2.1, .int .i64 x0.2.2.2.1, .int .i64 x0.2.2.2.2.1.1, .int .i64 x0.2.2.2.2.1.2.1, .slice iaz x0.2.2.2.2.1.2.2.length icz, .slice jaz x0.2.2.2.2.2.length jcz] x0) := fun W hb => rd_next w0 hb
  clear w0 hcs
  have b0 := Below.refl w.heap.size w
  go_enter Try.func3, Try.ntmps3
  go_wp2_with fail
  have A := heap_at w (.cells #[.slice gaz x0.1.1.length gcz, .slice gbz x0.1.2.length gdz, .slice haz x0.2.1.length hcz, .int .i64 x0.2.2.1, .int .i64 x0.2.2.2.1, .int .i64 x0.2.2.2.2.1.1, .int .i64 x0.2.2.2.2.1.2.1, .slice iaz x0.2.2.2.2.1.2.2.length icz, .slice jaz x0.2.2.2.2.2.length jcz] 30)
  have bzA := box_below w (.cells #[.slice gaz x0.1.1.length gcz, .slice gbz x0.1.2.length gdz, .slice haz x0.2.1.length hcz, .int .i64 x0.2.2.1, .int .i64 x0.2.2.2.1, .int .i64 x0.2.2.2.2.1.1, .int .i64 x0.2.2.2.2.1.2.1, .slice iaz x0.2.2.2.2.1.2.2.length icz, .slice jaz x0.2.2.2.2.2.length jcz] 30)
  replace b0 := below_step b0 bzA
  clear bzA
  generalize w.alloc (.cells #[.slice gaz x0.1.1.length gcz, .slice gbz x0.1.2.length gdz, .slice haz x0.2.1.length hcz, .int .i64 x0.2.2.1, .int .i64 x0.2.2.2.1, .int .i64 x0.2.2.2.2.1.1, .int .i64 x0.2.2.2.2.1.2.1, .slice iaz x0.2.2.2.2.1.2.2.length icz, .slice jaz x0.2.2.2.2.2.length jcz] 30) = v1w at b0 A ⊢
  refine (szCore_u [.slice gaz x0.1.1.length gcz, .slice gbz x0.1.2.length gdz, .slice haz x0.2.1.length hcz, .int .i64 x0.2.2.1, .int .i64 x0.2.2.2.1, .int .i64 x0.2.2.2.2.1.1, .int .i64 x0.2.2.2.2.1.2.1, .slice iaz x0.2.2.2.2.1.2.2.length icz, .slice jaz x0.2.2.2.2.2.length jcz] x0 1048576 _ (HR.out _ b0) (by decide) (by decide)).mono ?_
  rintro e v2w ⟨rfl, bq⟩
  replace b0 := below_step b0 bq
  replace A := row_keep bq A
  clear bq
  by_cases hf : ((coreM.bk x0 : Nat) : Int) ≤ 1048576
  · have HS : Hid (szI (coreM.bk x0) 1048576 = 1048576 - (coreM.bk x0 : Int)) := szI_yes hf
    have hf' : ¬ (1048576 - ((coreM.bk x0 : Nat) : Int) < 0) := by omega
    have hbk : coreM.bk x0 ≤ 1048576 := by omega
    have hbl : coreM.bk x0 ≤ lot := Nat.le_trans hbk (by decide)
    rw [HS.out]
    obtain ⟨Ac0, Ac1, Ac2, Ac3, Ac4, Ac5, Ac6, Ac7, Ac8⟩ := cells_core A
    have Alt := (Array.getElem?_eq_some_iff.1 A).1
    go_wp2_with fail
    clear Ac0 Ac1 Ac2 Ac3 Ac4 Ac5 Ac6 Ac7 Ac8 Alt
    refine (toCore_u [.slice gaz x0.1.1.length gcz, .slice gbz x0.1.2.length gdz, .slice haz x0.2.1.length hcz, .int .i64 x0.2.2.1, .int .i64 x0.2.2.2.1, .int .i64 x0.2.2.2.2.1.1, .int .i64 x0.2.2.2.2.1.2.1, .slice iaz x0.2.2.2.2.1.2.2.length icz, .slice jaz x0.2.2.2.2.2.length jcz] x0 _ (HR.out _ b0) hbk).mono ?_
    rintro e v3w ⟨ds, rfl, mm⟩
    obtain ⟨gap, gcp, gbp, gdp, hap, hcp, iap, icp, jap, jcp, rfl⟩ := core_shape (coreR.own_rd mm.1)
    rw [show aggV [.slice gap x0.1.1.length gcp, .slice gbp x0.1.2.length gdp, .slice hap x0.2.1.length hcp, .int .i64 x0.2.2.1, .int .i64 x0.2.2.2.1, .int .i64 x0.2.2.2.2.1.1, .int .i64 x0.2.2.2.2.1.2.1, .slice iap x0.2.2.2.2.1.2.2.length icp, .slice jap x0.2.2.2.2.2.length jcp] = .agg #[.slice gap x0.1.1.length gcp, .slice gbp x0.1.2.length gdp, .slice hap x0.2.1.length hcp, .int .i64 x0.2.2.1, .int .i64 x0.2.2.2.1, .int .i64 x0.2.2.2.2.1.1, .int .i64 x0.2.2.2.2.1.2.1, .slice iap x0.2.2.2.2.1.2.2.length icp, .slice jap x0.2.2.2.2.2.length jcp] from rfl]
    have PA : w.heap.size < v2w.heap.size ∨ v3w.heap.size ≤ w.heap.size := .inl (Array.getElem?_eq_some_iff.1 A).1
    have Plo : w.heap.size ≤ v2w.heap.size := b0.size
    have P := owned_made (R := coreR) mm
    have mbP := mm.2
    replace b0 := below_step b0 mbP
    replace A := row_keep mbP A
    clear mbP mm
    obtain ⟨Ac0, Ac1, Ac2, Ac3, Ac4, Ac5, Ac6, Ac7, Ac8⟩ := cells_core A
    have Alt := (Array.getElem?_eq_some_iff.1 A).1
    go_wp2_with fail
    clear Ac0 Ac1 Ac2 Ac3 Ac4 Ac5 Ac6 Ac7 Ac8 Alt
    refine (specCoreOk_u [.slice gap x0.1.1.length gcp, .slice gbp x0.1.2.length gdp, .slice hap x0.2.1.length hcp, .int .i64 x0.2.2.1, .int .i64 x0.2.2.2.1, .int .i64 x0.2.2.2.2.1.1, .int .i64 x0.2.2.2.2.1.2.1, .slice iap x0.2.2.2.2.1.2.2.length icp, .slice jap x0.2.2.2.2.2.length jcp] x0 _ (coreR.own_rd P.1)).mono ?_
    rintro e v4w ⟨rfl, bq⟩
    replace b0 := below_step b0 bq
    replace A := row_keep bq A
    replace P := owned_next P bq
    clear bq P
    obtain ⟨Ac0, Ac1, Ac2, Ac3, Ac4, Ac5, Ac6, Ac7, Ac8⟩ := cells_core A
    have Alt := (Array.getElem?_eq_some_iff.1 A).1
    go_wp2_with fail
    clear Ac0 Ac1 Ac2 Ac3 Ac4 Ac5 Ac6 Ac7 Ac8 Alt
    refine (toCore_u [.slice gaz x0.1.1.length gcz, .slice gbz x0.1.2.length gdz, .slice haz x0.2.1.length hcz, .int .i64 x0.2.2.1, .int .i64 x0.2.2.2.1, .int .i64 x0.2.2.2.2.1.1, .int .i64 x0.2.2.2.2.1.2.1, .slice iaz x0.2.2.2.2.1.2.2.length icz, .slice jaz x0.2.2.2.2.2.length jcz] x0 _ (HR.out _ b0) hbk).mono ?_
    rintro e v5w ⟨ds, rfl, mm⟩
    obtain ⟨gax, gcx, gbx, gdx, hax, hcx, iax, icx, jax, jcx, rfl⟩ := core_shape (coreR.own_rd mm.1)
    rw [show aggV [.slice gax x0.1.1.length gcx, .slice gbx x0.1.2.length gdx, .slice hax x0.2.1.length hcx, .int .i64 x0.2.2.1, .int .i64 x0.2.2.2.1, .int .i64 x0.2.2.2.2.1.1, .int .i64 x0.2.2.2.2.1.2.1, .slice iax x0.2.2.2.2.1.2.2.length icx, .slice jax x0.2.2.2.2.2.length jcx] = .agg #[.slice gax x0.1.1.length gcx, .slice gbx x0.1.2.length gdx, .slice hax x0.2.1.length hcx, .int .i64 x0.2.2.1, .int .i64 x0.2.2.2.1, .int .i64 x0.2.2.2.2.1.1, .int .i64 x0.2.2.2.2.1.2.1, .slice iax x0.2.2.2.2.1.2.2.length icx, .slice jax x0.2.2.2.2.2.length jcx] from rfl]
    have XA : w.heap.size < v4w.heap.size ∨ v5w.heap.size ≤ w.heap.size := .inl (Array.getElem?_eq_some_iff.1 A).1
    have Xlo : w.heap.size ≤ v4w.heap.size := b0.size
    have X := owned_made (R := coreR) mm
    have mbX := mm.2
    replace b0 := below_step b0 mbX
    replace A := row_keep mbX A
    clear mbX mm
    obtain ⟨Ac0, Ac1, Ac2, Ac3, Ac4, Ac5, Ac6, Ac7, Ac8⟩ := cells_core A
    have Alt := (Array.getElem?_eq_some_iff.1 A).1
    go_wp2_with fail
    clear Ac0 Ac1 Ac2 Ac3 Ac4 Ac5 Ac6 Ac7 Ac8 Alt
    have Z := heap_at v5w (.cells #[.slice gax x0.1.1.length gcx, .slice gbx x0.1.2.length gdx, .slice hax x0.2.1.length hcx, .int .i64 x0.2.2.1, .int .i64 x0.2.2.2.1, .int .i64 x0.2.2.2.2.1.1, .int .i64 x0.2.2.2.2.1.2.1, .slice iax x0.2.2.2.2.1.2.2.length icx, .slice jax x0.2.2.2.2.2.length jcx] 39)
    have bzZ := box_below v5w (.cells #[.slice gax x0.1.1.length gcx, .slice gbx x0.1.2.length gdx, .slice hax x0.2.1.length hcx, .int .i64 x0.2.2.1, .int .i64 x0.2.2.2.1, .int .i64 x0.2.2.2.2.1.1, .int .i64 x0.2.2.2.2.1.2.1, .slice iax x0.2.2.2.2.1.2.2.length icx, .slice jax x0.2.2.2.2.2.length jcx] 39)
    have XZ : v5w.heap.size < v4w.heap.size ∨ v5w.heap.size ≤ v5w.heap.size := .inr X.2
    replace b0 := below_step b0 bzZ
    replace A := row_keep bzZ A
    replace X := owned_next X bzZ
    clear bzZ
    generalize v5w.alloc (.cells #[.slice gax x0.1.1.length gcx, .slice gbx x0.1.2.length gdx, .slice hax x0.2.1.length hcx, .int .i64 x0.2.2.1, .int .i64 x0.2.2.2.1, .int .i64 x0.2.2.2.2.1.1, .int .i64 x0.2.2.2.2.1.2.1, .slice iax x0.2.2.2.2.1.2.2.length icx, .slice jax x0.2.2.2.2.2.length jcx] 39) = v6w at b0 A Z X ⊢
    refine (implCoreOk_u [.slice gax x0.1.1.length gcx, .slice gbx x0.1.2.length gdx, .slice hax x0.2.1.length hcx, .int .i64 x0.2.2.1, .int .i64 x0.2.2.2.1, .int .i64 x0.2.2.2.2.1.1, .int .i64 x0.2.2.2.2.1.2.1, .slice iax x0.2.2.2.2.1.2.2.length icx, .slice jax x0.2.2.2.2.2.length jcx] x0 _ (coreR.own_rd X.1)).mono ?_
    rintro e v7w ⟨rfl, bq⟩
    replace b0 := below_step b0 bq
    replace A := row_keep bq A
    replace Z := row_keep bq Z
    replace X := owned_next X bq
    clear bq
    obtain ⟨Ac0, Ac1, Ac2, Ac3, Ac4, Ac5, Ac6, Ac7, Ac8⟩ := cells_core A
    have Alt := (Array.getElem?_eq_some_iff.1 A).1
    obtain ⟨Zc0, Zc1, Zc2, Zc3, Zc4, Zc5, Zc6, Zc7, Zc8⟩ := cells_core Z
    have Zlt := (Array.getElem?_eq_some_iff.1 Z).1
    go_wp2_with fail
    clear Ac0 Ac1 Ac2 Ac3 Ac4 Ac5 Ac6 Ac7 Ac8 Alt Zc0 Zc1 Zc2 Zc3 Zc4 Zc5 Zc6 Zc7 Zc8 Zlt
    go_wp2_with fail
    go_cut [26] (fun q wx => q = .bool false ∧ Below w.heap.size w wx ∧ wx.heap[w.heap.size]? = some (.cells #[.slice gaz x0.1.1.length gcz, .slice gbz x0.1.2.length gdz, .slice haz x0.2.1.length hcz, .int .i64 x0.2.2.1, .int .i64 x0.2.2.2.1, .int .i64 x0.2.2.2.2.1.1, .int .i64 x0.2.2.2.2.1.2.1, .slice iaz x0.2.2.2.2.1.2.2.length icz, .slice jaz x0.2.2.2.2.2.length jcz] 30) ∧ wx.heap[v5w.heap.size]? = some (.cells #[.slice gax x0.1.1.length gcx, .slice gbx x0.1.2.length gdx, .slice hax x0.2.1.length hcx, .int .i64 x0.2.2.1, .int .i64 x0.2.2.2.1, .int .i64 x0.2.2.2.2.1.1, .int .i64 x0.2.2.2.2.1.2.1, .slice iax x0.2.2.2.2.1.2.2.length icx, .slice jax x0.2.2.2.2.2.length jcx] 39) ∧ Owned coreR (v4w.heap.size) (v5w.heap.size) wx [.slice gax x0.1.1.length gcx, .slice gbx x0.1.2.length gdx, .slice hax x0.2.1.length hcx, .int .i64 x0.2.2.1, .int .i64 x0.2.2.2.1, .int .i64 x0.2.2.2.2.1.1, .int .i64 x0.2.2.2.2.1.2.1, .slice iax x0.2.2.2.2.1.2.2.length icx, .slice jax x0.2.2.2.2.2.length jcx] (x0))
    case first =>
      replace b0 := b0.drew
      replace X := owned_drew X
      obtain ⟨Ac0, Ac1, Ac2, Ac3, Ac4, Ac5, Ac6, Ac7, Ac8⟩ := cells_core A
      have Alt := (Array.getElem?_eq_some_iff.1 A).1
      obtain ⟨Zc0, Zc1, Zc2, Zc3, Zc4, Zc5, Zc6, Zc7, Zc8⟩ := cells_core Z
      have Zlt := (Array.getElem?_eq_some_iff.1 Z).1
      go_region_with (first | (go_at_call 7; refine (toCore_u [.slice gaz x0.1.1.length gcz, .slice gbz x0.1.2.length gdz, .slice haz x0.2.1.length hcz, .int .i64 x0.2.2.1, .int .i64 x0.2.2.2.1, .int .i64 x0.2.2.2.2.1.1, .int .i64 x0.2.2.2.2.1.2.1, .slice iaz x0.2.2.2.2.1.2.2.length icz, .slice jaz x0.2.2.2.2.2.length jcz] x0 _ (HR.out _ b0) hbk).mono ?_; rintro e wq ⟨ds, rfl, mm⟩; obtain ⟨gay, gcy, gby, gdy, hay, hcy, iay, icy, jay, jcy, rfl⟩ := core_shape (coreR.own_rd mm.1); rw [show aggV [.slice gay x0.1.1.length gcy, .slice gby x0.1.2.length gdy, .slice hay x0.2.1.length hcy, .int .i64 x0.2.2.1, .int .i64 x0.2.2.2.1, .int .i64 x0.2.2.2.2.1.1, .int .i64 x0.2.2.2.2.1.2.1, .slice iay x0.2.2.2.2.1.2.2.length icy, .slice jay x0.2.2.2.2.2.length jcy] = .agg #[.slice gay x0.1.1.length gcy, .slice gby x0.1.2.length gdy, .slice hay x0.2.1.length hcy, .int .i64 x0.2.2.1, .int .i64 x0.2.2.2.1, .int .i64 x0.2.2.2.2.1.1, .int .i64 x0.2.2.2.2.1.2.1, .slice iay x0.2.2.2.2.1.2.2.length icy, .slice jay x0.2.2.2.2.2.length jcy] from rfl]; have Y := coreR.own_rd mm.1; have mb := mm.2; replace b0 := below_step b0 mb; replace A := row_keep mb A; replace Z := row_keep mb Z; replace X := owned_next X mb; clear mb mm; clear Ac0 Ac1 Ac2 Ac3 Ac4 Ac5 Ac6 Ac7 Ac8 Alt Zc0 Zc1 Zc2 Zc3 Zc4 Zc5 Zc6 Zc7 Zc8 Zlt; obtain ⟨Ac0, Ac1, Ac2, Ac3, Ac4, Ac5, Ac6, Ac7, Ac8⟩ := cells_core A; have Alt := (Array.getElem?_eq_some_iff.1 A).1; obtain ⟨Zc0, Zc1, Zc2, Zc3, Zc4, Zc5, Zc6, Zc7, Zc8⟩ := cells_core Z; have Zlt := (Array.getElem?_eq_some_iff.1 Z).1) | (go_at_call 9; refine (eqCore_u [.slice gax x0.1.1.length gcx, .slice gbx x0.1.2.length gdx, .slice hax x0.2.1.length hcx, .int .i64 x0.2.2.1, .int .i64 x0.2.2.2.1, .int .i64 x0.2.2.2.2.1.1, .int .i64 x0.2.2.2.2.1.2.1, .slice iax x0.2.2.2.2.1.2.2.length icx, .slice jax x0.2.2.2.2.2.length jcx] [.slice gay x0.1.1.length gcy, .slice gby x0.1.2.length gdy, .slice hay x0.2.1.length hcy, .int .i64 x0.2.2.1, .int .i64 x0.2.2.2.1, .int .i64 x0.2.2.2.2.1.1, .int .i64 x0.2.2.2.2.1.2.1, .slice iay x0.2.2.2.2.1.2.2.length icy, .slice jay x0.2.2.2.2.2.length jcy] x0 _ (coreR.own_rd X.1) Y hbl).mono ?_; rintro e wq ⟨rfl, mb⟩; replace b0 := below_step b0 mb; replace A := row_keep mb A; replace Z := row_keep mb Z; replace X := owned_next X mb; clear mb; clear Ac0 Ac1 Ac2 Ac3 Ac4 Ac5 Ac6 Ac7 Ac8 Alt Zc0 Zc1 Zc2 Zc3 Zc4 Zc5 Zc6 Zc7 Zc8 Zlt; obtain ⟨Ac0, Ac1, Ac2, Ac3, Ac4, Ac5, Ac6, Ac7, Ac8⟩ := cells_core A; have Alt := (Array.getElem?_eq_some_iff.1 A).1; obtain ⟨Zc0, Zc1, Zc2, Zc3, Zc4, Zc5, Zc6, Zc7, Zc8⟩ := cells_core Z; have Zlt := (Array.getElem?_eq_some_iff.1 Z).1))
      all_goals
        go_wp2_with fail
        go_meet
        exact ⟨rfl, b0, A, Z, X⟩
    case rest =>
      clear b0 A Z X
      obtain ⟨rfl, b0, A, Z, X⟩ := hcut
      clear X A Z
      go_wp2
      go_ret
      exact ⟨rfl, b0⟩
  · have HS : Hid (szI (coreM.bk x0) 1048576 = -1) := szI_no hf
    rw [HS.out]
    go_wp2
    go_ret
    exact ⟨rfl, b0⟩

set_option maxRecDepth 100000 in
theorem lifted (os : Os) (started : os.Started) (H : Type) (enc : TypeId × Value → H) :
    ReturnsInHanded {} Try.checked os 3 .any (Rows.fnExactCoreOkSpec.pre6 enc Try.prog Try.f3 Rows.fnExactCoreOkRow.domain false) (Rows.fnExactCoreOkSpec.post enc Try.prog Try.f3 false true false false) := by
  refine returnsInHanded_of_change (C := Try.checked) own started (by kernel_rfl) Try.func3
    (ChangeSpec.witness6 (enc := enc) (C := Try.checked) false ⟨#[], #[.agg #[.slice none 0 0, .slice none 0 0, .slice none 0 0, .int .i64 0, .int .i64 0, .int .i64 0, .int .i64 0, .slice none 0 0, .slice none 0 0]], []⟩ 8 (by kernel_rfl) (by kernel_rfl) (by kernel_rfl) (by kernel_rfl)) ?_
  intro W base args ds gs before hval0 hW hcnd _
  have hval : ∀ (j : Nat) t v, Try.f3.params[j]? = some t → args[j]? = some v → Value.okWide Try.prog W .any base t v := hval0
  have hW' := hW
  obtain ⟨p, q, hA0, hV, rfl, hfz, hnd⟩ := hW
  have hA : DataW.TrodAll enc Try.prog W 0 (fun _ => true) true Try.f3.params.toList args.toList ds p := hA0
  rw [Try.params3] at hA hval
  obtain ⟨v0, vs0, d0, ds0, p0, q0, hargs, rfl, rfl, h0, r0⟩ := trodAll_cons hA
  obtain ⟨rfl, rfl, rfl⟩ := trodAll_nil r0
  obtain rfl : args = #[v0] := by cases args; simp_all
  obtain ⟨rfl, rfl⟩ := trodVars_none hV
  have k0 := h0
  have lt0 : ∀ x ∈ p0, x.block < W.heap.size := by obtain ⟨m, hm⟩ := k0; exact DataW.trod_lt m _ _ _ hm
  obtain ⟨cs0, x0, rfl, w0⟩ := open_struct Try.underlying30 opens_core (hval 0 30 v0 rfl rfl) h0
  clear hA0 hval0
  refine (walk cs0 x0 W w0).mono fun e W' ⟨he, bel⟩ => ?_
  subst he
  exact ⟨_, rfl, _, _, _, [], _, [], hW', trodAll_mk1 (shut_bool Try.underlying4 _), (trodAll_cons_mk (Below.trod laidOut (by kernel_rfl) (of_decide_eq_true (by kernel_rfl)) k0 bel lt0) trodAll_mk0), rfl, bel.frame _, fun h => by cases h⟩

theorem over : Rows.fnExactCoreOkRow.holds Try.pinned (OpenSpec.ofChange Rows.fnExactCoreOkSpec) :=
  OpenClaim.holds_of_wide 3 Try.f3 rfl rfl rfl rfl rfl rfl rfl ⟨rfl, rfl, rfl, rfl, rfl⟩ rfl rfl rfl rfl rfl (by kernel_rfl) Try.func3 (by kernel_rfl)
    (of_decide_eq_true (by kernel_rfl)) (by unfold Func.isWrapper; first | (rw [if_pos (by decide +kernel)]; kernel_rfl) | (rw [if_neg (by decide +kernel)]; exact ⟨rfl, rfl⟩))
    (fun os started H enc _ => lifted os started H enc)

theorem proved : Rows.FnExactCoreOkSaid :=
  over
#print axioms proved
end Go.Proofs.Ytbcggkfbahmpoaa.fnExactCoreOk
