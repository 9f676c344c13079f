/- At every house, impl.HouseOk answers as spec.HouseOk does, field by field, writes into no argument, keeps nothing of one, and its answer owns its memory, behind another call too: the law FnExactHouseOk returns true and changes nothing that was there. No condition. -/
import Derived.Test.YtcnnojfkpkmdmaaRows
import Derived.Test.YtcnnojfkpkmdmaaOwned
import Derived.Test.YtcnnojfkpkmdmaaGxKit
import Derived.Test.YtcnnojfkpkmdmaaHouse1
import Derived.WalkKit
import Derived.ProofKit
import Derived.OpenShut
import Derived.ShutString
import Derived.ChangeOld
import Derived.Below
import Derived.Carry
import Derived.Lib.SmallJoins
namespace Go.Proofs.Ytcnnojfkpkmdmaa.fnExactHouseOk
open Go.ChangeShapes Go.WideShapes Go.ChangeAt Go.RowKit Go.Joins
open Go.ChangeMaps (open_string shut_string)
set_option linter.unusedVariables false

theorem own : ownKnob Try.prog.godebug = none := by kernel_rfl
theorem laidOut : laidOutB Try.prog = true := by kernel_rfl

set_option maxHeartbeats 8000000 in
set_option maxRecDepth 100000 in
theorem walk (cs0 : Array Value) (x0 : RepOf (houseR)) (w : World) (w0 : (houseR).rd w cs0.toList x0) :
    Calls Try.prog 3 #[.agg cs0] w fun e w' => e = .returned (.bool true) ∧ Below w.heap.size w w' := by
  obtain ⟨gaz0, gcz0, haz0, hcz0, hcs0⟩ := house_shape w0
  obtain rfl := arr_of hcs0
  have HR0 : Hid (∀ W, Below w.heap.size w W → houseR.rd W [.slice gaz0 x0.1.length gcz0, .slice haz0 x0.2.length hcz0] x0) := fun W hb => rd_next w0 hb
  clear w0 hcs0
  generalize hres : houseB x0 = res
  have HRES : Hid (houseB x0 = res) := hres
  clear hres
  have RR : res = res := rfl
  clear RR
  have CSP : Hid (∀ W cs0, houseR.rd W cs0 x0 → houseM.bk x0 ≤ 1048576 → Calls Try.prog 7 #[aggV cs0] W fun e w' => e = .returned (.bool res) ∧ Below W.heap.size W w') := fun W cs0 h0 k0 => by have := specHouseOk_u cs0 x0 W h0 k0; rw [HRES.out] at this; exact this
  have CIM : Hid (∀ W cs0, houseR.rd W cs0 x0 → houseM.bk x0 ≤ 1048576 → Calls Try.prog 9 #[aggV cs0] W fun e w' => e = .returned (.bool res) ∧ Below W.heap.size W w') := fun W cs0 h0 k0 => by have := implHouseOk_u cs0 x0 W h0; rw [HRES.out] at this; exact this
  clear HRES
  have b0 := Below.refl w.heap.size w
  go_enter Try.func3, Try.ntmps3
  go_wp2_with fail
  have A0 := heap_at w (.cells #[.slice gaz0 x0.1.length gcz0, .slice haz0 x0.2.length hcz0] 25)
  have bzA0 := box_below w (.cells #[.slice gaz0 x0.1.length gcz0, .slice haz0 x0.2.length hcz0] 25)
  replace b0 := below_step b0 bzA0
  clear bzA0
  generalize w.alloc (.cells #[.slice gaz0 x0.1.length gcz0, .slice haz0 x0.2.length hcz0] 25) = v1w at b0 A0 ⊢
  refine (szHouse_u [.slice gaz0 x0.1.length gcz0, .slice haz0 x0.2.length hcz0] x0 (1048576) _ (HR0.out _ b0) (by omega) (by omega)).mono ?_
  rintro e v2w ⟨rfl, bq⟩
  replace b0 := below_step b0 bq
  replace A0 := row_keep bq A0
  clear bq
  by_cases hf0 : ((houseM.bk x0 : Nat) : Int) ≤ 1048576
  · have HS0 : Hid (szI (houseM.bk x0) (1048576) = 1048576 - (houseM.bk x0 : Int)) := szI_yes hf0
    have hg0 : ¬ (1048576 - ((houseM.bk x0 : Nat) : Int) < 0) := by omega
    have hbk0 : houseM.bk x0 ≤ 1048576 := by omega
    have hbl0 : houseM.bk x0 ≤ lot := Nat.le_trans hbk0 (by decide)
    rw [HS0.out]
    obtain ⟨A0c0, A0c1⟩ := cells_house A0
    have A0lt := (Array.getElem?_eq_some_iff.1 A0).1
    go_wp2_with fail
    clear A0c0 A0c1 A0lt
    refine (toHouse_u [.slice gaz0 x0.1.length gcz0, .slice haz0 x0.2.length hcz0] x0 _ (HR0.out _ b0) hbk0).mono ?_
    rintro e v3w ⟨ds, rfl, mm⟩
    obtain ⟨gap0, gcp0, hap0, hcp0, rfl⟩ := house_shape (houseR.own_rd mm.1)
    rw [show aggV [.slice gap0 x0.1.length gcp0, .slice hap0 x0.2.length hcp0] = .agg #[.slice gap0 x0.1.length gcp0, .slice hap0 x0.2.length hcp0] from rfl]
    have P0A0 : w.heap.size < v2w.heap.size ∨ v3w.heap.size ≤ w.heap.size := .inl (Array.getElem?_eq_some_iff.1 A0).1
    have P0lo : w.heap.size ≤ v2w.heap.size := b0.size
    have P0 := owned_made (R := houseR) mm
    have mbP0 := mm.2
    replace b0 := below_step b0 mbP0
    replace A0 := row_keep mbP0 A0
    clear mbP0 mm
    obtain ⟨A0c0, A0c1⟩ := cells_house A0
    have A0lt := (Array.getElem?_eq_some_iff.1 A0).1
    go_wp2_with fail
    clear A0c0 A0c1 A0lt
    refine (CSP.out _ [.slice gap0 x0.1.length gcp0, .slice hap0 x0.2.length hcp0] (houseR.own_rd P0.1) hbk0).mono ?_
    rintro e v4w ⟨rfl, bq⟩
    replace b0 := below_step b0 bq
    replace A0 := row_keep bq A0
    replace P0 := owned_next P0 bq
    clear bq
    clear P0
    obtain ⟨A0c0, A0c1⟩ := cells_house A0
    have A0lt := (Array.getElem?_eq_some_iff.1 A0).1
    go_wp2_with fail
    clear A0c0 A0c1 A0lt
    refine (toHouse_u [.slice gaz0 x0.1.length gcz0, .slice haz0 x0.2.length hcz0] x0 _ (HR0.out _ b0) hbk0).mono ?_
    rintro e v5w ⟨ds, rfl, mm⟩
    obtain ⟨gax0, gcx0, hax0, hcx0, rfl⟩ := house_shape (houseR.own_rd mm.1)
    rw [show aggV [.slice gax0 x0.1.length gcx0, .slice hax0 x0.2.length hcx0] = .agg #[.slice gax0 x0.1.length gcx0, .slice hax0 x0.2.length hcx0] from rfl]
    have X0A0 : w.heap.size < v4w.heap.size ∨ v5w.heap.size ≤ w.heap.size := .inl (Array.getElem?_eq_some_iff.1 A0).1
    have X0lo : w.heap.size ≤ v4w.heap.size := b0.size
    have X0 := owned_made (R := houseR) mm
    have mbX0 := mm.2
    replace b0 := below_step b0 mbX0
    replace A0 := row_keep mbX0 A0
    clear mbX0 mm
    obtain ⟨A0c0, A0c1⟩ := cells_house A0
    have A0lt := (Array.getElem?_eq_some_iff.1 A0).1
    go_wp2_with fail
    clear A0c0 A0c1 A0lt
    have ZX0 := heap_at v5w (.cells #[.slice gax0 x0.1.length gcx0, .slice hax0 x0.2.length hcx0] 30)
    have bzZX0 := box_below v5w (.cells #[.slice gax0 x0.1.length gcx0, .slice hax0 x0.2.length hcx0] 30)
    have X0ZX0 : v5w.heap.size < v4w.heap.size ∨ v5w.heap.size ≤ v5w.heap.size := .inr X0.2
    replace b0 := below_step b0 bzZX0
    replace A0 := row_keep bzZX0 A0
    replace X0 := owned_next X0 bzZX0
    clear bzZX0
    generalize v5w.alloc (.cells #[.slice gax0 x0.1.length gcx0, .slice hax0 x0.2.length hcx0] 30) = v6w at b0 A0 ZX0 X0 ⊢
    obtain ⟨A0c0, A0c1⟩ := cells_house A0
    have A0lt := (Array.getElem?_eq_some_iff.1 A0).1
    obtain ⟨ZX0c0, ZX0c1⟩ := cells_house ZX0
    have ZX0lt := (Array.getElem?_eq_some_iff.1 ZX0).1
    go_wp2_with fail
    clear A0c0 A0c1 A0lt ZX0c0 ZX0c1 ZX0lt
    refine (CIM.out _ [.slice gax0 x0.1.length gcx0, .slice hax0 x0.2.length hcx0] (houseR.own_rd X0.1) hbk0).mono ?_
    rintro e v7w ⟨rfl, bq⟩
    replace b0 := below_step b0 bq
    replace A0 := row_keep bq A0
    replace ZX0 := row_keep bq ZX0
    replace X0 := owned_next X0 bq
    clear bq
    obtain ⟨A0c0, A0c1⟩ := cells_house A0
    have A0lt := (Array.getElem?_eq_some_iff.1 A0).1
    obtain ⟨ZX0c0, ZX0c1⟩ := cells_house ZX0
    have ZX0lt := (Array.getElem?_eq_some_iff.1 ZX0).1
    go_upto_region 10 with fail
    clear A0c0 A0c1 A0lt ZX0c0 ZX0c1 ZX0lt
    go_cut [26] (fun q wx => q = .bool false ∧ Below w.heap.size w wx ∧ wx.heap[w.heap.size]? = some (.cells #[.slice gaz0 x0.1.length gcz0, .slice haz0 x0.2.length hcz0] 25) ∧ wx.heap[v5w.heap.size]? = some (.cells #[.slice gax0 x0.1.length gcx0, .slice hax0 x0.2.length hcx0] 30) ∧ Owned houseR (v4w.heap.size) (v5w.heap.size) wx ([.slice gax0 x0.1.length gcx0, .slice hax0 x0.2.length hcx0]) (x0))
    case first =>
      replace b0 := b0.drew
      replace X0 := owned_drew X0
      obtain ⟨A0c0, A0c1⟩ := cells_house A0
      have A0lt := (Array.getElem?_eq_some_iff.1 A0).1
      obtain ⟨ZX0c0, ZX0c1⟩ := cells_house ZX0
      have ZX0lt := (Array.getElem?_eq_some_iff.1 ZX0).1
      go_region_with (first | (go_at_call 8; refine (toHouse_u [.slice gaz0 x0.1.length gcz0, .slice haz0 x0.2.length hcz0] x0 _ (HR0.out _ b0) hbk0).mono ?_; rintro e wq ⟨ds, rfl, mm⟩; obtain ⟨gay, gcy, hay, hcy, rfl⟩ := house_shape (houseR.own_rd mm.1); rw [show aggV [.slice gay x0.1.length gcy, .slice hay x0.2.length hcy] = .agg #[.slice gay x0.1.length gcy, .slice hay x0.2.length hcy] from rfl]; have YY := houseR.own_rd mm.1; have mb := mm.2; replace b0 := below_step b0 mb; replace A0 := row_keep mb A0; replace ZX0 := row_keep mb ZX0; replace X0 := owned_next X0 mb; clear mb mm; clear A0c0 A0c1 A0lt ZX0c0 ZX0c1 ZX0lt; obtain ⟨A0c0, A0c1⟩ := cells_house A0; have A0lt := (Array.getElem?_eq_some_iff.1 A0).1; obtain ⟨ZX0c0, ZX0c1⟩ := cells_house ZX0; have ZX0lt := (Array.getElem?_eq_some_iff.1 ZX0).1) | (go_at_call 10; refine (eqHouse_u [.slice gax0 x0.1.length gcx0, .slice hax0 x0.2.length hcx0] [.slice gay x0.1.length gcy, .slice hay x0.2.length hcy] x0 _ (houseR.own_rd X0.1) YY hbl0).mono ?_; rintro e wq ⟨rfl, mb⟩; replace b0 := below_step b0 mb; replace A0 := row_keep mb A0; replace ZX0 := row_keep mb ZX0; replace X0 := owned_next X0 mb; clear mb; clear A0c0 A0c1 A0lt ZX0c0 ZX0c1 ZX0lt; obtain ⟨A0c0, A0c1⟩ := cells_house A0; have A0lt := (Array.getElem?_eq_some_iff.1 A0).1; obtain ⟨ZX0c0, ZX0c1⟩ := cells_house ZX0; have ZX0lt := (Array.getElem?_eq_some_iff.1 ZX0).1))
      all_goals
        go_wp2_with fail
        go_meet
        exact ⟨rfl, b0, A0, ZX0, X0⟩
    case rest =>
      clear b0 A0 ZX0 X0
      obtain ⟨rfl, b0, A0, ZX0, X0⟩ := hcut
      generalize wc = v8w at b0 A0 ZX0 X0 ⊢
      clear A0 ZX0 X0
      go_wp2
      go_ret
      exact ⟨rfl, b0⟩
  · have HS0 : Hid (szI (houseM.bk x0) (1048576) = -1) := szI_no hf0
    rw [HS0.out]
    go_wp2
    go_ret
    exact ⟨rfl, b0⟩

set_option maxRecDepth 100000 in
theorem lifted (os : Os) (started : os.Started) (H : Type) (enc : TypeId × Value → H) :
    ReturnsInHanded {} Try.checked os 3 .any (Rows.fnExactHouseOkSpec.pre6 enc Try.prog Try.f3 Rows.fnExactHouseOkRow.domain false) (Rows.fnExactHouseOkSpec.post enc Try.prog Try.f3 false true false false) := by
  refine returnsInHanded_of_change (C := Try.checked) own started (by kernel_rfl) Try.func3
    (ChangeSpec.witness6 (enc := enc) (C := Try.checked) false ⟨#[], #[.agg #[.slice none 0 0, .slice none 0 0]], []⟩ 8 (by kernel_rfl) (by kernel_rfl) (by kernel_rfl) (by kernel_rfl)) ?_
  intro W base args ds gs before hval0 hW hcnd _
  have hval : ∀ (j : Nat) t v, Try.f3.params[j]? = some t → args[j]? = some v → Value.okWide Try.prog W .any base t v := hval0
  have hW' := hW
  obtain ⟨p, q, hA0, hV, rfl, hfz, hnd⟩ := hW
  have hA : DataW.TrodAll enc Try.prog W 0 (fun _ => true) true Try.f3.params.toList args.toList ds p := hA0
  rw [Try.params3] at hA hval
  obtain ⟨v0, vs0, d0, ds0, p0, q0, hargs, rfl, rfl, h0, r0⟩ := trodAll_cons hA
  obtain ⟨rfl, rfl, rfl⟩ := trodAll_nil r0
  obtain rfl : args = #[v0] := by cases args; simp_all
  obtain ⟨rfl, rfl⟩ := trodVars_none hV
  have k0 := h0
  have lt0 : ∀ x ∈ p0, x.block < W.heap.size := by obtain ⟨m, hm⟩ := k0; exact DataW.trod_lt m _ _ _ hm
  obtain ⟨cs0, x0, rfl, w0⟩ := open_struct Try.underlying25 opens_house (hval 0 25 v0 rfl rfl) h0
  clear hA0 hval0
  refine (walk cs0 x0 W w0).mono fun e W' ⟨he, bel⟩ => ?_
  subst he
  exact ⟨_, rfl, _, _, _, [], _, [], hW', trodAll_mk1 (shut_bool Try.underlying4 _), (trodAll_cons_mk (Below.trod laidOut (by kernel_rfl) (of_decide_eq_true (by kernel_rfl)) k0 bel lt0) trodAll_mk0), rfl, bel.frame _, fun h => by cases h⟩

theorem over : Rows.fnExactHouseOkRow.holds Try.pinned (OpenSpec.ofChange Rows.fnExactHouseOkSpec) :=
  OpenClaim.holds_of_wide 3 Try.f3 rfl rfl rfl rfl rfl rfl rfl ⟨rfl, rfl, rfl, rfl, rfl⟩ rfl rfl rfl rfl rfl (by kernel_rfl) Try.func3 (by kernel_rfl)
    (of_decide_eq_true (by kernel_rfl)) (by unfold Func.isWrapper; first | (rw [if_pos (by decide +kernel)]; kernel_rfl) | (rw [if_neg (by decide +kernel)]; exact ⟨rfl, rfl⟩))
    (fun os started H enc _ => lifted os started H enc)

theorem proved : Rows.FnExactHouseOkSaid :=
  over
#print axioms proved
end Go.Proofs.Ytcnnojfkpkmdmaa.fnExactHouseOk
