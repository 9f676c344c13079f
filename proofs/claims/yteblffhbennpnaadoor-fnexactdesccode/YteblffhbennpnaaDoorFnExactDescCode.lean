/- At every layout and every list, impl.DescCode answers as spec.DescCode does and writes into no argument: the law FnExactDescCode returns true and changes nothing that was there. No condition. -/
import Derived.Test.YteblffhbennpnaaDoorRows
import Derived.Test.YteblffhbennpnaaDoorOwned
import Derived.Test.YteblffhbennpnaaDoorCfgR
import Derived.Test.YteblffhbennpnaaDoorToConfig
import Derived.Test.YteblffhbennpnaaDoorMarkOp
import Derived.Test.YteblffhbennpnaaDoorProg11
import Derived.Test.YteblffhbennpnaaDoorImpl11
import Derived.Test.YteblffhbennpnaaDoorHandle
import Derived.WalkKit
import Derived.ProofKit
import Derived.OpenShut
import Derived.ShutString
import Derived.ChangeOld
import Derived.Below
import Derived.Carry
import Derived.Lib.SmallJoins
namespace Go.Proofs.YteblffhbennpnaaDoor.fnExactDescCode
open Go.ChangeShapes Go.WideShapes Go.ChangeAt Go.RowKit Go.Joins
open Go.ChangeMaps (open_string shut_string)
set_option linter.unusedVariables false

theorem own : ownKnob Tryd.prog.godebug = none := by kernel_rfl
theorem laidOut : laidOutB Tryd.prog = true := by kernel_rfl

set_option maxHeartbeats 8000000 in
set_option maxRecDepth 100000 in
theorem walk (cs0 : Array Value) (x0 : RepOf (cfgR)) (a1 : Option Addr) (cap1 : Nat) (x1 : RepOf (descsR)) (w : World) (w0 : (cfgR).rd w cs0.toList x0) (w1 : SlRd descR w a1 x1) (l1 : x1.length ≤ maxLen) (hh : Hold w) :
    Calls Tryd.prog 5 #[.agg cs0, .slice a1 x1.length cap1] w fun e w' => e = .returned (.bool true) ∧ Below w.heap.size w w' := by
  obtain ⟨c0, c1, c2, c3⟩ := x0
  obtain ⟨hcs, -⟩ := cfg_rd w0
  simp only at hcs
  obtain rfl := arr_of hcs
  clear w0 hcs
  have HR : Hid (∀ W, Below w.heap.size w W → SlRd descR W a1 x1) := fun W hb => slrd_next w1 hb
  have HH : Hid (∀ W, Below w.heap.size w W → Hold W) := fun W hb => hh.to hb
  clear w1 hh
  generalize hQ : descI c0 c1 c2 c3 x1 = Q
  have HQ : Hid (descI c0 c1 c2 c3 x1 = Q) := hQ
  clear hQ
  have A := heap_at w (.cells #[.int .i64 c0, .int .i64 c1, .int .i64 c2, .int .i64 c3] 40)
  have b0 := box_below w (.cells #[.int .i64 c0, .int .i64 c1, .int .i64 c2, .int .i64 c3] 40)
  go_enter Tryd.func5, Tryd.ntmps5
  go_wp2_with fail
  generalize w.alloc (.cells #[.int .i64 c0, .int .i64 c1, .int .i64 c2, .int .i64 c3] 40) = v0w at A b0 ⊢
  refine (szDescS_rep a1 x1 cap1 1048576 _ (HR.out _ b0) (by decide) (by decide) l1).mono ?_
  rintro e w2 ⟨rfl, bb⟩
  replace b0 := below_step b0 bb
  replace A := row_keep bb A
  clear bb
  by_cases hf : ((descsM.bk x1 : Nat) : Int) ≤ 1048576
  · have HS : Hid (szI (descsM.bk x1) 1048576 = 1048576 - (descsM.bk x1 : Int)) := szI_yes hf
    have hf' : ¬ (1048576 - ((descsM.bk x1 : Nat) : Int) < 0) := by omega
    have hbk : descsM.bk x1 ≤ 1048576 := by omega
    rw [HS.out]
    obtain ⟨Ac0, Ac1, Ac2, Ac3⟩ := cells_4 A
    have Alt := (Array.getElem?_eq_some_iff.1 A).1
    go_wp2_with fail
    clear Ac0 Ac1 Ac2 Ac3 Alt
    refine (toConfig_any _ _ _ _ _).mono ?_
    rintro e v1w ⟨rfl, bq⟩
    replace b0 := below_step b0 bq
    replace A := row_keep bq A
    clear bq
    obtain ⟨Ac0, Ac1, Ac2, Ac3⟩ := cells_4 A
    have Alt := (Array.getElem?_eq_some_iff.1 A).1
    go_wp2_with fail
    clear Ac0 Ac1 Ac2 Ac3 Alt
    refine (toDescS_rep a1 x1 cap1 _ (HR.out _ b0) hbk).mono ?_
    rintro e v2w ⟨v, rfl, mm⟩
    obtain ⟨av1, cv1, rfl⟩ := slown_val mm.1
    have PA : w.heap.size < v1w.heap.size ∨ v2w.heap.size ≤ w.heap.size := .inl (Array.getElem?_eq_some_iff.1 A).1
    have Plo : w.heap.size ≤ v1w.heap.size := b0.size
    have P := owned_made (R := descsR) mm
    have mbP := mm.2
    replace b0 := below_step b0 mbP
    replace A := row_keep mbP A
    clear mbP mm
    obtain ⟨Ac0, Ac1, Ac2, Ac3⟩ := cells_4 A
    have Alt := (Array.getElem?_eq_some_iff.1 A).1
    go_wp2_with fail
    clear Ac0 Ac1 Ac2 Ac3 Alt
    have C1 := specDescCode_any c0 c1 c2 c3 av1 x1 cv1 _ (descs_rd P.1) l1
    rw [HQ.out] at C1
    refine C1.mono ?_
    rintro e v3w ⟨rfl, bq⟩
    replace b0 := below_step b0 bq
    replace A := row_keep bq A
    replace P := owned_next P bq
    clear bq C1 P
    obtain ⟨Ac0, Ac1, Ac2, Ac3⟩ := cells_4 A
    have Alt := (Array.getElem?_eq_some_iff.1 A).1
    go_wp2_with fail
    clear Ac0 Ac1 Ac2 Ac3 Alt
    refine (toDescS_rep a1 x1 cap1 _ (HR.out _ b0) hbk).mono ?_
    rintro e v4w ⟨v, rfl, mm⟩
    obtain ⟨av2, cv2, rfl⟩ := slown_val mm.1
    have XA : w.heap.size < v3w.heap.size ∨ v4w.heap.size ≤ w.heap.size := .inl (Array.getElem?_eq_some_iff.1 A).1
    have Xlo : w.heap.size ≤ v3w.heap.size := b0.size
    have X := owned_made (R := descsR) mm
    have mbX := mm.2
    replace b0 := below_step b0 mbX
    replace A := row_keep mbX A
    clear mbX mm
    obtain ⟨Ac0, Ac1, Ac2, Ac3⟩ := cells_4 A
    have Alt := (Array.getElem?_eq_some_iff.1 A).1
    go_wp2_with fail
    clear Ac0 Ac1 Ac2 Ac3 Alt
    refine (toConfig_any _ _ _ _ _).mono ?_
    rintro e v5w ⟨rfl, bq⟩
    replace b0 := below_step b0 bq
    replace A := row_keep bq A
    replace X := owned_next X bq
    clear bq
    obtain ⟨Ac0, Ac1, Ac2, Ac3⟩ := cells_4 A
    have Alt := (Array.getElem?_eq_some_iff.1 A).1
    go_wp2_with fail
    clear Ac0 Ac1 Ac2 Ac3 Alt
    have C1 := implDescCode_any c0 c1 c2 c3 av2 x1 cv2 _ (HH.out _ b0) (descs_rd X.1) l1
    rw [HQ.out] at C1
    refine C1.mono ?_
    rintro e v6w ⟨rfl, bq⟩
    replace b0 := below_step b0 bq
    replace A := row_keep bq A
    replace X := owned_next X bq
    clear bq C1
    obtain ⟨Ac0, Ac1, Ac2, Ac3⟩ := cells_4 A
    have Alt := (Array.getElem?_eq_some_iff.1 A).1
    go_wp2_with fail
    clear Ac0 Ac1 Ac2 Ac3 Alt
    refine (toDescS_rep a1 x1 cap1 _ (HR.out _ b0) hbk).mono ?_
    rintro e v7w ⟨v, rfl, mm⟩
    obtain ⟨av3, cv3, rfl⟩ := slown_val mm.1
    have YA : w.heap.size < v6w.heap.size ∨ v7w.heap.size ≤ w.heap.size := .inl (Array.getElem?_eq_some_iff.1 A).1
    have XY : v4w.heap.size ≤ v6w.heap.size := X.2
    have Ylo : w.heap.size ≤ v6w.heap.size := b0.size
    have Y := owned_made (R := descsR) mm
    have mbY := mm.2
    replace b0 := below_step b0 mbY
    replace A := row_keep mbY A
    replace X := owned_next X mbY
    clear mbY mm
    obtain ⟨Ac0, Ac1, Ac2, Ac3⟩ := cells_4 A
    have Alt := (Array.getElem?_eq_some_iff.1 A).1
    go_wp2_with fail
    clear Ac0 Ac1 Ac2 Ac3 Alt
    refine (eqDescS_rep av2 av3 x1 cv2 cv3 _ (descs_rd X.1) (descs_rd Y.1) (by have : (slM descM).bk x1 = descsM.bk x1 := rfl; omega)).mono ?_
    rintro e v8w ⟨rfl, bq⟩
    replace b0 := below_step b0 bq
    replace A := row_keep bq A
    replace X := owned_next X bq
    replace Y := owned_next Y bq
    clear bq X Y A
    go_wp2
    go_ret
    exact ⟨rfl, b0⟩
  · have HS : Hid (szI (descsM.bk x1) 1048576 = -1) := szI_no hf
    rw [HS.out]
    go_wp2
    go_ret
    exact ⟨rfl, b0⟩

set_option maxRecDepth 100000 in
theorem lifted (os : Os) (started : os.Started) (H : Type) (enc : TypeId × Value → H) :
    ReturnsInHanded {} Tryd.checked os 5 .any (fun w args => (Rows.fnExactDescCodeSpec.pre enc Tryd.prog Tryd.f5 [] false w args ∧ laidMetH Tryd.prog holdL w) ∧ sizedMet enc Tryd.prog Tryd.f5 (OpenSpec.ofChange Rows.fnExactDescCodeSpec) false w args) (Rows.fnExactDescCodeSpec.post enc Tryd.prog Tryd.f5 false true false false) := by
  refine returnsInHanded_of_change_and (C := Tryd.checked) (X := fun w _ => laidMetH Tryd.prog holdL w) (fun _ _ _ hh h => h.of_heap hh) own started (by kernel_rfl) Tryd.func5
    (ChangeSpec.witness_at (enc := enc) (C := Tryd.checked) (os := os) (X := fun w _ => laidMetH Tryd.prog holdL w) false (laidWorld os) #[.agg #[.int .i64 0, .int .i64 0, .int .i64 0, .int .i64 0], .slice none 0 0] 8 rfl (by kernel_rfl) (by kernel_rfl) (by kernel_rfl) (by kernel_rfl) (by kernel_rfl) (laid_met os _)) ?_
  intro W base args ds gs before hval0 hW _ _ hL _
  have hval : ∀ (j : Nat) t v, Tryd.f5.params[j]? = some t → args[j]? = some v → Value.okWide Tryd.prog W .any base t v := hval0
  have hW' := hW
  obtain ⟨p, q, hA0, hV0, rfl, hfz, hnd⟩ := hW
  have hA : DataW.TrodAll enc Tryd.prog W 0 (fun _ => true) true Tryd.f5.params.toList args.toList ds p := hA0
  have hV : DataW.TrodVars enc Tryd.prog W (fun _ => true) [] gs q := hV0
  rw [Tryd.params5] at hA hval
  obtain ⟨v0, vs0, d0, ds0, p0, q0, hargs, rfl, rfl, h0, r0⟩ := trodAll_cons hA
  obtain ⟨v1, vs1, d1, ds1, p1, q1, rfl, rfl, rfl, h1, r1⟩ := trodAll_cons r0
  obtain ⟨rfl, rfl, rfl⟩ := trodAll_nil r1
  obtain rfl : args = #[v0, v1] := by cases args; simp_all
  obtain ⟨rfl, rfl⟩ := trodVars_none hV
  have k0 := h0
  have lt0 : ∀ x ∈ p0, x.block < W.heap.size := by obtain ⟨m, hm⟩ := k0; exact DataW.trod_lt m _ _ _ hm
  have k1 := h1
  have lt1 : ∀ x ∈ p1, x.block < W.heap.size := by obtain ⟨m, hm⟩ := k1; exact DataW.trod_lt m _ _ _ hm
  obtain ⟨cs0, x0, rfl, w0⟩ := open_struct Tryd.underlying40 opens_cfg (hval 0 40 v0 rfl rfl) h0
  obtain ⟨x1, a1, cap1, hc1, l1, m1, w1⟩ := open_rep opens_descs h1
  obtain ⟨aa1, len1, cc1, rfl⟩ := okWide_slice Tryd.underlying48 (hval 1 48 v1 rfl rfl)
  simp only [Value.cells, List.cons.injEq, Value.slice.injEq, and_true] at hc1
  obtain ⟨rfl, rfl, rfl⟩ : a1 = aa1 ∧ x1.length = len1 ∧ cap1 = cc1 := ⟨hc1.1.symm, hc1.2.1.symm, hc1.2.2.symm⟩
  clear hA0 hval0 hV0
  refine (walk cs0 x0 a1 cap1 x1 W w0 w1 (Nat.le_trans l1 m1) (hold_laid hL)).mono fun e W' ⟨he, bel⟩ => ?_
  subst he
  exact ⟨_, rfl, _, _, _, [], _, [], hW', trodAll_mk1 (shut_bool Tryd.underlying4 _), (trodAll_cons_mk (Below.trod laidOut (by kernel_rfl) (of_decide_eq_true (by kernel_rfl)) k0 bel lt0) (trodAll_cons_mk (Below.trod laidOut (by kernel_rfl) (of_decide_eq_true (by kernel_rfl)) k1 bel lt1) trodAll_mk0)), rfl, bel.frame _, fun h => by cases h⟩

theorem over : Rows.fnExactDescCodeRow.holds Tryd.pinned (OpenSpec.ofChange Rows.fnExactDescCodeSpec) :=
  OpenClaim.holds_of_wide 5 Tryd.f5 rfl rfl rfl rfl rfl rfl rfl ⟨rfl, rfl, rfl, rfl, rfl⟩ rfl rfl rfl rfl rfl (by kernel_rfl) Tryd.func5 (by kernel_rfl)
    (of_decide_eq_true (by kernel_rfl)) (by unfold Func.isWrapper; first | (rw [if_pos (by decide +kernel)]; kernel_rfl) | (rw [if_neg (by decide +kernel)]; exact ⟨rfl, rfl⟩))
    (fun os started H enc _ => lifted os started H enc)

theorem proved : Rows.FnExactDescCodeCardSaid :=
  Claim7.holds_tied_plain_at .later [] [.handle] true (true, "02e01d6e296700c741081a5c4ed0ce886743419dc0cf0fe1bd6f1a699ebfcd5d") true
    over (fun _ h => by cases h) (by kernel_rfl) (fun _ h => by cases h) fnExactDescCode_row_tie rfl ⟨rfl, rfl⟩ (by kernel_rfl) rfl
    (fun f fn hf hfn => by
      obtain rfl : f = 5 := Option.some.inj ((show Tryd.prog.funcNamed "loop.example/g00342/laws.FnExactDescCode" = some 5 by kernel_rfl).symm.trans hf) |>.symm
      obtain rfl : fn = Tryd.f5 := (Option.some.inj (Tryd.func5.symm.trans hfn)).symm
      exact ⟨by kernel_rfl, fun j t ht => by
        rw [Tryd.params5] at ht
        have hall : ∀ t ∈ [40, 48], Tryd.prog.wantsStandIn t = false := by
          intro t ht
          simp only [List.mem_cons, List.not_mem_nil, or_false] at ht
          rcases ht with rfl | rfl <;> kernel_rfl
        exact hall t (by
          have := Array.mem_of_getElem? ht
          simpa using this)⟩)
    (by kernel_rfl)
#print axioms proved
end Go.Proofs.YteblffhbennpnaaDoor.fnExactDescCode
