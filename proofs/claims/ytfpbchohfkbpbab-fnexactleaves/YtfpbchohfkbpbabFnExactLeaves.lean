/- At every store and every number, impl.Leaves answers as spec.Leaves does and writes into no argument: the law FnExactLeaves returns true and changes nothing that was there. No condition. -/
import Derived.Test.YtfpbchohfkbpbabRows
import Derived.Test.YtfpbchohfkbpbabStoreEnd
import Derived.Test.YtfpbchohfkbpbabSpecAt
import Derived.WalkKit
import Derived.ProofKit
import Derived.OpenShut
import Derived.ShutString
import Derived.ChangeOld
import Derived.Below
import Derived.Carry
import Derived.Lib.SmallJoins
namespace Go.Proofs.Ytfpbchohfkbpbab.fnExactLeaves
open Go.ChangeShapes Go.WideShapes Go.ChangeAt Go.RowKit Go.Joins
open Go.ChangeMaps (open_string shut_string)
set_option linter.unusedVariables false

theorem own : ownKnob Try.prog.godebug = none := by kernel_rfl
theorem laidOut : laidOutB Try.prog = true := by kernel_rfl

set_option maxHeartbeats 2000000 in
theorem walk (cs0 : Array Value) (x0 : RepOf (cacheR)) (a1 : Int) (w1 : (Lit.int .i64 a1).wf = true) (w : World) (w0 : (cacheR).rd w cs0.toList x0) :
    Calls Try.prog 4 #[.agg cs0, .int .i64 a1] w fun e w' => e = .returned (.bool true) ∧ Below w.heap.size w w' := by
  obtain ⟨aa, cap, bb, cp, hcs, l1, l2, l3, l4, r1, r2⟩ := cache_rd w0
  obtain rfl := arr_of hcs
  clear w0 hcs
  have m1 := Nat.le_trans l1 l2
  have m2 := Nat.le_trans l3 l4
  have HR : Hid (SlRd waysR w aa x0.1 ∧ SlRd intR w bb x0.2) := ⟨r1, r2⟩
  clear l1 l2 l3 l4 r1 r2
  have A := heap_at w (.cells #[.slice aa x0.1.length cap, .slice bb x0.2.length cp] 25)
  have b0 := box_below w (.cells #[.slice aa x0.1.length cap, .slice bb x0.2.length cp] 25)
  go_enter Try.func4, Try.ntmps4
  go_wp2_with fail
  generalize w.alloc (.cells #[.slice aa x0.1.length cap, .slice bb x0.2.length cp] 25) = w1 at A b0 ⊢
  have R1 := two_next0 HR.out b0
  refine (szCache_rep aa bb x0 cap cp 1048576 _ R1.1 (by decide) (by decide) m1 m2).mono ?_
  clear R1
  rintro e w2 ⟨rfl, bb1⟩
  replace b0 := below_step b0 bb1
  replace A := row_keep bb1 A
  clear bb1
  by_cases hf : ((cacheM.bk x0 : Nat) : Int) ≤ 1048576
  · have HS : Hid (szI (cacheM.bk x0) 1048576 = 1048576 - (cacheM.bk x0 : Int)) := szI_yes hf
    have hf' : ¬ (1048576 - ((cacheM.bk x0 : Nat) : Int) < 0) := by omega
    have hbk : cacheM.bk x0 ≤ 1048576 := by omega
    obtain ⟨s1, s2, s3⟩ := small_of hbk
    have HM : Hid (x0.1.length ≤ maxLen ∧ x0.2.length ≤ maxLen ∧ ∀ row ∈ x0.1, row.length ≤ maxLen) := ⟨m1, m2, fun row hr => Nat.le_trans (s3 row hr) (by decide)⟩
    clear s1 s2 s3 m1 m2
    rw [HS.out]
    obtain ⟨Ac0, Ac1⟩ := cells_two A
    go_wp2_with fail
    clear Ac0 Ac1
    have R1 := two_next0 HR.out b0
    refine (toCache_rep aa bb x0 cap cp _ R1.1 R1.2 hbk).mono ?_
    clear R1
    rintro e w3 ⟨av1, cv1, bv1, dv1, rfl, mm⟩
    have S1 := made_slices mm
    have mb := mm.2
    replace b0 := below_step b0 mb
    replace A := row_keep mb A
    clear mb
    clear mm
    obtain ⟨Ac0, Ac1⟩ := cells_two A
    go_wp2_with fail
    clear Ac0 Ac1
    refine (specLeaves_any av1 bv1 x0 cv1 dv1 _ _ S1.1 S1.2 HM.out.1 HM.out.2.1 HM.out.2.2).mono ?_
    rintro e w4 ⟨rfl, bb2⟩
    replace b0 := below_step b0 bb2
    replace A := row_keep bb2 A
    replace S1 := two_next S1 bb2
    clear bb2
    clear S1
    obtain ⟨Ac0, Ac1⟩ := cells_two A
    go_wp2_with fail
    clear Ac0 Ac1
    have R1 := two_next0 HR.out b0
    refine (toCache_rep aa bb x0 cap cp _ R1.1 R1.2 hbk).mono ?_
    clear R1
    rintro e w3 ⟨av2, cv2, bv2, dv2, rfl, mm⟩
    have S2 := made_slices mm
    have mb := mm.2
    replace b0 := below_step b0 mb
    replace A := row_keep mb A
    clear mb
    clear mm
    obtain ⟨Ac0, Ac1⟩ := cells_two A
    go_wp2_with fail
    clear Ac0 Ac1
    have Z := heap_at w3 (.cells #[.slice av2 x0.1.length cv2, .slice bv2 x0.2.length dv2] 29)
    have bz1 := box_below w3 (.cells #[.slice av2 x0.1.length cv2, .slice bv2 x0.2.length dv2] 29)
    replace b0 := below_step b0 bz1
    replace A := row_keep bz1 A
    replace S2 := two_next S2 bz1
    clear bz1
    generalize w3.alloc (.cells #[.slice av2 x0.1.length cv2, .slice bv2 x0.2.length dv2] 29) = w5 at A b0 S2 Z ⊢
    refine (implLeaves_any av2 bv2 x0 cv2 dv2 _ _ S2.1 S2.2 HM.out.1 HM.out.2.1 HM.out.2.2).mono ?_
    rintro e w6 ⟨rfl, bb3⟩
    replace b0 := below_step b0 bb3
    replace A := row_keep bb3 A
    replace S2 := two_next S2 bb3
    replace Z := row_keep bb3 Z
    clear bb3
    obtain ⟨Ac0, Ac1⟩ := cells_two A
    obtain ⟨Zc0, Zc1⟩ := cells_two Z
    go_wp2_with fail
    clear Ac0 Ac1 Zc0 Zc1
    skip
    go_cut [30] (fun q wx => q = .bool false ∧ Below w.heap.size w wx)
    case first =>
      replace b0 := b0.drew
      replace S2 := two_drew S2
      obtain ⟨Ac0, Ac1⟩ := cells_two A
      obtain ⟨Zc0, Zc1⟩ := cells_two Z
      go_region_with (first | (go_at_call 7; have R1 := two_next0 HR.out b0; refine (toCache_rep aa bb x0 cap cp _ R1.1 R1.2 hbk).mono ?_; clear R1; rintro e wq ⟨av3, cv3, bv3, dv3, rfl, mm⟩; have S3 := made_slices mm; have mb := mm.2; replace b0 := below_step b0 mb; replace A := row_keep mb A; replace S2 := two_next S2 mb; replace Z := row_keep mb Z; clear mb mm; clear Ac0 Ac1 Zc0 Zc1; obtain ⟨Ac0, Ac1⟩ := cells_two A; obtain ⟨Zc0, Zc1⟩ := cells_two Z) | (go_at_call 9; refine (eqCache_rep x0 av2 bv2 av3 bv3 cv2 dv2 cv3 dv3 _ S2.1 S2.2 S3.1 S3.2 (by omega)).mono ?_; rintro e wq ⟨rfl, mb⟩; replace b0 := below_step b0 mb; replace A := row_keep mb A; replace S2 := two_next S2 mb; replace Z := row_keep mb Z; clear mb; clear Ac0 Ac1 Zc0 Zc1; obtain ⟨Ac0, Ac1⟩ := cells_two A; obtain ⟨Zc0, Zc1⟩ := cells_two Z))
      all_goals
        go_wp2_with fail
        go_meet
        exact ⟨rfl, b0⟩
    case rest =>
      obtain ⟨rfl, b9⟩ := hcut
      clear S2 A Z b0
      go_wp2
      go_ret
      exact ⟨rfl, b9⟩
  · have HS : Hid (szI (cacheM.bk x0) 1048576 = -1) := szI_no hf
    rw [HS.out]
    go_wp2
    go_ret
    exact ⟨rfl, b0⟩

set_option maxRecDepth 100000 in
theorem lifted (os : Os) (started : os.Started) (H : Type) (enc : TypeId × Value → H) :
    ReturnsInHanded {} Try.checked os 4 .any (Rows.fnExactLeavesSpec.pre6 enc Try.prog Try.f4 Rows.fnExactLeavesRow.domain false) (Rows.fnExactLeavesSpec.post enc Try.prog Try.f4 false true false false) := by
  refine returnsInHanded_of_change (C := Try.checked) own started (by kernel_rfl) Try.func4
    (ChangeSpec.witness6 (enc := enc) (C := Try.checked) false ⟨#[], #[.agg #[.slice none 0 0, .slice none 0 0], .int .i64 0], []⟩ 8 (by kernel_rfl) (by kernel_rfl) (by kernel_rfl) (by kernel_rfl)) ?_
  intro W base args ds gs before hval0 hW hcnd _
  have hval : ∀ (j : Nat) t v, Try.f4.params[j]? = some t → args[j]? = some v → Value.okWide Try.prog W .any base t v := hval0
  have hW' := hW
  obtain ⟨p, q, hA0, hV, rfl, hfz, hnd⟩ := hW
  have hA : DataW.TrodAll enc Try.prog W 0 (fun _ => true) true Try.f4.params.toList args.toList ds p := hA0
  rw [Try.params4] at hA hval
  obtain ⟨v0, vs0, d0, ds0, p0, q0, hargs, rfl, rfl, h0, r0⟩ := trodAll_cons hA
  obtain ⟨v1, vs1, d1, ds1, p1, q1, rfl, rfl, rfl, h1, r1⟩ := trodAll_cons r0
  obtain ⟨rfl, rfl, rfl⟩ := trodAll_nil r1
  obtain rfl : args = #[v0, v1] := by cases args; simp_all
  obtain ⟨rfl, rfl⟩ := trodVars_none hV
  have k0 := h0
  have lt0 : ∀ x ∈ p0, x.block < W.heap.size := by obtain ⟨m, hm⟩ := k0; exact DataW.trod_lt m _ _ _ hm
  have k1 := h1
  have lt1 : ∀ x ∈ p1, x.block < W.heap.size := by obtain ⟨m, hm⟩ := k1; exact DataW.trod_lt m _ _ _ hm
  obtain ⟨cs0, x0, rfl, w0⟩ := open_struct Try.underlying25 opens_cache (hval 0 25 v0 rfl rfl) h0
  obtain ⟨a1, rfl, e1, f1, w1⟩ := open_int Try.underlying2 (hval 1 2 v1 rfl rfl) h1
  clear hA0 hval0
  refine (walk cs0 x0 a1 w1 W w0).mono fun e W' ⟨he, bel⟩ => ?_
  subst he
  exact ⟨_, rfl, _, _, _, [], _, [], hW', trodAll_mk1 (shut_bool Try.underlying4 _), (trodAll_cons_mk (Below.trod laidOut (by kernel_rfl) (of_decide_eq_true (by kernel_rfl)) k0 bel lt0) (trodAll_cons_mk (Below.trod laidOut (by kernel_rfl) (of_decide_eq_true (by kernel_rfl)) k1 bel lt1) trodAll_mk0)), rfl, bel.frame _, fun h => by cases h⟩

theorem over : Rows.fnExactLeavesRow.holds Try.pinned (OpenSpec.ofChange Rows.fnExactLeavesSpec) :=
  OpenClaim.holds_of_wide 4 Try.f4 rfl rfl rfl rfl rfl rfl rfl ⟨rfl, rfl, rfl, rfl, rfl⟩ rfl rfl rfl rfl rfl (by kernel_rfl) Try.func4 (by kernel_rfl)
    (of_decide_eq_true (by kernel_rfl)) (by unfold Func.isWrapper; first | (rw [if_pos (by decide +kernel)]; kernel_rfl) | (rw [if_neg (by decide +kernel)]; exact ⟨rfl, rfl⟩))
    (fun os started H enc _ => lifted os started H enc)

theorem proved : Rows.FnExactLeavesSaid :=
  over
#print axioms proved
end Go.Proofs.Ytfpbchohfkbpbab.fnExactLeaves
