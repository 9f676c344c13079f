/- impl.NewEntry answers as spec.NewEntry does, field by field, and its answer owns its memory, behind another call too: the law FnExactNewEntry returns true and changes nothing that was there. No condition. -/
import Derived.Test.YtlbolnbchijknaaRows
import Derived.Test.YtlbolnbchijknaaOwnedE
import Derived.Test.YtlbolnbchijknaaForgot2
import Derived.WalkKit
import Derived.ProofKit
import Derived.OpenShut
import Derived.ShutString
import Derived.ChangeOld
import Derived.Below
import Derived.Carry
import Derived.Lib.SmallJoins
namespace Go.Proofs.Ytlbolnbchijknaa.fnExactNewEntry
open Go.ChangeShapes Go.WideShapes Go.ChangeAt Go.RowKit Go.Joins
open Go.ChangeMaps (open_string shut_string)
set_option linter.unusedVariables false

theorem own : ownKnob Try.prog.godebug = none := by kernel_rfl
theorem laidOut : laidOutB Try.prog = true := by kernel_rfl

set_option maxHeartbeats 8000000 in
set_option maxRecDepth 100000 in
theorem walk (w : World) :
    Calls Try.prog 5 #[] w fun e w' => e = .returned (.bool true) ∧ Below w.heap.size w w' := by
  have b0 := Below.refl w.heap.size w
  go_enter Try.func5, Try.ntmps5
  go_wp2_with fail
  refine (specNewEntry_any _).mono ?_
  rintro e v1w ⟨rfl, bq⟩
  replace b0 := below_step b0 bq
  clear bq
  go_wp2_with fail
  have ZP := heap_at v1w (.cells #[.int .i64 (-1), .int .i64 0, .bool false, .int .i64 0, .int .i64 0, .int .i64 0, .int .i64 0, .slice none 0 0] 26)
  have bzZP := box_below v1w (.cells #[.int .i64 (-1), .int .i64 0, .bool false, .int .i64 0, .int .i64 0, .int .i64 0, .int .i64 0, .slice none 0 0] 26)
  replace b0 := below_step b0 bzZP
  clear bzZP
  generalize v1w.alloc (.cells #[.int .i64 (-1), .int .i64 0, .bool false, .int .i64 0, .int .i64 0, .int .i64 0, .int .i64 0, .slice none 0 0] 26) = v2w at b0 ZP ⊢
  refine (implNewEntry_any _).mono ?_
  rintro e v3w ⟨rfl, bq⟩
  replace b0 := below_step b0 bq
  replace ZP := row_keep bq ZP
  clear bq
  obtain ⟨ZPc0, ZPc1, ZPc2, ZPc3, ZPc4, ZPc5, ZPc6, ZPc7⟩ := cells_8 ZP
  have ZPlt := (Array.getElem?_eq_some_iff.1 ZP).1
  go_wp2_with fail
  clear ZPc0 ZPc1 ZPc2 ZPc3 ZPc4 ZPc5 ZPc6 ZPc7 ZPlt
  have ZG := heap_at v3w (.cells #[.int .i64 (-1), .int .i64 0, .bool false, .int .i64 0, .int .i64 0, .int .i64 0, .int .i64 0, .slice none 0 0] 26)
  have bzZG := box_below v3w (.cells #[.int .i64 (-1), .int .i64 0, .bool false, .int .i64 0, .int .i64 0, .int .i64 0, .int .i64 0, .slice none 0 0] 26)
  replace b0 := below_step b0 bzZG
  replace ZP := row_keep bzZG ZP
  clear bzZG
  generalize v3w.alloc (.cells #[.int .i64 (-1), .int .i64 0, .bool false, .int .i64 0, .int .i64 0, .int .i64 0, .int .i64 0, .slice none 0 0] 26) = v4w at b0 ZP ZG ⊢
  refine (eqEntry_rep (-1) 0 0 0 0 0 false [] none none 0 0 _ (.inl rfl) (.inl rfl) (by decide)).mono ?_
  rintro e v5w ⟨rfl, bq⟩
  replace b0 := below_step b0 bq
  replace ZP := row_keep bq ZP
  replace ZG := row_keep bq ZG
  clear bq
  obtain ⟨ZPc0, ZPc1, ZPc2, ZPc3, ZPc4, ZPc5, ZPc6, ZPc7⟩ := cells_8 ZP
  have ZPlt := (Array.getElem?_eq_some_iff.1 ZP).1
  obtain ⟨ZGc0, ZGc1, ZGc2, ZGc3, ZGc4, ZGc5, ZGc6, ZGc7⟩ := cells_8 ZG
  have ZGlt := (Array.getElem?_eq_some_iff.1 ZG).1
  go_wp2_with fail
  clear ZPc0 ZPc1 ZPc2 ZPc3 ZPc4 ZPc5 ZPc6 ZPc7 ZPlt ZGc0 ZGc1 ZGc2 ZGc3 ZGc4 ZGc5 ZGc6 ZGc7 ZGlt
  refine (markEntry_rep (fun _ => False) (-1) 0 0 0 0 0 false (.slice none 0 0) 1 [] _ (by decide) (by decide) (by decide) (own_zero _ _)).mono ?_
  rintro e v6w ⟨rfl, -, ch⟩
  have bq : Below v5w.heap.size v5w v6w := ⟨ch.os, ch.tape, ch.output, ch.size, fun k hk => ch.block k hk (fun h => h)⟩
  replace b0 := below_step b0 bq
  replace ZP := row_keep bq ZP
  replace ZG := row_keep bq ZG
  clear bq ch
  obtain ⟨ZPc0, ZPc1, ZPc2, ZPc3, ZPc4, ZPc5, ZPc6, ZPc7⟩ := cells_8 ZP
  have ZPlt := (Array.getElem?_eq_some_iff.1 ZP).1
  obtain ⟨ZGc0, ZGc1, ZGc2, ZGc3, ZGc4, ZGc5, ZGc6, ZGc7⟩ := cells_8 ZG
  have ZGlt := (Array.getElem?_eq_some_iff.1 ZG).1
  go_wp2_with fail
  clear ZPc0 ZPc1 ZPc2 ZPc3 ZPc4 ZPc5 ZPc6 ZPc7 ZPlt ZGc0 ZGc1 ZGc2 ZGc3 ZGc4 ZGc5 ZGc6 ZGc7 ZGlt
  refine (heldEntry_rep (-1) 0 0 0 0 0 false none 0 1 [] _ (by decide) (by decide) (by decide) (.inl rfl)).mono ?_
  rintro e v7w ⟨rfl, bq⟩
  replace b0 := below_step b0 bq
  replace ZP := row_keep bq ZP
  replace ZG := row_keep bq ZG
  clear bq
  obtain ⟨ZPc0, ZPc1, ZPc2, ZPc3, ZPc4, ZPc5, ZPc6, ZPc7⟩ := cells_8 ZP
  have ZPlt := (Array.getElem?_eq_some_iff.1 ZP).1
  obtain ⟨ZGc0, ZGc1, ZGc2, ZGc3, ZGc4, ZGc5, ZGc6, ZGc7⟩ := cells_8 ZG
  have ZGlt := (Array.getElem?_eq_some_iff.1 ZG).1
  go_wp2_with fail
  clear ZPc0 ZPc1 ZPc2 ZPc3 ZPc4 ZPc5 ZPc6 ZPc7 ZPlt ZGc0 ZGc1 ZGc2 ZGc3 ZGc4 ZGc5 ZGc6 ZGc7 ZGlt
  refine (implNewEntry_any _).mono ?_
  rintro e v8w ⟨rfl, bq⟩
  replace b0 := below_step b0 bq
  replace ZP := row_keep bq ZP
  replace ZG := row_keep bq ZG
  clear bq
  obtain ⟨ZPc0, ZPc1, ZPc2, ZPc3, ZPc4, ZPc5, ZPc6, ZPc7⟩ := cells_8 ZP
  have ZPlt := (Array.getElem?_eq_some_iff.1 ZP).1
  obtain ⟨ZGc0, ZGc1, ZGc2, ZGc3, ZGc4, ZGc5, ZGc6, ZGc7⟩ := cells_8 ZG
  have ZGlt := (Array.getElem?_eq_some_iff.1 ZG).1
  go_wp2_with fail
  clear ZPc0 ZPc1 ZPc2 ZPc3 ZPc4 ZPc5 ZPc6 ZPc7 ZPlt ZGc0 ZGc1 ZGc2 ZGc3 ZGc4 ZGc5 ZGc6 ZGc7 ZGlt
  have ZH := heap_at v8w (.cells #[.int .i64 (-1), .int .i64 0, .bool false, .int .i64 0, .int .i64 0, .int .i64 0, .int .i64 0, .slice none 0 0] 26)
  have bzZH := box_below v8w (.cells #[.int .i64 (-1), .int .i64 0, .bool false, .int .i64 0, .int .i64 0, .int .i64 0, .int .i64 0, .slice none 0 0] 26)
  replace b0 := below_step b0 bzZH
  replace ZP := row_keep bzZH ZP
  replace ZG := row_keep bzZH ZG
  clear bzZH
  generalize v8w.alloc (.cells #[.int .i64 (-1), .int .i64 0, .bool false, .int .i64 0, .int .i64 0, .int .i64 0, .int .i64 0, .slice none 0 0] 26) = v9w at b0 ZP ZG ZH ⊢
  refine (eqEntry_rep (-1) 0 0 0 0 0 false [] none none 0 0 _ (.inl rfl) (.inl rfl) (by decide)).mono ?_
  rintro e v10w ⟨rfl, bq⟩
  replace b0 := below_step b0 bq
  replace ZP := row_keep bq ZP
  replace ZG := row_keep bq ZG
  replace ZH := row_keep bq ZH
  clear bq
  obtain ⟨ZPc0, ZPc1, ZPc2, ZPc3, ZPc4, ZPc5, ZPc6, ZPc7⟩ := cells_8 ZP
  have ZPlt := (Array.getElem?_eq_some_iff.1 ZP).1
  obtain ⟨ZGc0, ZGc1, ZGc2, ZGc3, ZGc4, ZGc5, ZGc6, ZGc7⟩ := cells_8 ZG
  have ZGlt := (Array.getElem?_eq_some_iff.1 ZG).1
  obtain ⟨ZHc0, ZHc1, ZHc2, ZHc3, ZHc4, ZHc5, ZHc6, ZHc7⟩ := cells_8 ZH
  have ZHlt := (Array.getElem?_eq_some_iff.1 ZH).1
  go_wp2_with fail
  clear ZPc0 ZPc1 ZPc2 ZPc3 ZPc4 ZPc5 ZPc6 ZPc7 ZPlt ZGc0 ZGc1 ZGc2 ZGc3 ZGc4 ZGc5 ZGc6 ZGc7 ZGlt ZHc0 ZHc1 ZHc2 ZHc3 ZHc4 ZHc5 ZHc6 ZHc7 ZHlt
  refine (heldEntry_rep (-1) 0 0 0 0 0 false none 0 1 [] _ (by decide) (by decide) (by decide) (.inl rfl)).mono ?_
  rintro e v11w ⟨rfl, bq⟩
  replace b0 := below_step b0 bq
  replace ZP := row_keep bq ZP
  replace ZG := row_keep bq ZG
  replace ZH := row_keep bq ZH
  clear bq
  clear ZP ZG ZH
  go_wp2
  go_ret
  exact ⟨rfl, b0⟩

set_option maxRecDepth 100000 in
theorem lifted (os : Os) (started : os.Started) (H : Type) (enc : TypeId × Value → H) :
    ReturnsInHanded {} Try.checked os 5 .any (Rows.fnExactNewEntrySpec.pre6 enc Try.prog Try.f5 Rows.fnExactNewEntryRow.domain false) (Rows.fnExactNewEntrySpec.post enc Try.prog Try.f5 false true false false) := by
  refine returnsInHanded_of_change (C := Try.checked) own started (by kernel_rfl) Try.func5
    (ChangeSpec.witness6 (enc := enc) (C := Try.checked) false ⟨#[], #[], []⟩ 8 (by kernel_rfl) (by kernel_rfl) (by kernel_rfl) (by kernel_rfl)) ?_
  intro W base args ds gs before hval0 hW hcnd _
  have hval : ∀ (j : Nat) t v, Try.f5.params[j]? = some t → args[j]? = some v → Value.okWide Try.prog W .any base t v := hval0
  have hW' := hW
  obtain ⟨p, q, hA0, hV, rfl, hfz, hnd⟩ := hW
  have hA : DataW.TrodAll enc Try.prog W 0 (fun _ => true) true Try.f5.params.toList args.toList ds p := hA0
  rw [Try.params5] at hA hval
  obtain ⟨hargs, rfl, rfl⟩ := trodAll_nil hA
  obtain rfl : args = #[] := by cases args; simp_all
  obtain ⟨rfl, rfl⟩ := trodVars_none hV


  clear hA0 hval0
  refine (walk W).mono fun e W' ⟨he, bel⟩ => ?_
  subst he
  exact ⟨_, rfl, _, _, _, [], _, [], hW', trodAll_mk1 (shut_bool Try.underlying4 _), trodAll_mk0, rfl, bel.frame _, fun h => by cases h⟩

theorem over : Rows.fnExactNewEntryRow.holds Try.pinned (OpenSpec.ofChange Rows.fnExactNewEntrySpec) :=
  OpenClaim.holds_of_wide 5 Try.f5 rfl rfl rfl rfl rfl rfl rfl ⟨rfl, rfl, rfl, rfl, rfl⟩ rfl rfl rfl rfl rfl (by kernel_rfl) Try.func5 (by kernel_rfl)
    (of_decide_eq_true (by kernel_rfl)) (by unfold Func.isWrapper; first | (rw [if_pos (by decide +kernel)]; kernel_rfl) | (rw [if_neg (by decide +kernel)]; exact ⟨rfl, rfl⟩))
    (fun os started H enc _ => lifted os started H enc)

theorem proved : Rows.FnExactNewEntrySaid :=
  over
#print axioms proved
end Go.Proofs.Ytlbolnbchijknaa.fnExactNewEntry
