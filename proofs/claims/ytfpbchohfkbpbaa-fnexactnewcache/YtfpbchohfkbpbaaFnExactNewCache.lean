/- At every two numbers, impl.NewCache answers as spec.NewCache does, field by field, and its answer owns its memory, behind another call too: the law FnExactNewCache returns true and changes nothing that was there. No condition. -/
import Derived.Test.YtfpbchohfkbpbaaRows
import Derived.Test.YtfpbchohfkbpbaaOwned
import Derived.Test.YtfpbchohfkbpbaaNewImpl
import Derived.WalkKit
import Derived.ProofKit
import Derived.OpenShut
import Derived.ShutString
import Derived.ChangeOld
import Derived.Below
import Derived.Carry
import Derived.Lib.SmallJoins
namespace Go.Proofs.Ytfpbchohfkbpbaa.fnExactNewCache
open Go.ChangeShapes Go.WideShapes Go.ChangeAt Go.RowKit Go.Joins
open Go.ChangeMaps (open_string shut_string)
set_option linter.unusedVariables false

theorem own : ownKnob Try.prog.godebug = none := by kernel_rfl
theorem laidOut : laidOutB Try.prog = true := by kernel_rfl

theorem newI_small (a b : Int) : cntC (newI a b).1 ≤ 1000 ∧ (newI a b).1.1.length ≤ 1000 ∧ cacheM.bk (newI a b).1 ≤ 1000 := by
  unfold newI
  split
  · rename_i h
    simp only [Bool.and_eq_true] at h
    obtain ⟨n, rfl, hn⟩ := powB_nat h.1
    obtain ⟨m, rfl, hm⟩ := powB_nat h.2
    rcases hn with rfl | rfl | rfl <;> rcases hm with rfl | rfl | rfl <;> decide
  · decide
set_option maxHeartbeats 4000000 in
set_option maxRecDepth 100000 in
theorem walk (a0 : Int) (w0 : (Lit.int .i64 a0).wf = true) (a1 : Int) (w1 : (Lit.int .i64 a1).wf = true) (w : World) :
    Calls Try.prog 6 #[.int .i64 a0, .int .i64 a1] w fun e w' => e = .returned (.bool true) ∧ Below w.heap.size w w' := by
  have hsm := newI_small a0 a1
  generalize hNI : newI a0 a1 = NI at hsm
  have HNI : Hid (newI a0 a1 = NI) := hNI
  clear hNI
  obtain ⟨c, ok⟩ := NI
  obtain ⟨hc1, hc2, hc3⟩ := hsm
  simp only at hc1 hc2 hc3
  have CSP : Hid (∀ W, Calls Try.prog 25 #[.int .i64 a0, .int .i64 a1] W fun e w' => ∃ av cv bv dv, e = .returned (.tuple #[.agg #[.slice av c.1.length cv, .slice bv c.2.length dv], .bool ok]) ∧ MadeR cacheR W w' [.slice av c.1.length cv, .slice bv c.2.length dv] c) := fun W => by have := specNew_any a0 a1 W; rwa [HNI.out] at this
  have CIM : Hid (∀ W, Calls Try.prog 17 #[.int .i64 a0, .int .i64 a1] W fun e w' => ∃ av cv bv dv, e = .returned (.tuple #[.agg #[.slice av c.1.length cv, .slice bv c.2.length dv], .bool ok]) ∧ MadeR cacheR W w' [.slice av c.1.length cv, .slice bv c.2.length dv] c) := fun W => by have := implNew_any a0 a1 W; rwa [HNI.out] at this
  clear HNI
  have hq1 : ¬ ((1 : Int) + (cntC c : Int) < 0) := by omega
  have hm1 : (markC 1 c).1.length = c.1.length := slmark_len _ _ _
  have hm2 : (markC 1 c).2.length = c.2.length := slmark_len _ _ _
  have HM1 : Hid _ := hm1
  have HM2 : Hid _ := hm2
  clear hm1 hm2
  have b0 := Below.refl w.heap.size w
  go_enter Try.func6, Try.ntmps6
  go_wp2_with fail
  refine (CSP.out _).mono ?_
  rintro e v1w ⟨av1, cv1, bv1, dv1, rfl, mm⟩
  have Plo : w.heap.size ≤ w.heap.size := b0.size
  have P := owned_made (R := cacheR) mm
  have mbP := mm.2
  replace b0 := below_step b0 mbP
  clear mbP mm
  go_wp2_with fail
  have ZP := heap_at v1w (.cells #[.slice av1 c.1.length cv1, .slice bv1 c.2.length dv1] 27)
  have bzZP := box_below v1w (.cells #[.slice av1 c.1.length cv1, .slice bv1 c.2.length dv1] 27)
  have PZP : v1w.heap.size < w.heap.size ∨ v1w.heap.size ≤ v1w.heap.size := .inr P.2
  replace b0 := below_step b0 bzZP
  replace P := owned_next P bzZP
  clear bzZP
  generalize v1w.alloc (.cells #[.slice av1 c.1.length cv1, .slice bv1 c.2.length dv1] 27) = v2w at b0 ZP P ⊢
  refine (CIM.out _).mono ?_
  rintro e v3w ⟨av2, cv2, bv2, dv2, rfl, mm⟩
  have GZP : v1w.heap.size < v2w.heap.size ∨ v3w.heap.size ≤ v1w.heap.size := .inl (Array.getElem?_eq_some_iff.1 ZP).1
  have PG : v1w.heap.size ≤ v2w.heap.size := P.2
  have Glo : w.heap.size ≤ v2w.heap.size := b0.size
  have G := owned_made (R := cacheR) mm
  have mbG := mm.2
  replace b0 := below_step b0 mbG
  replace ZP := row_keep mbG ZP
  replace P := owned_next P mbG
  clear mbG mm
  obtain ⟨ZPc0, ZPc1⟩ := cells_two ZP
  have ZPlt := (Array.getElem?_eq_some_iff.1 ZP).1
  go_wp2_with fail
  clear ZPc0 ZPc1 ZPlt
  have ZG := heap_at v3w (.cells #[.slice av2 c.1.length cv2, .slice bv2 c.2.length dv2] 27)
  have bzZG := box_below v3w (.cells #[.slice av2 c.1.length cv2, .slice bv2 c.2.length dv2] 27)
  have PZG : v3w.heap.size < w.heap.size ∨ v1w.heap.size ≤ v3w.heap.size := .inr P.2
  have GZG : v3w.heap.size < v2w.heap.size ∨ v3w.heap.size ≤ v3w.heap.size := .inr G.2
  replace b0 := below_step b0 bzZG
  replace ZP := row_keep bzZG ZP
  replace P := owned_next P bzZG
  replace G := owned_next G bzZG
  clear bzZG
  generalize v3w.alloc (.cells #[.slice av2 c.1.length cv2, .slice bv2 c.2.length dv2] 27) = v4w at b0 ZP ZG P G ⊢
  have S1 := owned_two G
  have S2 := owned_two P
  refine (eqCache_rep c av2 bv2 av1 bv1 cv2 dv2 cv1 dv1 _ S1.1 S1.2 S2.1 S2.2 (by omega)).mono ?_
  clear S1 S2
  rintro e v5w ⟨rfl, bq⟩
  replace b0 := below_step b0 bq
  replace ZP := row_keep bq ZP
  replace ZG := row_keep bq ZG
  replace P := owned_next P bq
  replace G := owned_next G bq
  clear bq
  obtain ⟨ZPc0, ZPc1⟩ := cells_two ZP
  have ZPlt := (Array.getElem?_eq_some_iff.1 ZP).1
  obtain ⟨ZGc0, ZGc1⟩ := cells_two ZG
  have ZGlt := (Array.getElem?_eq_some_iff.1 ZG).1
  go_wp2_with fail
  clear ZPc0 ZPc1 ZPlt ZGc0 ZGc1 ZGlt
  refine (markCache_rep _ _ _ 1 c _ (by decide) (by decide) (by omega) (by omega) G.1).mono ?_
  rintro e v6w ⟨rfl, gm, ch⟩
  replace b0 := chg_b0 b0 ch Glo
  replace ZP := row_chg ZP ch GZP
  replace ZG := row_chg ZG ch GZG
  replace P := owned_chg P ch (.inl PG)
  have GM := And.intro gm (Nat.le_trans G.2 ch.size)
  clear ch G gm
  replace GM : Owned cacheR (v2w.heap.size) (v3w.heap.size) v6w [.slice av2 c.1.length cv2, .slice bv2 c.2.length dv2] (markC 1 c) := GM
  obtain ⟨ZPc0, ZPc1⟩ := cells_two ZP
  have ZPlt := (Array.getElem?_eq_some_iff.1 ZP).1
  obtain ⟨ZGc0, ZGc1⟩ := cells_two ZG
  have ZGlt := (Array.getElem?_eq_some_iff.1 ZG).1
  go_wp2_with fail
  clear ZPc0 ZPc1 ZPlt ZGc0 ZGc1 ZGlt
  have S1 := owned_two (c := markC 1 c) (a := av2) (b := bv2) (cap := cv2) (cp := dv2) (by rw [HM1.out, HM2.out]; exact GM)
  refine (heldCache_rep av2 bv2 cv2 dv2 1 c _ (by decide) (by decide) (by omega) (by omega) S1.1 S1.2).mono ?_
  clear S1
  rintro e v7w ⟨rfl, bq⟩
  replace b0 := below_step b0 bq
  replace ZP := row_keep bq ZP
  replace ZG := row_keep bq ZG
  replace P := owned_next P bq
  replace GM := owned_next GM bq
  clear bq
  obtain ⟨ZPc0, ZPc1⟩ := cells_two ZP
  have ZPlt := (Array.getElem?_eq_some_iff.1 ZP).1
  obtain ⟨ZGc0, ZGc1⟩ := cells_two ZG
  have ZGlt := (Array.getElem?_eq_some_iff.1 ZG).1
  go_wp2_with fail
  clear ZPc0 ZPc1 ZPlt ZGc0 ZGc1 ZGlt
  refine (CIM.out _).mono ?_
  rintro e v8w ⟨av3, cv3, bv3, dv3, rfl, mm⟩
  have HZP : v1w.heap.size < v7w.heap.size ∨ v8w.heap.size ≤ v1w.heap.size := .inl (Array.getElem?_eq_some_iff.1 ZP).1
  have HZG : v3w.heap.size < v7w.heap.size ∨ v8w.heap.size ≤ v3w.heap.size := .inl (Array.getElem?_eq_some_iff.1 ZG).1
  have PH : v1w.heap.size ≤ v7w.heap.size := P.2
  have GMH : v3w.heap.size ≤ v7w.heap.size := GM.2
  have Hlo : w.heap.size ≤ v7w.heap.size := b0.size
  have H := owned_made (R := cacheR) mm
  have mbH := mm.2
  replace b0 := below_step b0 mbH
  replace ZP := row_keep mbH ZP
  replace ZG := row_keep mbH ZG
  replace P := owned_next P mbH
  replace GM := owned_next GM mbH
  clear mbH mm
  obtain ⟨ZPc0, ZPc1⟩ := cells_two ZP
  have ZPlt := (Array.getElem?_eq_some_iff.1 ZP).1
  obtain ⟨ZGc0, ZGc1⟩ := cells_two ZG
  have ZGlt := (Array.getElem?_eq_some_iff.1 ZG).1
  go_wp2_with fail
  clear ZPc0 ZPc1 ZPlt ZGc0 ZGc1 ZGlt
  have ZH := heap_at v8w (.cells #[.slice av3 c.1.length cv3, .slice bv3 c.2.length dv3] 27)
  have bzZH := box_below v8w (.cells #[.slice av3 c.1.length cv3, .slice bv3 c.2.length dv3] 27)
  have PZH : v8w.heap.size < w.heap.size ∨ v1w.heap.size ≤ v8w.heap.size := .inr P.2
  have GMZH : v8w.heap.size < v2w.heap.size ∨ v3w.heap.size ≤ v8w.heap.size := .inr GM.2
  have HZH : v8w.heap.size < v7w.heap.size ∨ v8w.heap.size ≤ v8w.heap.size := .inr H.2
  replace b0 := below_step b0 bzZH
  replace ZP := row_keep bzZH ZP
  replace ZG := row_keep bzZH ZG
  replace P := owned_next P bzZH
  replace GM := owned_next GM bzZH
  replace H := owned_next H bzZH
  clear bzZH
  generalize v8w.alloc (.cells #[.slice av3 c.1.length cv3, .slice bv3 c.2.length dv3] 27) = v9w at b0 ZP ZG ZH P GM H ⊢
  have S1 := owned_two H
  have S2 := owned_two P
  refine (eqCache_rep c av3 bv3 av1 bv1 cv3 dv3 cv1 dv1 _ S1.1 S1.2 S2.1 S2.2 (by omega)).mono ?_
  clear S1 S2
  rintro e v10w ⟨rfl, bq⟩
  replace b0 := below_step b0 bq
  replace ZP := row_keep bq ZP
  replace ZG := row_keep bq ZG
  replace ZH := row_keep bq ZH
  replace P := owned_next P bq
  replace GM := owned_next GM bq
  replace H := owned_next H bq
  clear bq
  obtain ⟨ZPc0, ZPc1⟩ := cells_two ZP
  have ZPlt := (Array.getElem?_eq_some_iff.1 ZP).1
  obtain ⟨ZGc0, ZGc1⟩ := cells_two ZG
  have ZGlt := (Array.getElem?_eq_some_iff.1 ZG).1
  obtain ⟨ZHc0, ZHc1⟩ := cells_two ZH
  have ZHlt := (Array.getElem?_eq_some_iff.1 ZH).1
  go_wp2_with fail
  clear ZPc0 ZPc1 ZPlt ZGc0 ZGc1 ZGlt ZHc0 ZHc1 ZHlt
  have S1 := owned_two (c := markC 1 c) (a := av2) (b := bv2) (cap := cv2) (cp := dv2) (by rw [HM1.out, HM2.out]; exact GM)
  refine (heldCache_rep av2 bv2 cv2 dv2 1 c _ (by decide) (by decide) (by omega) (by omega) S1.1 S1.2).mono ?_
  clear S1
  rintro e v11w ⟨rfl, bq⟩
  replace b0 := below_step b0 bq
  replace ZP := row_keep bq ZP
  replace ZG := row_keep bq ZG
  replace ZH := row_keep bq ZH
  replace P := owned_next P bq
  replace GM := owned_next GM bq
  replace H := owned_next H bq
  clear bq
  clear P GM H ZP ZG ZH
  go_wp2
  go_ret
  exact ⟨rfl, b0⟩

set_option maxRecDepth 100000 in
theorem lifted (os : Os) (started : os.Started) (H : Type) (enc : TypeId × Value → H) :
    ReturnsInHanded {} Try.checked os 6 .any (Rows.fnExactNewCacheSpec.pre6 enc Try.prog Try.f6 Rows.fnExactNewCacheRow.domain false) (Rows.fnExactNewCacheSpec.post enc Try.prog Try.f6 false true false false) := by
  refine returnsInHanded_of_change (C := Try.checked) own started (by kernel_rfl) Try.func6
    (ChangeSpec.witness6 (enc := enc) (C := Try.checked) false ⟨#[], #[.int .i64 0, .int .i64 0], []⟩ 8 (by kernel_rfl) (by kernel_rfl) (by kernel_rfl) (by kernel_rfl)) ?_
  intro W base args ds gs before hval0 hW hcnd _
  have hval : ∀ (j : Nat) t v, Try.f6.params[j]? = some t → args[j]? = some v → Value.okWide Try.prog W .any base t v := hval0
  have hW' := hW
  obtain ⟨p, q, hA0, hV, rfl, hfz, hnd⟩ := hW
  have hA : DataW.TrodAll enc Try.prog W 0 (fun _ => true) true Try.f6.params.toList args.toList ds p := hA0
  rw [Try.params6] at hA hval
  obtain ⟨v0, vs0, d0, ds0, p0, q0, hargs, rfl, rfl, h0, r0⟩ := trodAll_cons hA
  obtain ⟨v1, vs1, d1, ds1, p1, q1, rfl, rfl, rfl, h1, r1⟩ := trodAll_cons r0
  obtain ⟨rfl, rfl, rfl⟩ := trodAll_nil r1
  obtain rfl : args = #[v0, v1] := by cases args; simp_all
  obtain ⟨rfl, rfl⟩ := trodVars_none hV
  have k0 := h0
  have lt0 : ∀ x ∈ p0, x.block < W.heap.size := by obtain ⟨m, hm⟩ := k0; exact DataW.trod_lt m _ _ _ hm
  have k1 := h1
  have lt1 : ∀ x ∈ p1, x.block < W.heap.size := by obtain ⟨m, hm⟩ := k1; exact DataW.trod_lt m _ _ _ hm
  obtain ⟨a0, rfl, e0, f0, w0⟩ := open_int Try.underlying2 (hval 0 2 v0 rfl rfl) h0
  obtain ⟨a1, rfl, e1, f1, w1⟩ := open_int Try.underlying2 (hval 1 2 v1 rfl rfl) h1
  clear hA0 hval0
  refine (walk a0 w0 a1 w1 W).mono fun e W' ⟨he, bel⟩ => ?_
  subst he
  exact ⟨_, rfl, _, _, _, [], _, [], hW', trodAll_mk1 (shut_bool Try.underlying4 _), (trodAll_cons_mk (Below.trod laidOut (by kernel_rfl) (of_decide_eq_true (by kernel_rfl)) k0 bel lt0) (trodAll_cons_mk (Below.trod laidOut (by kernel_rfl) (of_decide_eq_true (by kernel_rfl)) k1 bel lt1) trodAll_mk0)), rfl, bel.frame _, fun h => by cases h⟩

theorem over : Rows.fnExactNewCacheRow.holds Try.pinned (OpenSpec.ofChange Rows.fnExactNewCacheSpec) :=
  OpenClaim.holds_of_wide 6 Try.f6 rfl rfl rfl rfl rfl rfl rfl ⟨rfl, rfl, rfl, rfl, rfl⟩ rfl rfl rfl rfl rfl (by kernel_rfl) Try.func6 (by kernel_rfl)
    (of_decide_eq_true (by kernel_rfl)) (by unfold Func.isWrapper; first | (rw [if_pos (by decide +kernel)]; kernel_rfl) | (rw [if_neg (by decide +kernel)]; exact ⟨rfl, rfl⟩))
    (fun os started H enc _ => lifted os started H enc)

theorem proved : Rows.FnExactNewCacheSaid :=
  over
#print axioms proved
end Go.Proofs.Ytfpbchohfkbpbaa.fnExactNewCache
