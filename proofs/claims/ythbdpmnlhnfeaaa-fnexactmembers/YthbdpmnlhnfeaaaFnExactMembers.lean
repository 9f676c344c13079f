/- At every set, impl.Members answers as spec.Members does, in memory of its own, behind another call too: the law FnExactMembers returns true and changes nothing that was there. No condition. -/
import Derived.Test.YthbdpmnlhnfeaaaRows
import Derived.Test.YthbdpmnlhnfeaaaMembers
import Derived.Test.YthbdpmnlhnfeaaaLists
import Derived.WalkKit
import Derived.ProofKit
import Derived.OpenShut
import Derived.ShutString
import Derived.Below
namespace Go.Proofs.Ythbdpmnlhnfeaaa.fnExactMembers
open Go.ChangeShapes Go.WideShapes Go.ChangeAt Go.RowKit
open Go.ChangeMaps (open_string shut_string)
set_option linter.unusedVariables false

theorem own : ownKnob Try.prog.godebug = none := by kernel_rfl

set_option maxHeartbeats 1000000 in
theorem walk (a0 : Int) (w0 : (Lit.int .i64 a0).wf = true) (w : World) :
    Calls Try.prog 8 #[.int .i64 a0] w fun e w' => e = .returned (.bool true) ∧ Below w.heap.size w w' := by
  have hle : (mems a0 8).length ≤ 8 := mems_le a0 8
  go_enter Try.func8, Try.ntmps8
  go_wp2_with fail
  refine (specMembers_any _ _).mono ?_
  rintro e w1 ⟨g0, c0, rfl, l0, l0', own0, b1⟩
  go_wp2_with fail
  refine (implMembers_any _ _).mono ?_
  rintro e w2 ⟨g1, c1, rfl, l1, l1', own1, b2⟩
  have own02 := own_below own0 b2 l0'
  go_wp2_with fail
  refine (eqInts_any _ _ (mems a0 8) _ _ _ (reads_own own1) (reads_own own02) (by omega)).mono ?_
  rintro e w3 ⟨rfl, n3, rfl⟩
  go_wp2_with fail
  refine (mark_any _ _ _ _ _ _ _ _ (by omega) (by omega) (by omega) (own_drewN own1)).mono ?_
  rintro e w4 ⟨rfl, own14, gr4⟩
  have own04 := own_grown (own_drewN (k := n3) own02) gr4 (by omega)
  go_wp2_with fail
  refine (held_any _ _ _ _ _ (by omega) (by omega) (by omega) (reads_own own14)).mono ?_
  rintro e w5 ⟨rfl, rfl⟩
  go_wp2_with fail
  refine (implMembers_any _ _).mono ?_
  rintro e w6 ⟨g2, c2, rfl, l2, l2', own2, b6⟩
  have s4 := gr4.size
  simp only [World.heap_drewN] at s4
  have own16 := own_below own14 b6 (by omega)
  have own06 := own_below own04 b6 (by omega)
  go_wp2_with fail
  refine (eqInts_any _ _ (mems a0 8) _ _ _ (reads_own own2) (reads_own own06) (by omega)).mono ?_
  rintro e w7 ⟨rfl, n7, rfl⟩
  go_wp2_with fail
  refine (held_any _ _ _ _ _ (by omega) (by omega) (by omega) (reads_own (own_drewN own16))).mono ?_
  rintro e w8 ⟨rfl, rfl⟩
  go_wp2
  go_ret
  have s1 := b1.size
  have s2 := b2.size
  have B2 : Below w.heap.size w w2 := b1.trans (b2.mono s1)
  have B4 : Below w.heap.size w w5 := (below_drewN B2 n3).grown gr4 (by simp; omega) (by intro k hk; cases hk; omega)
  exact ⟨rfl, below_drewN (B4.trans (b6.mono (by omega))) n7⟩

set_option maxRecDepth 100000 in
theorem lifted (os : Os) (started : os.Started) (H : Type) (enc : TypeId × Value → H) :
    ReturnsInHanded {} Try.checked os 8 .any (Rows.fnExactMembersSpec.pre6 enc Try.prog Try.f8 Rows.fnExactMembersRow.domain false) (Rows.fnExactMembersSpec.post enc Try.prog Try.f8 false true false false) := by
  refine returnsInHanded_of_change (C := Try.checked) own started (by kernel_rfl) Try.func8
    (ChangeSpec.witness6 (enc := enc) (C := Try.checked) false ⟨#[], #[.int .i64 0], []⟩ 8 (by kernel_rfl) (by kernel_rfl) (by kernel_rfl) (by kernel_rfl)) ?_
  intro W base args ds gs before hval0 hW hcnd _
  have hval : ∀ (j : Nat) t v, Try.f8.params[j]? = some t → args[j]? = some v → Value.okWide Try.prog W .any base t v := hval0
  have hW' := hW
  obtain ⟨p, q, hA0, hV, rfl, hfz, hnd⟩ := hW
  have hA : DataW.TrodAll enc Try.prog W 0 (fun _ => true) true Try.f8.params.toList args.toList ds p := hA0
  rw [Try.params8] at hA hval
  obtain ⟨v0, vs0, d0, ds0, p0, q0, hargs, rfl, rfl, h0, r0⟩ := trodAll_cons hA
  obtain ⟨rfl, rfl, rfl⟩ := trodAll_nil r0
  obtain rfl : args = #[v0] := by cases args; simp_all
  obtain ⟨rfl, rfl⟩ := trodVars_none hV
  obtain ⟨a0, rfl, rfl, rfl, w0⟩ := open_int Try.underlying2 (hval 0 2 v0 rfl rfl) h0
  clear hA0 hval0
  simp only [List.append_nil] at hW'
  refine (walk a0 w0 W).mono fun e W' ⟨he, hg⟩ => ?_
  subst he
  exact ⟨_, rfl, _, _, _, [], [], [], hW', (trodAll_cons_mk (shut_bool Try.underlying4 _) trodAll_mk0), (trodAll_cons_mk (shut_int Try.underlying2 w0) trodAll_mk0), rfl, hg.frame _, fun h => by cases h⟩

theorem over : Rows.fnExactMembersRow.holds Try.pinned (OpenSpec.ofChange Rows.fnExactMembersSpec) :=
  OpenClaim.holds_of_wide 8 Try.f8 rfl rfl rfl rfl rfl rfl rfl ⟨rfl, rfl, rfl, rfl, rfl⟩ rfl rfl rfl rfl rfl (by kernel_rfl) Try.func8 (by kernel_rfl)
    (of_decide_eq_true (by kernel_rfl)) (by unfold Func.isWrapper; first | (rw [if_pos (by decide +kernel)]; kernel_rfl) | (rw [if_neg (by decide +kernel)]; exact ⟨rfl, rfl⟩))
    (fun os started H enc _ => lifted os started H enc)

theorem proved : Rows.FnExactMembersSaid :=
  over
#print axioms proved
end Go.Proofs.Ythbdpmnlhnfeaaa.fnExactMembers
