/- At every number, impl.NewMemory answers as spec.NewMemory does, in memory of its own, behind another call too: the law FnExactNewMemory returns true and changes nothing that was there. No condition. -/
import Derived.Test.YteepmhcpjjgihaaRows
import Derived.Test.YteepmhcpjjgihaaMemsB
import Derived.WalkKit
import Derived.ProofKit
import Derived.OpenShut
import Derived.ShutString
import Derived.ChangeOld
import Derived.Below
import Derived.Carry
import Derived.Lib.SmallJoins
namespace Go.Proofs.Yteepmhcpjjgihaa.fnExactNewMemory
open Go.ChangeShapes Go.WideShapes Go.ChangeAt Go.RowKit Go.Joins
open Go.ChangeMaps (open_string shut_string)
set_option linter.unusedVariables false

theorem own : ownKnob Try.prog.godebug = none := by kernel_rfl
theorem laidOut : laidOutB Try.prog = true := by kernel_rfl

theorem tot_rep (n k : Nat) (xs : List Int) (h : xs.length = k) : tot (List.replicate n xs) = n * k := by
  induction n with
  | zero => simp [tot]
  | succ n ih =>
    have : tot (List.replicate (n + 1) xs) = xs.length + tot (List.replicate n xs) := by simp [tot, List.replicate_succ]
    rw [this, ih, h, Nat.succ_mul]
    omega
theorem newM_small (n : Int) : (newM n).length ≤ 16 ∧ tot (newM n) ≤ 32 := by
  unfold newM
  cases h : betw n 1 16
  · simp [tot]
  · have hb : n.toNat ≤ 16 := by simp [betw] at h; omega
    simp only [if_true]
    rw [tot_rep n.toNat 2 [0, 0] rfl, List.length_replicate]
    omega
set_option maxHeartbeats 2000000 in
theorem walk (a0 : Int) (w0 : (Lit.int .i64 a0).wf = true) (w : World) :
    Calls Try.prog 5 #[.int .i64 a0] w fun e w' => e = .returned (.bool true) ∧ Below w.heap.size w w' := by
  obtain ⟨hl, ht⟩ := newM_small a0
  have hk1 : ¬ ((1 : Int) + (tot (newM a0) : Int) < 0) := by omega
  go_enter Try.func5, Try.ntmps5
  go_wp2_with fail
  refine (specNewMemory_any _ _).mono ?_
  rintro e w1 ⟨v, rfl, g1, c1, rfl, l1, l1', o1, b1⟩
  have s1 := b1.size
  go_wp2_with fail
  refine (implNewMemory_any _ _).mono ?_
  rintro e w2 ⟨v, rfl, g2, c2, rfl, l2, l2', o2, b2⟩
  replace o1 := ownM_below o1 b2 (Nat.le_refl _)
  have BB := below_step b1 b2
  have s2 := b2.size
  clear b1 b2 l1 l1' l2 l2'
  go_wp2_with fail
  refine (eqRows_any _ _ (newM a0) _ _ _ (readsM_own o2) (readsM_own o1) (by omega) (by omega)).mono ?_
  rintro e w3 ⟨rfl, n3, rfl⟩
  replace o1 := ownM_drewN (k := n3) o1
  replace o2 := ownM_drewN (k := n3) o2
  replace BB := below_drewN BB n3
  have s3 : (w2.drewN n3).heap.size = w2.heap.size := rfl
  generalize w2.drewN n3 = w3 at o1 o2 BB s3 ⊢
  go_wp2_with fail
  refine (markRows_any _ _ _ _ 1 (newM a0) _ (by omega) (by omega) (by omega) (by omega) o2).mono ?_
  rintro e w4 ⟨rfl, o4, in4⟩
  replace o1 := ownM_inside o1 in4 (.inl (Nat.le_refl _))
  replace BB := inside_below BB in4 s1 BB.size
  have s4 := in4.size
  clear in4 o2
  go_wp2_with fail
  refine (heldRows_any _ _ 1 (newM a0) _ (by omega) (by omega) (by omega) (by omega) (readsM_own o4)).mono ?_
  rintro e w5 ⟨rfl, hw5⟩
  rw [hw5]
  clear hw5 w5
  go_wp2_with fail
  refine (implNewMemory_any _ _).mono ?_
  rintro e w6 ⟨v, rfl, g6, c6, rfl, l6, l6', o6, b6⟩
  replace o1 := ownM_below o1 b6 (by omega)
  replace o4 := ownM_below o4 b6 (by omega)
  replace BB := below_step BB b6
  clear b6 l6 l6'
  go_wp2_with fail
  refine (eqRows_any _ _ (newM a0) _ _ _ (readsM_own o6) (readsM_own o1) (by omega) (by omega)).mono ?_
  rintro e w7 ⟨rfl, n7, rfl⟩
  replace o4 := ownM_drewN (k := n7) o4
  replace BB := below_drewN BB n7
  generalize w6.drewN n7 = w7 at o4 BB ⊢
  clear o1 o6
  go_wp2_with fail
  refine (heldRows_any _ _ 1 (newM a0) _ (by omega) (by omega) (by omega) (by omega) (readsM_own o4)).mono ?_
  rintro e w8 ⟨rfl, hw8⟩
  rw [hw8]
  clear hw8 w8
  go_wp2
  go_ret
  exact ⟨rfl, BB⟩

set_option maxRecDepth 100000 in
theorem lifted (os : Os) (started : os.Started) (H : Type) (enc : TypeId × Value → H) :
    ReturnsInHanded {} Try.checked os 5 .any (Rows.fnExactNewMemorySpec.pre6 enc Try.prog Try.f5 Rows.fnExactNewMemoryRow.domain false) (Rows.fnExactNewMemorySpec.post enc Try.prog Try.f5 false true false false) := by
  refine returnsInHanded_of_change (C := Try.checked) own started (by kernel_rfl) Try.func5
    (ChangeSpec.witness6 (enc := enc) (C := Try.checked) false ⟨#[], #[.int .i64 0], []⟩ 8 (by kernel_rfl) (by kernel_rfl) (by kernel_rfl) (by kernel_rfl)) ?_
  intro W base args ds gs before hval0 hW hcnd _
  have hval : ∀ (j : Nat) t v, Try.f5.params[j]? = some t → args[j]? = some v → Value.okWide Try.prog W .any base t v := hval0
  have hW' := hW
  obtain ⟨p, q, hA0, hV, rfl, hfz, hnd⟩ := hW
  have hA : DataW.TrodAll enc Try.prog W 0 (fun _ => true) true Try.f5.params.toList args.toList ds p := hA0
  rw [Try.params5] at hA hval
  obtain ⟨v0, vs0, d0, ds0, p0, q0, hargs, rfl, rfl, h0, r0⟩ := trodAll_cons hA
  obtain ⟨rfl, rfl, rfl⟩ := trodAll_nil r0
  obtain rfl : args = #[v0] := by cases args; simp_all
  obtain ⟨rfl, rfl⟩ := trodVars_none hV
  have k0 := h0
  have lt0 : ∀ x ∈ p0, x.block < W.heap.size := by obtain ⟨m, hm⟩ := k0; exact DataW.trod_lt m _ _ _ hm
  obtain ⟨a0, rfl, e0, f0, w0⟩ := open_int Try.underlying2 (hval 0 2 v0 rfl rfl) h0
  clear hA0 hval0
  refine (walk a0 w0 W).mono fun e W' ⟨he, bel⟩ => ?_
  subst he
  exact ⟨_, rfl, _, _, _, [], _, [], hW', trodAll_mk1 (shut_bool Try.underlying4 _), (trodAll_cons_mk (Below.trod laidOut (by kernel_rfl) (of_decide_eq_true (by kernel_rfl)) k0 bel lt0) trodAll_mk0), rfl, bel.frame _, fun h => by cases h⟩

theorem over : Rows.fnExactNewMemoryRow.holds Try.pinned (OpenSpec.ofChange Rows.fnExactNewMemorySpec) :=
  OpenClaim.holds_of_wide 5 Try.f5 rfl rfl rfl rfl rfl rfl rfl ⟨rfl, rfl, rfl, rfl, rfl⟩ rfl rfl rfl rfl rfl (by kernel_rfl) Try.func5 (by kernel_rfl)
    (of_decide_eq_true (by kernel_rfl)) (by unfold Func.isWrapper; first | (rw [if_pos (by decide +kernel)]; kernel_rfl) | (rw [if_neg (by decide +kernel)]; exact ⟨rfl, rfl⟩))
    (fun os started H enc _ => lifted os started H enc)

theorem proved : Rows.FnExactNewMemorySaid :=
  over
#print axioms proved
end Go.Proofs.Yteepmhcpjjgihaa.fnExactNewMemory
