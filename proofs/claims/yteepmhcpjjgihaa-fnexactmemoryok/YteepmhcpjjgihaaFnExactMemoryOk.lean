/- At every list of lists, impl.MemoryOk answers as spec.MemoryOk does and writes into no argument: the law FnExactMemoryOk returns true and changes nothing that was there. No condition. -/
import Derived.Test.YteepmhcpjjgihaaRows
import Derived.Test.YteepmhcpjjgihaaOpenRows
import Derived.Test.YteepmhcpjjgihaaMemsB
import Derived.WalkKit
import Derived.ProofKit
import Derived.OpenShut
import Derived.ShutString
import Derived.ChangeOld
import Derived.Below
import Derived.Carry
import Derived.Lib.SmallJoins
namespace Go.Proofs.Yteepmhcpjjgihaa.fnExactMemoryOk
open Go.ChangeShapes Go.WideShapes Go.ChangeAt Go.RowKit Go.Joins
open Go.ChangeMaps (open_string shut_string)
set_option linter.unusedVariables false

theorem own : ownKnob Try.prog.godebug = none := by kernel_rfl
theorem laidOut : laidOutB Try.prog = true := by kernel_rfl

set_option maxHeartbeats 2000000 in
theorem walk (a0 : Option Addr) (len0 cap0 : Nat) (x0 : List (List Int)) (w : World) (w0 : IsRows w a0 len0 x0) :
    Calls Try.prog 4 #[.slice a0 len0 cap0] w fun e w' => e = .returned (.bool true) ∧ Below w.heap.size w w' := by
  obtain ⟨hr, rfl, hm, hm2⟩ := w0
  go_enter Try.func4, Try.ntmps4
  go_wp2_with fail
  refine (szRows_any _ x0 _ _ hr hm hm2).mono ?_
  rintro e w1 ⟨q, rfl, hq, hw1⟩
  rw [hw1]
  clear hw1 w1
  rcases hq with hq | ⟨hq, hl, ht⟩
  · go_wp2
    go_ret
    exact ⟨rfl, Below.refl _ _⟩
  · have hq' : ¬ q < 0 := by omega
    clear hm hm2
    have HR : Hid (ReadsM w a0 x0) := hr
    clear hr
    go_wp2_with fail
    refine (toRows_any _ x0 _ _ HR.out hl ht).mono ?_
    rintro e w1 ⟨v, rfl, g1, c1, rfl, l1, l1', o1, b1⟩
    go_wp2_with fail
    refine (specMemoryOk_any _ x0 _ _ (readsM_own o1) (by omega)).mono ?_
    rintro e w2 ⟨rfl, hw2⟩
    rw [hw2]
    clear hw2 w2 o1 l1 l1'
    go_wp2_with fail
    refine (toRows_any _ x0 _ _ (readsM_below HR.out b1) hl ht).mono ?_
    rintro e w3 ⟨v, rfl, g3, c3, rfl, l3, l3', o3, b3⟩
    have B3 := below_step b1 b3
    clear b1 b3
    go_wp2_with fail
    refine (implMemoryOk_any _ x0 _ _ (readsM_own o3) (by omega)).mono ?_
    rintro e w4 ⟨rfl, b4⟩
    have o4 := ownM_below o3 b4 (Nat.le_refl _)
    have B4 := below_step B3 b4
    clear b4 o3 B3 l3 l3'
    go_wp2_with fail
    refine (toRows_any _ x0 _ _ (readsM_below HR.out B4) hl ht).mono ?_
    rintro e w5 ⟨v, rfl, g5, c5, rfl, l5, l5', o5, b5⟩
    have hi4 := (ownM_lt o4)
    have r5 := readsM_below (readsM_own o4) b5
    have B5 := below_step B4 b5
    clear b5 o4 B4
    go_wp2_with fail
    refine (eqRows_any _ _ x0 _ _ _ r5 (readsM_own o5) (by omega) (by omega)).mono ?_
    rintro e w6 ⟨rfl, n6, rfl⟩
    have B6 := below_drewN B5 n6
    clear r5 o5 B5
    go_wp2
    go_ret
    exact ⟨rfl, B6⟩

set_option maxRecDepth 100000 in
theorem lifted (os : Os) (started : os.Started) (H : Type) (enc : TypeId × Value → H) :
    ReturnsInHanded {} Try.checked os 4 .any (Rows.fnExactMemoryOkSpec.pre6 enc Try.prog Try.f4 Rows.fnExactMemoryOkRow.domain false) (Rows.fnExactMemoryOkSpec.post enc Try.prog Try.f4 false true false false) := by
  refine returnsInHanded_of_change (C := Try.checked) own started (by kernel_rfl) Try.func4
    (ChangeSpec.witness6 (enc := enc) (C := Try.checked) false ⟨#[], #[.slice none 0 0], []⟩ 8 (by kernel_rfl) (by kernel_rfl) (by kernel_rfl) (by kernel_rfl)) ?_
  intro W base args ds gs before hval0 hW hcnd _
  have hval : ∀ (j : Nat) t v, Try.f4.params[j]? = some t → args[j]? = some v → Value.okWide Try.prog W .any base t v := hval0
  have hW' := hW
  obtain ⟨p, q, hA0, hV, rfl, hfz, hnd⟩ := hW
  have hA : DataW.TrodAll enc Try.prog W 0 (fun _ => true) true Try.f4.params.toList args.toList ds p := hA0
  rw [Try.params4] at hA hval
  obtain ⟨v0, vs0, d0, ds0, p0, q0, hargs, rfl, rfl, h0, r0⟩ := trodAll_cons hA
  obtain ⟨rfl, rfl, rfl⟩ := trodAll_nil r0
  obtain rfl : args = #[v0] := by cases args; simp_all
  obtain ⟨rfl, rfl⟩ := trodVars_none hV
  have k0 := h0
  have lt0 : ∀ x ∈ p0, x.block < W.heap.size := by obtain ⟨m, hm⟩ := k0; exact DataW.trod_lt m _ _ _ hm
  obtain ⟨a0, len0, cap0, rfl⟩ := okWide_slice Try.underlying24 (hval 0 24 v0 rfl rfl)
  obtain ⟨x0, w0⟩ : ∃ xss, IsRows W a0 len0 xss := by
    obtain ⟨fuel, hf⟩ := h0
    rcases Go.Deep.open_int_rows Try.underlying24 Try.underlying25 Try.underlying2 (by kernel_rfl) (by kernel_rfl) hf with ⟨hcs, _⟩ | ⟨x, l, c, A, L, C, Z, hcs, _, hl, hm, _, hr⟩
    · simp [Value.cells] at hcs
      obtain ⟨rfl, rfl, rfl⟩ := hcs
      exact ⟨[], isRows_nil _ _⟩
    · simp [Value.cells] at hcs
      obtain ⟨rfl, rfl, rfl⟩ := hcs
      exact isRows_open hl hm hr
  clear hA0 hval0
  refine (walk a0 len0 cap0 x0 W w0).mono fun e W' ⟨he, bel⟩ => ?_
  subst he
  exact ⟨_, rfl, _, _, _, [], _, [], hW', trodAll_mk1 (shut_bool Try.underlying4 _), (trodAll_cons_mk (Below.trod laidOut (by kernel_rfl) (of_decide_eq_true (by kernel_rfl)) k0 bel lt0) trodAll_mk0), rfl, bel.frame _, fun h => by cases h⟩

theorem over : Rows.fnExactMemoryOkRow.holds Try.pinned (OpenSpec.ofChange Rows.fnExactMemoryOkSpec) :=
  OpenClaim.holds_of_wide 4 Try.f4 rfl rfl rfl rfl rfl rfl rfl ⟨rfl, rfl, rfl, rfl, rfl⟩ rfl rfl rfl rfl rfl (by kernel_rfl) Try.func4 (by kernel_rfl)
    (of_decide_eq_true (by kernel_rfl)) (by unfold Func.isWrapper; first | (rw [if_pos (by decide +kernel)]; kernel_rfl) | (rw [if_neg (by decide +kernel)]; exact ⟨rfl, rfl⟩))
    (fun os started H enc _ => lifted os started H enc)

theorem proved : Rows.FnExactMemoryOkSaid :=
  over
#print axioms proved
end Go.Proofs.Yteepmhcpjjgihaa.fnExactMemoryOk
