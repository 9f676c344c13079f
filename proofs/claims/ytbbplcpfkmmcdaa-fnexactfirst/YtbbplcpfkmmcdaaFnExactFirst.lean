/- At every net and every number, impl.First answers as spec.First does and writes into no argument: the law FnExactFirst returns true and changes nothing that was there. No condition. -/
import Derived.Test.YtbbplcpfkmmcdaaRows
import Derived.Test.YtbbplcpfkmmcdaaImplFirst
import Derived.WalkKit
import Derived.ProofKit
import Derived.OpenShut
import Derived.ShutString
import Derived.ChangeOld
import Derived.Below
import Derived.Carry
import Derived.Lib.SmallJoins
namespace Go.Proofs.Ytbbplcpfkmmcdaa.fnExactFirst
open Go.ChangeShapes Go.WideShapes Go.ChangeAt Go.RowKit Go.Joins
open Go.ChangeMaps (open_string shut_string)
set_option linter.unusedVariables false

theorem own : ownKnob Try.prog.godebug = none := by kernel_rfl
theorem laidOut : laidOutB Try.prog = true := by kernel_rfl

set_option maxHeartbeats 4000000 in
set_option maxRecDepth 100000 in
theorem walk (a0 : Option Addr) (cap0 : Nat) (x0 : RepOf (msgsR)) (a1 : Int) (w1 : (Lit.int .i64 a1).wf = true) (w : World) (w0 : SlRd msgR w a0 x0) (l0 : x0.length ≤ maxLen) :
    Calls Try.prog 7 #[.slice a0 x0.length cap0, .int .i64 a1] w fun e w' => e = .returned (.bool true) ∧ Below w.heap.size w w' := by
  have HR : Hid (∀ W, Below w.heap.size w W → SlRd msgR W a0 x0) := fun W hb => slrd_keep w0 fun k hk => hb.block k hk
  have b0 := Below.refl w.heap.size w
  clear w0
  generalize hqq : (netB x0 && firstB x0 a1) = qq
  have HQ : Hid ((netB x0 && firstB x0 a1) = qq) := hqq
  clear hqq
  go_enter Try.func7, Try.ntmps7
  go_wp2_with fail
  refine (szMsgS_rep a0 x0 cap0 1048576 _ (HR.out _ b0) (by decide) (by decide) l0).mono ?_
  rintro e w2 ⟨rfl, bb⟩
  replace b0 := below_step b0 bb
  clear bb
  by_cases hf : ((msgsM.bk x0 : Nat) : Int) ≤ 1048576
  · have HS : Hid (szI (msgsM.bk x0) 1048576 = 1048576 - (msgsM.bk x0 : Int)) := szI_yes hf
    have hf' : ¬ (1048576 - ((msgsM.bk x0 : Nat) : Int) < 0) := by omega
    have hbk : msgsM.bk x0 ≤ 1048576 := by omega
    rw [HS.out]
    go_wp2_with fail
    refine (toMsgS_rep a0 x0 cap0 _ (HR.out _ b0) hbk).mono ?_
    rintro e w3 ⟨v, rfl, mm⟩
    obtain ⟨av, cv, rfl⟩ := slown_val mm.1
    have S1 := msgs_rd mm.1
    replace b0 := below_step b0 mm.2
    clear mm
    go_wp2_with fail
    have C1 := specFirst_any av x0 cv a1 w3 S1 l0
    rw [HQ.out] at C1
    refine C1.mono ?_
    rintro e w4 ⟨rfl, bb⟩
    replace b0 := below_step b0 bb
    clear bb C1 S1
    go_wp2_with fail
    refine (toMsgS_rep a0 x0 cap0 _ (HR.out _ b0) hbk).mono ?_
    rintro e w5 ⟨v, rfl, mm⟩
    obtain ⟨av2, cv2, rfl⟩ := slown_val mm.1
    have S1 := msgs_rd mm.1
    replace b0 := below_step b0 mm.2
    clear mm
    go_wp2_with fail
    have C1 := implFirst_any av2 x0 cv2 a1 w5 S1 l0
    rw [HQ.out] at C1
    refine C1.mono ?_
    rintro e w6 ⟨rfl, bb⟩
    replace b0 := below_step b0 bb
    replace S1 := slrd_next S1 bb
    clear bb C1
    go_wp2_with fail
    refine (toMsgS_rep a0 x0 cap0 _ (HR.out _ b0) hbk).mono ?_
    rintro e w7 ⟨v, rfl, mm⟩
    obtain ⟨av3, cv3, rfl⟩ := slown_val mm.1
    have S2 := msgs_rd mm.1
    replace b0 := below_step b0 mm.2
    replace S1 := slrd_next S1 mm.2
    clear mm
    go_wp2_with fail
    refine (eqMsgS_rep av2 av3 x0 cv2 cv3 _ S1 S2 (by have : (slM msgM).bk x0 = msgsM.bk x0 := rfl; omega)).mono ?_
    rintro e w8 ⟨rfl, bb⟩
    replace b0 := below_step b0 bb
    clear bb S1 S2
    go_wp2
    go_ret
    exact ⟨rfl, b0⟩
  · have HS : Hid (szI (msgsM.bk x0) 1048576 = -1) := szI_no hf
    rw [HS.out]
    go_wp2
    go_ret
    exact ⟨rfl, b0⟩

set_option maxRecDepth 100000 in
theorem lifted (os : Os) (started : os.Started) (H : Type) (enc : TypeId × Value → H) :
    ReturnsInHanded {} Try.checked os 7 .any (Rows.fnExactFirstSpec.pre6 enc Try.prog Try.f7 Rows.fnExactFirstRow.domain false) (Rows.fnExactFirstSpec.post enc Try.prog Try.f7 false true false false) := by
  refine returnsInHanded_of_change (C := Try.checked) own started (by kernel_rfl) Try.func7
    (ChangeSpec.witness6 (enc := enc) (C := Try.checked) false ⟨#[], #[.slice none 0 0, .int .i64 0], []⟩ 8 (by kernel_rfl) (by kernel_rfl) (by kernel_rfl) (by kernel_rfl)) ?_
  intro W base args ds gs before hval0 hW hcnd _
  have hval : ∀ (j : Nat) t v, Try.f7.params[j]? = some t → args[j]? = some v → Value.okWide Try.prog W .any base t v := hval0
  have hW' := hW
  obtain ⟨p, q, hA0, hV, rfl, hfz, hnd⟩ := hW
  have hA : DataW.TrodAll enc Try.prog W 0 (fun _ => true) true Try.f7.params.toList args.toList ds p := hA0
  rw [Try.params7] at hA hval
  obtain ⟨v0, vs0, d0, ds0, p0, q0, hargs, rfl, rfl, h0, r0⟩ := trodAll_cons hA
  obtain ⟨v1, vs1, d1, ds1, p1, q1, rfl, rfl, rfl, h1, r1⟩ := trodAll_cons r0
  obtain ⟨rfl, rfl, rfl⟩ := trodAll_nil r1
  obtain rfl : args = #[v0, v1] := by cases args; simp_all
  obtain ⟨rfl, rfl⟩ := trodVars_none hV
  have k0 := h0
  have lt0 : ∀ x ∈ p0, x.block < W.heap.size := by obtain ⟨m, hm⟩ := k0; exact DataW.trod_lt m _ _ _ hm
  have k1 := h1
  have lt1 : ∀ x ∈ p1, x.block < W.heap.size := by obtain ⟨m, hm⟩ := k1; exact DataW.trod_lt m _ _ _ hm
  obtain ⟨x0, a0, cap0, hc0, l0, m0, w0⟩ := open_rep opens_msgs h0
  obtain ⟨aa0, len0, cc0, rfl⟩ := okWide_slice Try.underlying42 (hval 0 42 v0 rfl rfl)
  simp only [Value.cells, List.cons.injEq, Value.slice.injEq, and_true] at hc0
  obtain ⟨rfl, rfl, rfl⟩ : a0 = aa0 ∧ x0.length = len0 ∧ cap0 = cc0 := ⟨hc0.1.symm, hc0.2.1.symm, hc0.2.2.symm⟩
  obtain ⟨a1, rfl, e1, f1, w1⟩ := open_int Try.underlying2 (hval 1 2 v1 rfl rfl) h1
  clear hA0 hval0
  refine (walk a0 cap0 x0 a1 w1 W w0 (Nat.le_trans l0 m0)).mono fun e W' ⟨he, bel⟩ => ?_
  subst he
  exact ⟨_, rfl, _, _, _, [], _, [], hW', trodAll_mk1 (shut_bool Try.underlying4 _), (trodAll_cons_mk (Below.trod laidOut (by kernel_rfl) (of_decide_eq_true (by kernel_rfl)) k0 bel lt0) (trodAll_cons_mk (Below.trod laidOut (by kernel_rfl) (of_decide_eq_true (by kernel_rfl)) k1 bel lt1) trodAll_mk0)), rfl, bel.frame _, fun h => by cases h⟩

theorem over : Rows.fnExactFirstRow.holds Try.pinned (OpenSpec.ofChange Rows.fnExactFirstSpec) :=
  OpenClaim.holds_of_wide 7 Try.f7 rfl rfl rfl rfl rfl rfl rfl ⟨rfl, rfl, rfl, rfl, rfl⟩ rfl rfl rfl rfl rfl (by kernel_rfl) Try.func7 (by kernel_rfl)
    (of_decide_eq_true (by kernel_rfl)) (by unfold Func.isWrapper; first | (rw [if_pos (by decide +kernel)]; kernel_rfl) | (rw [if_neg (by decide +kernel)]; exact ⟨rfl, rfl⟩))
    (fun os started H enc _ => lifted os started H enc)

theorem proved : Rows.FnExactFirstSaid :=
  over
#print axioms proved
end Go.Proofs.Ytbbplcpfkmmcdaa.fnExactFirst
