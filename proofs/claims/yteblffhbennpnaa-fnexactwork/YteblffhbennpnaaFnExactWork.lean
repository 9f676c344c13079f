/- At every list of programs and every list of descs, impl.Work answers as spec.Work does and writes into no argument: the law FnExactWork returns true and changes nothing that was there. No condition. -/
import Derived.Test.YteblffhbennpnaaRows
import Derived.Test.YteblffhbennpnaaOwned
import Derived.Test.YteblffhbennpnaaOpSS
import Derived.Test.YteblffhbennpnaaProg11
import Derived.Test.YteblffhbennpnaaImplWork
import Derived.WalkKit
import Derived.ProofKit
import Derived.OpenShut
import Derived.ShutString
import Derived.ChangeOld
import Derived.Below
import Derived.Carry
import Derived.Lib.SmallJoins
namespace Go.Proofs.Yteblffhbennpnaa.fnExactWork
open Go.ChangeShapes Go.WideShapes Go.ChangeAt Go.RowKit Go.Joins
open Go.ChangeMaps (open_string shut_string)
set_option linter.unusedVariables false

theorem own : ownKnob Try.prog.godebug = none := by kernel_rfl
theorem laidOut : laidOutB Try.prog = true := by kernel_rfl

set_option maxHeartbeats 8000000 in
set_option maxRecDepth 100000 in
theorem walk (a0 : Option Addr) (cap0 : Nat) (x0 : RepOf (opssR)) (a1 : Option Addr) (cap1 : Nat) (x1 : RepOf (descsR)) (w : World) (w0 : SlRd opsR w a0 x0) (l0 : x0.length ≤ maxLen) (w1 : SlRd descR w a1 x1) (l1 : x1.length ≤ maxLen) :
    Calls Try.prog 3 #[.slice a0 x0.length cap0, .slice a1 x1.length cap1] w fun e w' => e = .returned (.bool true) ∧ Below w.heap.size w w' := by
  have HR : Hid (∀ W, Below w.heap.size w W → SlRd opsR W a0 x0) := fun W hb => slrd_next w0 hb
  have HT : Hid (∀ W, Below w.heap.size w W → SlRd descR W a1 x1) := fun W hb => slrd_next w1 hb
  clear w0 w1
  have b0 := Below.refl w.heap.size w
  have hll : lensI x0 ≤ (slM opsM).bk x0 := lens_bk x0
  go_enter Try.func3, Try.ntmps3
  go_wp2_with fail
  refine (szOpSS_rep a0 x0 cap0 1048576 _ (HR.out _ b0) (by decide) (by decide) l0).mono ?_
  rintro e w2 ⟨rfl, hw⟩
  rw [hw]
  clear hw w2
  by_cases hf : (((slM opsM).bk x0 : Nat) : Int) ≤ 1048576
  · have HS : Hid (szI ((slM opsM).bk x0) 1048576 = 1048576 - ((slM opsM).bk x0 : Int)) := szI_yes hf
    have hf' : ¬ (1048576 - (((slM opsM).bk x0 : Nat) : Int) < 0) := by omega
    have hbk : (slM opsM).bk x0 ≤ 1048576 := by omega
    rw [HS.out]
    go_wp2_with fail
    refine (szDescS_rep a1 x1 cap1 (1048576 - ((slM opsM).bk x0 : Int)) _ (HT.out _ b0) (by omega) (by omega) l1).mono ?_
    rintro e w3 ⟨rfl, bb⟩
    replace b0 := below_step b0 bb
    clear bb
    by_cases hg : (((slM descM).bk x1 : Nat) : Int) ≤ 1048576 - ((slM opsM).bk x0 : Int)
    · have HS2 : Hid (szI ((slM descM).bk x1) (1048576 - ((slM opsM).bk x0 : Int)) = 1048576 - ((slM opsM).bk x0 : Int) - ((slM descM).bk x1 : Int)) := szI_yes hg
      have hg' : ¬ (1048576 - ((slM opsM).bk x0 : Int) - (((slM descM).bk x1 : Nat) : Int) < 0) := by omega
      have hdk : descsM.bk x1 ≤ 1048576 := by have : (slM descM).bk x1 = descsM.bk x1 := rfl; omega
      have hdl : x1.length ≤ 1048576 := by have : descsM.bk x1 = x1.length + sumbk descM x1 := rfl; omega
      have hpl : x0.length ≤ 1048576 := by have : (slM opsM).bk x0 = x0.length + sumbk opsM x0 := rfl; omega
      rw [HS2.out]
      go_wp2_with fail
      refine (toOpSS_rep a0 x0 cap0 _ (HR.out _ b0) hbk).mono ?_
      rintro e v1w ⟨v, rfl, mm⟩
      obtain ⟨at1, ct1, rfl⟩ := slown_val mm.1
      have Plo : w.heap.size ≤ w3.heap.size := b0.size
      have P := owned_made (R := opssR) mm
      have mbP := mm.2
      replace b0 := below_step b0 mbP
      clear mbP mm
      go_wp2_with fail
      refine (toDescS_rep a1 x1 cap1 _ (HT.out _ b0) hdk).mono ?_
      rintro e v2w ⟨v, rfl, mm⟩
      obtain ⟨at2, ct2, rfl⟩ := slown_val mm.1
      have PQ : v1w.heap.size ≤ v1w.heap.size := P.2
      have Qlo : w.heap.size ≤ v1w.heap.size := b0.size
      have Q := owned_made (R := descsR) mm
      have mbQ := mm.2
      replace b0 := below_step b0 mbQ
      replace P := owned_next P mbQ
      clear mbQ mm
      go_wp2_with fail
      refine (specWork_any at1 x0 ct1 at2 x1.length ct2 _ (opss_rd P.1) (by omega) (by omega)).mono ?_
      rintro e v3w ⟨rfl, hw⟩
      rw [hw]
      clear hw v3w P Q
      go_wp2_with fail
      refine (toOpSS_rep a0 x0 cap0 _ (HR.out _ b0) hbk).mono ?_
      rintro e v4w ⟨v, rfl, mm⟩
      obtain ⟨at3, ct3, rfl⟩ := slown_val mm.1
      have Xlo : w.heap.size ≤ v2w.heap.size := b0.size
      have X := owned_made (R := opssR) mm
      have mbX := mm.2
      replace b0 := below_step b0 mbX
      clear mbX mm
      go_wp2_with fail
      refine (toDescS_rep a1 x1 cap1 _ (HT.out _ b0) hdk).mono ?_
      rintro e v5w ⟨v, rfl, mm⟩
      obtain ⟨at4, ct4, rfl⟩ := slown_val mm.1
      have XY : v4w.heap.size ≤ v4w.heap.size := X.2
      have Ylo : w.heap.size ≤ v4w.heap.size := b0.size
      have Y := owned_made (R := descsR) mm
      have mbY := mm.2
      replace b0 := below_step b0 mbY
      replace X := owned_next X mbY
      clear mbY mm
      go_wp2_with fail
      refine (implWork_any at3 x0 ct3 at4 x1.length ct4 _ (opss_rd X.1) (by omega) (by omega)).mono ?_
      rintro e v6w ⟨rfl, bq⟩
      replace b0 := below_step b0 bq
      replace X := owned_next X bq
      replace Y := owned_next Y bq
      clear bq
      go_wp2_with fail
      refine (toOpSS_rep a0 x0 cap0 _ (HR.out _ b0) hbk).mono ?_
      rintro e v7w ⟨v, rfl, mm⟩
      obtain ⟨at5, ct5, rfl⟩ := slown_val mm.1
      have XZ : v4w.heap.size ≤ v6w.heap.size := X.2
      have YZ : v5w.heap.size ≤ v6w.heap.size := Y.2
      have Zlo : w.heap.size ≤ v6w.heap.size := b0.size
      have Z := owned_made (R := opssR) mm
      have mbZ := mm.2
      replace b0 := below_step b0 mbZ
      replace X := owned_next X mbZ
      replace Y := owned_next Y mbZ
      clear mbZ mm
      go_wp2_with fail
      refine (eqOpSS_rep at3 at5 x0 ct3 ct5 _ (opss_rd X.1) (opss_rd Z.1) (by omega)).mono ?_
      rintro e v8w ⟨rfl, bq⟩
      replace b0 := below_step b0 bq
      replace X := owned_next X bq
      replace Y := owned_next Y bq
      replace Z := owned_next Z bq
      clear bq
      go_wp2_with fail
      refine (toDescS_rep a1 x1 cap1 _ (HT.out _ b0) hdk).mono ?_
      rintro e v9w ⟨v, rfl, mm⟩
      obtain ⟨at6, ct6, rfl⟩ := slown_val mm.1
      have XV : v4w.heap.size ≤ v8w.heap.size := X.2
      have YV : v5w.heap.size ≤ v8w.heap.size := Y.2
      have ZV : v7w.heap.size ≤ v8w.heap.size := Z.2
      have Vlo : w.heap.size ≤ v8w.heap.size := b0.size
      have V := owned_made (R := descsR) mm
      have mbV := mm.2
      replace b0 := below_step b0 mbV
      replace X := owned_next X mbV
      replace Y := owned_next Y mbV
      replace Z := owned_next Z mbV
      clear mbV mm
      go_wp2_with fail
      refine (eqDescS_rep at4 at6 x1 ct4 ct6 _ (descs_rd Y.1) (descs_rd V.1) (by have : (slM descM).bk x1 = descsM.bk x1 := rfl; omega)).mono ?_
      rintro e v10w ⟨rfl, bq⟩
      replace b0 := below_step b0 bq
      replace X := owned_next X bq
      replace Y := owned_next Y bq
      replace Z := owned_next Z bq
      replace V := owned_next V bq
      clear bq
      clear X Y Z V
      go_wp2
      go_ret
      exact ⟨rfl, b0⟩
    · have HS2 : Hid (szI ((slM descM).bk x1) (1048576 - ((slM opsM).bk x0 : Int)) = -1) := szI_no hg
      rw [HS2.out]
      go_wp2
      go_ret
      exact ⟨rfl, b0⟩
  · have HS : Hid (szI ((slM opsM).bk x0) 1048576 = -1) := szI_no hf
    rw [HS.out]
    go_wp2
    go_ret
    exact ⟨rfl, b0⟩

set_option maxRecDepth 100000 in
theorem lifted (os : Os) (started : os.Started) (H : Type) (enc : TypeId × Value → H) :
    ReturnsInHanded {} Try.checked os 3 .any (Rows.fnExactWorkSpec.pre6 enc Try.prog Try.f3 Rows.fnExactWorkRow.domain false) (Rows.fnExactWorkSpec.post enc Try.prog Try.f3 false true false false) := by
  refine returnsInHanded_of_change (C := Try.checked) own started (by kernel_rfl) Try.func3
    (ChangeSpec.witness6 (enc := enc) (C := Try.checked) false ⟨#[], #[.slice none 0 0, .slice none 0 0], []⟩ 8 (by kernel_rfl) (by kernel_rfl) (by kernel_rfl) (by kernel_rfl)) ?_
  intro W base args ds gs before hval0 hW hcnd _
  have hval : ∀ (j : Nat) t v, Try.f3.params[j]? = some t → args[j]? = some v → Value.okWide Try.prog W .any base t v := hval0
  have hW' := hW
  obtain ⟨p, q, hA0, hV, rfl, hfz, hnd⟩ := hW
  have hA : DataW.TrodAll enc Try.prog W 0 (fun _ => true) true Try.f3.params.toList args.toList ds p := hA0
  rw [Try.params3] at hA hval
  obtain ⟨v0, vs0, d0, ds0, p0, q0, hargs, rfl, rfl, h0, r0⟩ := trodAll_cons hA
  obtain ⟨v1, vs1, d1, ds1, p1, q1, rfl, rfl, rfl, h1, r1⟩ := trodAll_cons r0
  obtain ⟨rfl, rfl, rfl⟩ := trodAll_nil r1
  obtain rfl : args = #[v0, v1] := by cases args; simp_all
  obtain ⟨rfl, rfl⟩ := trodVars_none hV
  have k0 := h0
  have lt0 : ∀ x ∈ p0, x.block < W.heap.size := by obtain ⟨m, hm⟩ := k0; exact DataW.trod_lt m _ _ _ hm
  have k1 := h1
  have lt1 : ∀ x ∈ p1, x.block < W.heap.size := by obtain ⟨m, hm⟩ := k1; exact DataW.trod_lt m _ _ _ hm
  obtain ⟨x0, a0, cap0, hc0, l0, m0, w0⟩ := open_rep opens_opss h0
  obtain ⟨aa0, len0, cc0, rfl⟩ := okWide_slice Try.underlying22 (hval 0 22 v0 rfl rfl)
  simp only [Value.cells, List.cons.injEq, Value.slice.injEq, and_true] at hc0
  obtain ⟨rfl, rfl, rfl⟩ : a0 = aa0 ∧ x0.length = len0 ∧ cap0 = cc0 := ⟨hc0.1.symm, hc0.2.1.symm, hc0.2.2.symm⟩
  obtain ⟨x1, a1, cap1, hc1, l1, m1, w1⟩ := open_rep opens_descs h1
  obtain ⟨aa1, len1, cc1, rfl⟩ := okWide_slice Try.underlying23 (hval 1 23 v1 rfl rfl)
  simp only [Value.cells, List.cons.injEq, Value.slice.injEq, and_true] at hc1
  obtain ⟨rfl, rfl, rfl⟩ : a1 = aa1 ∧ x1.length = len1 ∧ cap1 = cc1 := ⟨hc1.1.symm, hc1.2.1.symm, hc1.2.2.symm⟩
  clear hA0 hval0
  refine (walk a0 cap0 x0 a1 cap1 x1 W w0 (Nat.le_trans l0 m0) w1 (Nat.le_trans l1 m1)).mono fun e W' ⟨he, bel⟩ => ?_
  subst he
  exact ⟨_, rfl, _, _, _, [], _, [], hW', trodAll_mk1 (shut_bool Try.underlying4 _), (trodAll_cons_mk (Below.trod laidOut (by kernel_rfl) (of_decide_eq_true (by kernel_rfl)) k0 bel lt0) (trodAll_cons_mk (Below.trod laidOut (by kernel_rfl) (of_decide_eq_true (by kernel_rfl)) k1 bel lt1) trodAll_mk0)), rfl, bel.frame _, fun h => by cases h⟩

theorem over : Rows.fnExactWorkRow.holds Try.pinned (OpenSpec.ofChange Rows.fnExactWorkSpec) :=
  OpenClaim.holds_of_wide 3 Try.f3 rfl rfl rfl rfl rfl rfl rfl ⟨rfl, rfl, rfl, rfl, rfl⟩ rfl rfl rfl rfl rfl (by kernel_rfl) Try.func3 (by kernel_rfl)
    (of_decide_eq_true (by kernel_rfl)) (by unfold Func.isWrapper; first | (rw [if_pos (by decide +kernel)]; kernel_rfl) | (rw [if_neg (by decide +kernel)]; exact ⟨rfl, rfl⟩))
    (fun os started H enc _ => lifted os started H enc)

theorem proved : Rows.FnExactWorkSaid :=
  over
#print axioms proved
end Go.Proofs.Yteblffhbennpnaa.fnExactWork
