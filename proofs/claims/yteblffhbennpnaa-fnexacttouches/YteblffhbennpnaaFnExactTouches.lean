/- At every list of ops, impl.Touches answers as spec.Touches does, writes into no argument, keeps nothing of one, and its answer owns its memory, behind another call too: the law FnExactTouches returns true and changes nothing that was there. No condition. -/
import Derived.Test.YteblffhbennpnaaRows
import Derived.Test.YteblffhbennpnaaOwned
import Derived.Test.YteblffhbennpnaaMarkOp
import Derived.Test.YteblffhbennpnaaProg11
import Derived.Test.YteblffhbennpnaaImplTou
import Derived.WalkKit
import Derived.ProofKit
import Derived.OpenShut
import Derived.ShutString
import Derived.ChangeOld
import Derived.Below
import Derived.Carry
import Derived.Lib.SmallJoins
namespace Go.Proofs.Yteblffhbennpnaa.fnExactTouches
open Go.ChangeShapes Go.WideShapes Go.ChangeAt Go.RowKit Go.Joins
open Go.ChangeMaps (open_string shut_string)
set_option linter.unusedVariables false

theorem own : ownKnob Try.prog.godebug = none := by kernel_rfl
theorem laidOut : laidOutB Try.prog = true := by kernel_rfl

set_option maxHeartbeats 8000000 in
set_option maxRecDepth 100000 in
theorem walk (a0 : Option Addr) (cap0 : Nat) (x0 : RepOf (opsR)) (w : World) (w0 : SlRd opR w a0 x0) (l0 : x0.length ≤ maxLen) :
    Calls Try.prog 4 #[.slice a0 x0.length cap0] w fun e w' => e = .returned (.bool true) ∧ Below w.heap.size w w' := by
  have HR : Hid (∀ W, Below w.heap.size w W → SlRd opR W a0 x0) := fun W hb => slrd_next w0 hb
  clear w0
  have b0 := Below.refl w.heap.size w
  go_enter Try.func4, Try.ntmps4
  go_wp2_with fail
  refine (szOpS_rep a0 x0 cap0 1048576 _ (by decide) (by decide) l0).mono ?_
  rintro e w2 ⟨rfl, hw⟩
  rw [hw]
  clear hw w2
  have hcl := tou_len16 x0
  have hbl := bk_ops x0
  by_cases hf : ((opsM.bk x0 : Nat) : Int) ≤ 1048576
  · have HS : Hid (szI (opsM.bk x0) 1048576 = 1048576 - (opsM.bk x0 : Int)) := szI_yes hf
    have hf' : ¬ (1048576 - ((opsM.bk x0 : Nat) : Int) < 0) := by omega
    have hbk : opsM.bk x0 ≤ 1048576 := by omega
    rw [HS.out]
    have hi : Hid (∀ x ∈ touL x0, In64 x) := tou_in x0
    generalize hQ : touL x0 = L at hcl hi
    have HQ : Hid (touL x0 = L) := hQ
    clear hQ
    have CSP : Hid (∀ a cap W, SlRd opR W a x0 → Calls Try.prog 14 #[.slice a x0.length cap] W fun e w' => ∃ v, e = .returned v ∧ MadeR intsR W w' [v] L) := fun a cap W h => (specTouches_any a x0 cap W h l0).mono fun e w' ⟨v, h1, h2⟩ => ⟨v, h1, by rw [HQ.out] at h2; exact madeR_ints h2 hi.out⟩
    have CIM : Hid (∀ a cap W, SlRd opR W a x0 → Calls Try.prog 16 #[.slice a x0.length cap] W fun e w' => ∃ v, e = .returned v ∧ MadeR intsR W w' [v] L) := fun a cap W h => (implTouches_any a x0 cap W h (by omega)).mono fun e w' ⟨v, h1, h2⟩ => ⟨v, h1, by rw [HQ.out] at h2; exact madeR_ints h2 hi.out⟩
    clear HQ hi
    have hLb : intsM.bk L = L.length := bk_ints7 L
    have hLc : slcnt intM L = L.length := slcnt_ints L
    have hxc : slcnt opM x0 = 4 * x0.length := cnt_ops x0
    have hq1 : ¬ ((1 : Int) + (slcnt intM L : Int) < 0) := by omega
    have hq2 : ¬ ((1 : Int) + (slcnt opM x0 : Int) < 0) := by omega
    have HM1 : Hid ((slmark intM 1 L).length = L.length) := slmark_len _ _ _
    go_wp2_with fail
    refine (toOpS_rep a0 x0 cap0 _ (HR.out _ b0) hbk).mono ?_
    rintro e v1w ⟨v, rfl, mm⟩
    obtain ⟨at1, ct1, rfl⟩ := slown_val mm.1
    have T1lo : w.heap.size ≤ w.heap.size := b0.size
    have T1 := owned_made (R := opsR) mm
    have mbT1 := mm.2
    replace b0 := below_step b0 mbT1
    clear mbT1 mm
    go_wp2_with fail
    refine (CSP.out at1 ct1 _ (ops_rd T1.1)).mono ?_
    rintro e v2w ⟨v, rfl, mm⟩
    obtain ⟨av1, cv1, rfl⟩ := slown_val mm.1
    have T1P : v1w.heap.size ≤ v1w.heap.size := T1.2
    have Plo : w.heap.size ≤ v1w.heap.size := b0.size
    have P := owned_made (R := intsR) mm
    have mbP := mm.2
    replace b0 := below_step b0 mbP
    replace T1 := owned_next T1 mbP
    clear mbP mm
    go_wp2_with fail
    refine (toOpS_rep a0 x0 cap0 _ (HR.out _ b0) hbk).mono ?_
    rintro e v3w ⟨v, rfl, mm⟩
    obtain ⟨at2, ct2, rfl⟩ := slown_val mm.1
    have T1X : v1w.heap.size ≤ v2w.heap.size := T1.2
    have PX : v2w.heap.size ≤ v2w.heap.size := P.2
    have Xlo : w.heap.size ≤ v2w.heap.size := b0.size
    have X := owned_made (R := opsR) mm
    have mbX := mm.2
    replace b0 := below_step b0 mbX
    replace T1 := owned_next T1 mbX
    replace P := owned_next P mbX
    clear mbX mm
    go_wp2_with fail
    refine (CIM.out at2 ct2 _ (ops_rd X.1)).mono ?_
    rintro e v4w ⟨v, rfl, mm⟩
    obtain ⟨av3, cv3, rfl⟩ := slown_val mm.1
    have T1G : v1w.heap.size ≤ v3w.heap.size := T1.2
    have PG : v2w.heap.size ≤ v3w.heap.size := P.2
    have XG : v3w.heap.size ≤ v3w.heap.size := X.2
    have Glo : w.heap.size ≤ v3w.heap.size := b0.size
    have G := owned_made (R := intsR) mm
    have mbG := mm.2
    replace b0 := below_step b0 mbG
    replace T1 := owned_next T1 mbG
    replace P := owned_next P mbG
    replace X := owned_next X mbG
    clear mbG mm
    go_wp2_with fail
    refine (eqInt64S_rep av3 av1 L cv3 cv1 _ (ints_rd7 G.1) (ints_rd7 P.1) (by omega)).mono ?_
    rintro e v5w ⟨rfl, n, hn⟩
    have bq : Below v4w.heap.size v4w v5w := by rw [hn]; exact be_drewN (Below.refl _ _) n
    replace b0 := below_step b0 bq
    replace T1 := owned_next T1 bq
    replace P := owned_next P bq
    replace X := owned_next X bq
    replace G := owned_next G bq
    clear bq hn n
    go_wp2_with fail
    refine (toOpS_rep a0 x0 cap0 _ (HR.out _ b0) hbk).mono ?_
    rintro e v6w ⟨v, rfl, mm⟩
    obtain ⟨at4, ct4, rfl⟩ := slown_val mm.1
    have T1Y : v1w.heap.size ≤ v5w.heap.size := T1.2
    have PY : v2w.heap.size ≤ v5w.heap.size := P.2
    have XY : v3w.heap.size ≤ v5w.heap.size := X.2
    have GY : v4w.heap.size ≤ v5w.heap.size := G.2
    have Ylo : w.heap.size ≤ v5w.heap.size := b0.size
    have Y := owned_made (R := opsR) mm
    have mbY := mm.2
    replace b0 := below_step b0 mbY
    replace T1 := owned_next T1 mbY
    replace P := owned_next P mbY
    replace X := owned_next X mbY
    replace G := owned_next G mbY
    clear mbY mm
    go_wp2_with fail
    refine (eqOpS_rep at2 at4 x0 ct2 ct4 _ (ops_rd X.1) (ops_rd Y.1) (by omega)).mono ?_
    rintro e v7w ⟨rfl, bq⟩
    replace b0 := below_step b0 bq
    replace T1 := owned_next T1 bq
    replace P := owned_next P bq
    replace X := owned_next X bq
    replace G := owned_next G bq
    replace Y := owned_next Y bq
    clear bq
    go_wp2_with fail
    refine (markOpS_rep _ _ 1 x0 _ (by decide) (by decide) (by omega) X.1).mono ?_
    rintro e v8w ⟨rfl, -, ch⟩
    replace b0 := chg_b0 b0 ch Xlo
    replace T1 := owned_chg T1 ch (.inl T1X)
    replace P := owned_chg P ch (.inl PX)
    replace G := owned_chg G ch (.inr XG)
    replace Y := owned_chg Y ch (.inr XY)
    clear ch X
    go_wp2_with fail
    refine (eqInt64S_rep av3 av1 L cv3 cv1 _ (ints_rd7 G.1) (ints_rd7 P.1) (by omega)).mono ?_
    rintro e v9w ⟨rfl, n, hn⟩
    have bq : Below v8w.heap.size v8w v9w := by rw [hn]; exact be_drewN (Below.refl _ _) n
    replace b0 := below_step b0 bq
    replace T1 := owned_next T1 bq
    replace P := owned_next P bq
    replace G := owned_next G bq
    replace Y := owned_next Y bq
    clear bq hn n
    go_wp2_with fail
    refine (markInt64S_rep _ _ 1 L _ (by decide) (by decide) (by omega) G.1).mono ?_
    rintro e v10w ⟨rfl, gm, ch⟩
    replace b0 := chg_b0 b0 ch Glo
    replace T1 := owned_chg T1 ch (.inl T1G)
    replace P := owned_chg P ch (.inl PG)
    replace Y := owned_chg Y ch (.inr GY)
    have GM := And.intro gm (Nat.le_trans G.2 ch.size)
    clear ch G gm
    obtain ⟨lo9, hlo9⟩ : ∃ z, z = v3w.heap.size := ⟨_, rfl⟩
    obtain ⟨hi9, hhi9⟩ : ∃ z, z = v4w.heap.size := ⟨_, rfl⟩
    replace GM : Owned intsR lo9 hi9 v10w [.slice av3 L.length cv3] (slmark intM 1 L) := by rw [hlo9, hhi9]; exact GM
    clear hlo9 hhi9
    go_wp2_with fail
    have S1 : SlRd intR _ av3 (slmark intM 1 L) := ints_rd7 (S := rng lo9 hi9) (cap := cv3) (by rw [HM1.out]; exact GM.1)
    refine (heldInt64S_rep av3 cv3 1 L _ (by decide) (by decide) (by omega) S1).mono ?_
    clear S1
    rintro e v11w ⟨rfl, hw⟩
    rw [hw]
    clear hw v11w
    go_wp2_with fail
    refine (toOpS_rep a0 x0 cap0 _ (HR.out _ b0) hbk).mono ?_
    rintro e v12w ⟨v, rfl, mm⟩
    obtain ⟨at5, ct5, rfl⟩ := slown_val mm.1
    have T1T5 : v1w.heap.size ≤ v10w.heap.size := T1.2
    have PT5 : v2w.heap.size ≤ v10w.heap.size := P.2
    have GMT5 : hi9 ≤ v10w.heap.size := GM.2
    have YT5 : v6w.heap.size ≤ v10w.heap.size := Y.2
    have T5lo : w.heap.size ≤ v10w.heap.size := b0.size
    have T5 := owned_made (R := opsR) mm
    have mbT5 := mm.2
    replace b0 := below_step b0 mbT5
    replace T1 := owned_next T1 mbT5
    replace P := owned_next P mbT5
    replace GM := owned_next GM mbT5
    replace Y := owned_next Y mbT5
    clear mbT5 mm
    go_wp2_with fail
    refine (CIM.out at5 ct5 _ (ops_rd T5.1)).mono ?_
    rintro e v13w ⟨v, rfl, mm⟩
    obtain ⟨av6, cv6, rfl⟩ := slown_val mm.1
    have T1H : v1w.heap.size ≤ v12w.heap.size := T1.2
    have PH : v2w.heap.size ≤ v12w.heap.size := P.2
    have GMH : hi9 ≤ v12w.heap.size := GM.2
    have YH : v6w.heap.size ≤ v12w.heap.size := Y.2
    have T5H : v12w.heap.size ≤ v12w.heap.size := T5.2
    have Hlo : w.heap.size ≤ v12w.heap.size := b0.size
    have H := owned_made (R := intsR) mm
    have mbH := mm.2
    replace b0 := below_step b0 mbH
    replace T1 := owned_next T1 mbH
    replace P := owned_next P mbH
    replace GM := owned_next GM mbH
    replace Y := owned_next Y mbH
    replace T5 := owned_next T5 mbH
    clear mbH mm
    go_wp2_with fail
    refine (eqInt64S_rep av6 av1 L cv6 cv1 _ (ints_rd7 H.1) (ints_rd7 P.1) (by omega)).mono ?_
    rintro e v14w ⟨rfl, n, hn⟩
    have bq : Below v13w.heap.size v13w v14w := by rw [hn]; exact be_drewN (Below.refl _ _) n
    replace b0 := below_step b0 bq
    replace T1 := owned_next T1 bq
    replace P := owned_next P bq
    replace GM := owned_next GM bq
    replace Y := owned_next Y bq
    replace T5 := owned_next T5 bq
    replace H := owned_next H bq
    clear bq hn n
    go_wp2_with fail
    have S1 : SlRd intR _ av3 (slmark intM 1 L) := ints_rd7 (S := rng lo9 hi9) (cap := cv3) (by rw [HM1.out]; exact GM.1)
    refine (heldInt64S_rep av3 cv3 1 L _ (by decide) (by decide) (by omega) S1).mono ?_
    clear S1
    rintro e v15w ⟨rfl, hw⟩
    rw [hw]
    clear hw v15w
    clear T1 P GM Y T5 H
    go_wp2
    go_ret
    exact ⟨rfl, b0⟩
  · have HS : Hid (szI (opsM.bk x0) 1048576 = -1) := szI_no hf
    rw [HS.out]
    go_wp2
    go_ret
    exact ⟨rfl, b0⟩

set_option maxRecDepth 100000 in
theorem lifted (os : Os) (started : os.Started) (H : Type) (enc : TypeId × Value → H) :
    ReturnsInHanded {} Try.checked os 4 .any (Rows.fnExactTouchesSpec.pre6 enc Try.prog Try.f4 Rows.fnExactTouchesRow.domain false) (Rows.fnExactTouchesSpec.post enc Try.prog Try.f4 false true false false) := by
  refine returnsInHanded_of_change (C := Try.checked) own started (by kernel_rfl) Try.func4
    (ChangeSpec.witness6 (enc := enc) (C := Try.checked) false ⟨#[], #[.slice none 0 0], []⟩ 8 (by kernel_rfl) (by kernel_rfl) (by kernel_rfl) (by kernel_rfl)) ?_
  intro W base args ds gs before hval0 hW hcnd _
  have hval : ∀ (j : Nat) t v, Try.f4.params[j]? = some t → args[j]? = some v → Value.okWide Try.prog W .any base t v := hval0
  have hW' := hW
  obtain ⟨p, q, hA0, hV, rfl, hfz, hnd⟩ := hW
  have hA : DataW.TrodAll enc Try.prog W 0 (fun _ => true) true Try.f4.params.toList args.toList ds p := hA0
  rw [Try.params4] at hA hval
  obtain ⟨v0, vs0, d0, ds0, p0, q0, hargs, rfl, rfl, h0, r0⟩ := trodAll_cons hA
  obtain ⟨rfl, rfl, rfl⟩ := trodAll_nil r0
  obtain rfl : args = #[v0] := by cases args; simp_all
  obtain ⟨rfl, rfl⟩ := trodVars_none hV
  have k0 := h0
  have lt0 : ∀ x ∈ p0, x.block < W.heap.size := by obtain ⟨m, hm⟩ := k0; exact DataW.trod_lt m _ _ _ hm
  obtain ⟨x0, a0, cap0, hc0, l0, m0, w0⟩ := open_rep opens_ops h0
  obtain ⟨aa0, len0, cc0, rfl⟩ := okWide_slice Try.underlying34 (hval 0 34 v0 rfl rfl)
  simp only [Value.cells, List.cons.injEq, Value.slice.injEq, and_true] at hc0
  obtain ⟨rfl, rfl, rfl⟩ : a0 = aa0 ∧ x0.length = len0 ∧ cap0 = cc0 := ⟨hc0.1.symm, hc0.2.1.symm, hc0.2.2.symm⟩
  clear hA0 hval0
  refine (walk a0 cap0 x0 W w0 (Nat.le_trans l0 m0)).mono fun e W' ⟨he, bel⟩ => ?_
  subst he
  exact ⟨_, rfl, _, _, _, [], _, [], hW', trodAll_mk1 (shut_bool Try.underlying4 _), (trodAll_cons_mk (Below.trod laidOut (by kernel_rfl) (of_decide_eq_true (by kernel_rfl)) k0 bel lt0) trodAll_mk0), rfl, bel.frame _, fun h => by cases h⟩

theorem over : Rows.fnExactTouchesRow.holds Try.pinned (OpenSpec.ofChange Rows.fnExactTouchesSpec) :=
  OpenClaim.holds_of_wide 4 Try.f4 rfl rfl rfl rfl rfl rfl rfl ⟨rfl, rfl, rfl, rfl, rfl⟩ rfl rfl rfl rfl rfl (by kernel_rfl) Try.func4 (by kernel_rfl)
    (of_decide_eq_true (by kernel_rfl)) (by unfold Func.isWrapper; first | (rw [if_pos (by decide +kernel)]; kernel_rfl) | (rw [if_neg (by decide +kernel)]; exact ⟨rfl, rfl⟩))
    (fun os started H enc _ => lifted os started H enc)

theorem proved : Rows.FnExactTouchesSaid :=
  over
#print axioms proved
end Go.Proofs.Yteblffhbennpnaa.fnExactTouches
