/- At every layout and every list, impl.ProgramCode answers as spec.ProgramCode does and writes into no argument: the law FnExactProgramCode returns true and changes nothing that was there. No condition. -/
import Derived.Test.YteblffhbennpnaaDoorRows
import Derived.Test.YteblffhbennpnaaDoorOwned
import Derived.Test.YteblffhbennpnaaDoorCfgR
import Derived.Test.YteblffhbennpnaaDoorToConfig
import Derived.Test.YteblffhbennpnaaDoorMarkOp
import Derived.Test.YteblffhbennpnaaDoorProg11
import Derived.Test.YteblffhbennpnaaDoorImpl11
import Derived.Test.YteblffhbennpnaaDoorHandle
import Derived.WalkKit
import Derived.ProofKit
import Derived.OpenShut
import Derived.ShutString
import Derived.ChangeOld
import Derived.Below
import Derived.Carry
import Derived.Lib.SmallJoins
namespace Go.Proofs.YteblffhbennpnaaDoor.fnExactProgramCode
open Go.ChangeShapes Go.WideShapes Go.ChangeAt Go.RowKit Go.Joins
open Go.ChangeMaps (open_string shut_string)
set_option linter.unusedVariables false

theorem own : ownKnob Tryd.prog.godebug = none := by kernel_rfl
theorem laidOut : laidOutB Tryd.prog = true := by kernel_rfl

set_option maxHeartbeats 8000000 in
set_option maxRecDepth 100000 in
theorem walk (cs0 : Array Value) (x0 : RepOf (cfgR)) (a1 : Option Addr) (cap1 : Nat) (x1 : RepOf (opsR)) (w : World) (w0 : (cfgR).rd w cs0.toList x0) (w1 : SlRd opR w a1 x1) (l1 : x1.length ≤ maxLen) (hh : Hold w) :
    Calls Tryd.prog 4 #[.agg cs0, .slice a1 x1.length cap1] w fun e w' => e = .returned (.bool true) ∧ Below w.heap.size w w' := by
  obtain ⟨c0, c1, c2, c3⟩ := x0
  obtain ⟨hcs, -⟩ := cfg_rd w0
  simp only at hcs
  obtain rfl := arr_of hcs
  clear w0 hcs
  have HR : Hid (∀ W, Below w.heap.size w W → SlRd opR W a1 x1) := fun W hb => slrd_next w1 hb
  have HH : Hid (∀ W, Below w.heap.size w W → Hold W) := fun W hb => hh.to hb
  clear w1 hh
  generalize hQ : progI c0 c1 c2 c3 x1 = Q
  have HQ : Hid (progI c0 c1 c2 c3 x1 = Q) := hQ
  clear hQ
  have A := heap_at w (.cells #[.int .i64 c0, .int .i64 c1, .int .i64 c2, .int .i64 c3] 40)
  have b0 := box_below w (.cells #[.int .i64 c0, .int .i64 c1, .int .i64 c2, .int .i64 c3] 40)
  go_enter Tryd.func4, Tryd.ntmps4
  go_wp2_with fail
  generalize w.alloc (.cells #[.int .i64 c0, .int .i64 c1, .int .i64 c2, .int .i64 c3] 40) = v0w at A b0 ⊢
  refine (szOpS_rep a1 x1 cap1 1048576 _ (by decide) (by decide) l1).mono ?_
  rintro e w2 ⟨rfl, hw⟩
  rw [hw]
  clear hw w2
  by_cases hf : ((opsM.bk x1 : Nat) : Int) ≤ 1048576
  · have HS : Hid (szI (opsM.bk x1) 1048576 = 1048576 - (opsM.bk x1 : Int)) := szI_yes hf
    have hf' : ¬ (1048576 - ((opsM.bk x1 : Nat) : Int) < 0) := by omega
    have hbk : opsM.bk x1 ≤ 1048576 := by omega
    rw [HS.out]
    obtain ⟨Ac0, Ac1, Ac2, Ac3⟩ := cells_4 A
    have Alt := (Array.getElem?_eq_some_iff.1 A).1
    go_wp2_with fail
    clear Ac0 Ac1 Ac2 Ac3 Alt
    refine (toConfig_any _ _ _ _ _).mono ?_
    rintro e v1w ⟨rfl, bq⟩
    replace b0 := below_step b0 bq
    replace A := row_keep bq A
    clear bq
    obtain ⟨Ac0, Ac1, Ac2, Ac3⟩ := cells_4 A
    have Alt := (Array.getElem?_eq_some_iff.1 A).1
    go_wp2_with fail
    clear Ac0 Ac1 Ac2 Ac3 Alt
    refine (toOpS_rep a1 x1 cap1 _ (HR.out _ b0) hbk).mono ?_
    rintro e v2w ⟨v, rfl, mm⟩
    obtain ⟨av1, cv1, rfl⟩ := slown_val mm.1
    have PA : w.heap.size < v1w.heap.size ∨ v2w.heap.size ≤ w.heap.size := .inl (Array.getElem?_eq_some_iff.1 A).1
    have Plo : w.heap.size ≤ v1w.heap.size := b0.size
    have P := owned_made (R := opsR) mm
    have mbP := mm.2
    replace b0 := below_step b0 mbP
    replace A := row_keep mbP A
    clear mbP mm
    obtain ⟨Ac0, Ac1, Ac2, Ac3⟩ := cells_4 A
    have Alt := (Array.getElem?_eq_some_iff.1 A).1
    go_wp2_with fail
    clear Ac0 Ac1 Ac2 Ac3 Alt
    have C1 := specProgramCode_any c0 c1 c2 c3 av1 x1 cv1 _ (ops_rd P.1) l1
    rw [HQ.out] at C1
    refine C1.mono ?_
    rintro e v3w ⟨rfl, bq⟩
    replace b0 := below_step b0 bq
    replace A := row_keep bq A
    replace P := owned_next P bq
    clear bq C1 P
    obtain ⟨Ac0, Ac1, Ac2, Ac3⟩ := cells_4 A
    have Alt := (Array.getElem?_eq_some_iff.1 A).1
    go_wp2_with fail
    clear Ac0 Ac1 Ac2 Ac3 Alt
    refine (toOpS_rep a1 x1 cap1 _ (HR.out _ b0) hbk).mono ?_
    rintro e v4w ⟨v, rfl, mm⟩
    obtain ⟨av2, cv2, rfl⟩ := slown_val mm.1
    have XA : w.heap.size < v3w.heap.size ∨ v4w.heap.size ≤ w.heap.size := .inl (Array.getElem?_eq_some_iff.1 A).1
    have Xlo : w.heap.size ≤ v3w.heap.size := b0.size
    have X := owned_made (R := opsR) mm
    have mbX := mm.2
    replace b0 := below_step b0 mbX
    replace A := row_keep mbX A
    clear mbX mm
    obtain ⟨Ac0, Ac1, Ac2, Ac3⟩ := cells_4 A
    have Alt := (Array.getElem?_eq_some_iff.1 A).1
    go_wp2_with fail
    clear Ac0 Ac1 Ac2 Ac3 Alt
    refine (toConfig_any _ _ _ _ _).mono ?_
    rintro e v5w ⟨rfl, bq⟩
    replace b0 := below_step b0 bq
    replace A := row_keep bq A
    replace X := owned_next X bq
    clear bq
    obtain ⟨Ac0, Ac1, Ac2, Ac3⟩ := cells_4 A
    have Alt := (Array.getElem?_eq_some_iff.1 A).1
    go_wp2_with fail
    clear Ac0 Ac1 Ac2 Ac3 Alt
    have C1 := implProgramCode_any c0 c1 c2 c3 av2 x1 cv2 _ (HH.out _ b0) (ops_rd X.1) l1
    rw [HQ.out] at C1
    refine C1.mono ?_
    rintro e v6w ⟨rfl, bq⟩
    replace b0 := below_step b0 bq
    replace A := row_keep bq A
    replace X := owned_next X bq
    clear bq C1
    obtain ⟨Ac0, Ac1, Ac2, Ac3⟩ := cells_4 A
    have Alt := (Array.getElem?_eq_some_iff.1 A).1
    go_wp2_with fail
    clear Ac0 Ac1 Ac2 Ac3 Alt
    refine (toOpS_rep a1 x1 cap1 _ (HR.out _ b0) hbk).mono ?_
    rintro e v7w ⟨v, rfl, mm⟩
    obtain ⟨av3, cv3, rfl⟩ := slown_val mm.1
    have YA : w.heap.size < v6w.heap.size ∨ v7w.heap.size ≤ w.heap.size := .inl (Array.getElem?_eq_some_iff.1 A).1
    have XY : v4w.heap.size ≤ v6w.heap.size := X.2
    have Ylo : w.heap.size ≤ v6w.heap.size := b0.size
    have Y := owned_made (R := opsR) mm
    have mbY := mm.2
    replace b0 := below_step b0 mbY
    replace A := row_keep mbY A
    replace X := owned_next X mbY
    clear mbY mm
    obtain ⟨Ac0, Ac1, Ac2, Ac3⟩ := cells_4 A
    have Alt := (Array.getElem?_eq_some_iff.1 A).1
    go_wp2_with fail
    clear Ac0 Ac1 Ac2 Ac3 Alt
    refine (eqOpS_rep av2 av3 x1 cv2 cv3 _ (ops_rd X.1) (ops_rd Y.1) (by have : opsM.bk x1 ≤ 1048576 := hbk; omega)).mono ?_
    rintro e v8w ⟨rfl, bq⟩
    replace b0 := below_step b0 bq
    replace A := row_keep bq A
    replace X := owned_next X bq
    replace Y := owned_next Y bq
    clear bq X Y A
    go_wp2
    go_ret
    exact ⟨rfl, b0⟩
  · have HS : Hid (szI (opsM.bk x1) 1048576 = -1) := szI_no hf
    rw [HS.out]
    go_wp2
    go_ret
    exact ⟨rfl, b0⟩

set_option maxRecDepth 100000 in
theorem lifted (os : Os) (started : os.Started) (H : Type) (enc : TypeId × Value → H) :
    ReturnsInHanded {} Tryd.checked os 4 .any (fun w args => (Rows.fnExactProgramCodeSpec.pre enc Tryd.prog Tryd.f4 [] false w args ∧ laidMetH Tryd.prog holdL w) ∧ sizedMet enc Tryd.prog Tryd.f4 (OpenSpec.ofChange Rows.fnExactProgramCodeSpec) false w args) (Rows.fnExactProgramCodeSpec.post enc Tryd.prog Tryd.f4 false true false false) := by
  refine returnsInHanded_of_change_and (C := Tryd.checked) (X := fun w _ => laidMetH Tryd.prog holdL w) (fun _ _ _ hh h => h.of_heap hh) own started (by kernel_rfl) Tryd.func4
    (ChangeSpec.witness_at (enc := enc) (C := Tryd.checked) (os := os) (X := fun w _ => laidMetH Tryd.prog holdL w) false (laidWorld os) #[.agg #[.int .i64 0, .int .i64 0, .int .i64 0, .int .i64 0], .slice none 0 0] 8 rfl (by kernel_rfl) (by kernel_rfl) (by kernel_rfl) (by kernel_rfl) (by kernel_rfl) (laid_met os _)) ?_
  intro W base args ds gs before hval0 hW _ _ hL _
  have hval : ∀ (j : Nat) t v, Tryd.f4.params[j]? = some t → args[j]? = some v → Value.okWide Tryd.prog W .any base t v := hval0
  have hW' := hW
  obtain ⟨p, q, hA0, hV0, rfl, hfz, hnd⟩ := hW
  have hA : DataW.TrodAll enc Tryd.prog W 0 (fun _ => true) true Tryd.f4.params.toList args.toList ds p := hA0
  have hV : DataW.TrodVars enc Tryd.prog W (fun _ => true) [] gs q := hV0
  rw [Tryd.params4] at hA hval
  obtain ⟨v0, vs0, d0, ds0, p0, q0, hargs, rfl, rfl, h0, r0⟩ := trodAll_cons hA
  obtain ⟨v1, vs1, d1, ds1, p1, q1, rfl, rfl, rfl, h1, r1⟩ := trodAll_cons r0
  obtain ⟨rfl, rfl, rfl⟩ := trodAll_nil r1
  obtain rfl : args = #[v0, v1] := by cases args; simp_all
  obtain ⟨rfl, rfl⟩ := trodVars_none hV
  have k0 := h0
  have lt0 : ∀ x ∈ p0, x.block < W.heap.size := by obtain ⟨m, hm⟩ := k0; exact DataW.trod_lt m _ _ _ hm
  have k1 := h1
  have lt1 : ∀ x ∈ p1, x.block < W.heap.size := by obtain ⟨m, hm⟩ := k1; exact DataW.trod_lt m _ _ _ hm
  obtain ⟨cs0, x0, rfl, w0⟩ := open_struct Tryd.underlying40 opens_cfg (hval 0 40 v0 rfl rfl) h0
  obtain ⟨x1, a1, cap1, hc1, l1, m1, w1⟩ := open_rep opens_ops h1
  obtain ⟨aa1, len1, cc1, rfl⟩ := okWide_slice Tryd.underlying41 (hval 1 41 v1 rfl rfl)
  simp only [Value.cells, List.cons.injEq, Value.slice.injEq, and_true] at hc1
  obtain ⟨rfl, rfl, rfl⟩ : a1 = aa1 ∧ x1.length = len1 ∧ cap1 = cc1 := ⟨hc1.1.symm, hc1.2.1.symm, hc1.2.2.symm⟩
  clear hA0 hval0 hV0
  refine (walk cs0 x0 a1 cap1 x1 W w0 w1 (Nat.le_trans l1 m1) (hold_laid hL)).mono fun e W' ⟨he, bel⟩ => ?_
  subst he
  exact ⟨_, rfl, _, _, _, [], _, [], hW', trodAll_mk1 (shut_bool Tryd.underlying4 _), (trodAll_cons_mk (Below.trod laidOut (by kernel_rfl) (of_decide_eq_true (by kernel_rfl)) k0 bel lt0) (trodAll_cons_mk (Below.trod laidOut (by kernel_rfl) (of_decide_eq_true (by kernel_rfl)) k1 bel lt1) trodAll_mk0)), rfl, bel.frame _, fun h => by cases h⟩

theorem over : Rows.fnExactProgramCodeRow.holds Tryd.pinned (OpenSpec.ofChange Rows.fnExactProgramCodeSpec) :=
  OpenClaim.holds_of_wide 4 Tryd.f4 rfl rfl rfl rfl rfl rfl rfl ⟨rfl, rfl, rfl, rfl, rfl⟩ rfl rfl rfl rfl rfl (by kernel_rfl) Tryd.func4 (by kernel_rfl)
    (of_decide_eq_true (by kernel_rfl)) (by unfold Func.isWrapper; first | (rw [if_pos (by decide +kernel)]; kernel_rfl) | (rw [if_neg (by decide +kernel)]; exact ⟨rfl, rfl⟩))
    (fun os started H enc _ => lifted os started H enc)

theorem proved : Rows.FnExactProgramCodeCardSaid :=
  Claim7.holds_tied_plain_at .later [] [.handle] true (true, "02e01d6e296700c741081a5c4ed0ce886743419dc0cf0fe1bd6f1a699ebfcd5d") true
    over (fun _ h => by cases h) (by kernel_rfl) (fun _ h => by cases h) fnExactProgramCode_row_tie rfl ⟨rfl, rfl⟩ (by kernel_rfl) rfl
    (fun f fn hf hfn => by
      obtain rfl : f = 4 := Option.some.inj ((show Tryd.prog.funcNamed "loop.example/g00342/laws.FnExactProgramCode" = some 4 by kernel_rfl).symm.trans hf) |>.symm
      obtain rfl : fn = Tryd.f4 := (Option.some.inj (Tryd.func4.symm.trans hfn)).symm
      exact ⟨by kernel_rfl, fun j t ht => by
        rw [Tryd.params4] at ht
        have hall : ∀ t ∈ [40, 41], Tryd.prog.wantsStandIn t = false := by
          intro t ht
          simp only [List.mem_cons, List.not_mem_nil, or_false] at ht
          rcases ht with rfl | rfl <;> kernel_rfl
        exact hall t (by
          have := Array.mem_of_getElem? ht
          simpa using this)⟩)
    (by kernel_rfl)
#print axioms proved
end Go.Proofs.YteblffhbennpnaaDoor.fnExactProgramCode
