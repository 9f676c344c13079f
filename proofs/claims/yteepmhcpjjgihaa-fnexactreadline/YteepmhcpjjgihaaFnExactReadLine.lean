/- At every list of lists and every number, impl.ReadLine answers as spec.ReadLine does, writes into no argument, and answers in memory of its own, behind another call too: the law FnExactReadLine returns true and changes nothing that was there. No condition. -/
import Derived.Test.YteepmhcpjjgihaaRows
import Derived.Test.YteepmhcpjjgihaaOpenRows
import Derived.Test.YteepmhcpjjgihaaMemsB
import Derived.WalkKit
import Derived.ProofKit
import Derived.OpenShut
import Derived.ShutString
import Derived.ChangeOld
import Derived.Below
import Derived.Carry
import Derived.Lib.SmallJoins
namespace Go.Proofs.Yteepmhcpjjgihaa.fnExactReadLine
open Go.ChangeShapes Go.WideShapes Go.ChangeAt Go.RowKit Go.Joins
open Go.ChangeMaps (open_string shut_string)
set_option linter.unusedVariables false

theorem own : ownKnob Try.prog.godebug = none := by kernel_rfl
theorem laidOut : laidOutB Try.prog = true := by kernel_rfl

theorem readL_len (xss : List (List Int)) (k : Int) : (readL xss k).length ≤ tot xss := by
  unfold readL
  split
  · rw [List.getD_eq_getElem?_getD]
    cases h : xss[k.toNat]? with
    | none => simp
    | some xs => exact tot_get h
  · simp
set_option maxHeartbeats 2000000 in
theorem walk (a0 : Option Addr) (len0 cap0 : Nat) (x0 : List (List Int)) (a1 : Int) (w1 : (Lit.int .i64 a1).wf = true) (w : World) (w0 : IsRows w a0 len0 x0) :
    Calls Try.prog 6 #[.slice a0 len0 cap0, .int .i64 a1] w fun e w' => e = .returned (.bool true) ∧ Below w.heap.size w w' := by
  obtain ⟨hr, rfl, hm, hm2⟩ := w0
  go_enter Try.func6, Try.ntmps6
  go_wp2_with fail
  refine (szRows_any _ x0 _ _ hr hm hm2).mono ?_
  rintro e w1 ⟨q, rfl, hq, hw1⟩
  rw [hw1]
  clear hw1 w1
  rcases hq with hq | ⟨hq, hl, ht⟩
  · go_wp2
    go_ret
    exact ⟨rfl, Below.refl _ _⟩
  · have hq' : ¬ q < 0 := by omega
    have hk1 : ¬ ((1 : Int) + (tot x0 : Int) < 0) := by omega
    clear hm hm2
    have HR : Hid (ReadsM w a0 x0) := hr
    have hlen := readL_len x0 a1
    have hk2 : ¬ ((1 : Int) + ((readL x0 a1).length : Int) < 0) := by omega
    clear hr
    go_wp2_with fail
    refine (toRows_any _ x0 _ _ HR.out hl ht).mono ?_
    rintro e w1 ⟨v, rfl, g1, c1, rfl, l1, l1', o1, b1⟩
    go_wp2_with fail
    refine (specReadLine_any _ x0 _ _ _ (readsM_own o1) (by omega)).mono ?_
    rintro e w2 ⟨v, rfl, gw, cw, rfl, lw, lw', ow, b2⟩
    have BB := below_step b1 b2
    clear o1 l1 l1' b1 b2
    go_wp2_with fail
    refine (toRows_any _ x0 _ _ (readsM_below HR.out BB) hl ht).mono ?_
    rintro e w3 ⟨v, rfl, gx, cx, rfl, l3, l3', ox, b3⟩
    replace ow := owni_below ow b3 (owni_lt ow).2
    have lx : w.heap.size ≤ w2.heap.size := BB.size
    replace BB := below_step BB b3
    have s3 := b3.size
    clear b3 l3 l3'
    go_wp2_with fail
    refine (implReadLine_any _ x0 _ _ _ (readsM_own ox) (by omega)).mono ?_
    rintro e w4 ⟨v, rfl, gg, cg, rfl, lg, lg', og, b4⟩
    replace ow := owni_below ow b4 (owni_lt ow).2
    replace ox := ownM_below ox b4 (Nat.le_refl _)
    replace BB := below_step BB b4
    have s4 := b4.size
    have nwg : gw ≠ gg := by omega
    have logg : w.heap.size ≤ gg := by omega
    clear b4
    go_wp2_with fail
    refine (eqInts_any _ _ (readL x0 a1) _ _ _ (reads_owni og) (reads_owni ow) (by omega)).mono ?_
    rintro e w5 ⟨rfl, n5, rfl⟩
    replace ow := owni_drewN (k := n5) ow
    replace ox := ownM_drewN (k := n5) ox
    replace og := owni_drewN (k := n5) og
    replace BB := below_drewN BB n5
    have s5 : (w4.drewN n5).heap.size = w4.heap.size := rfl
    generalize w4.drewN n5 = w5 at ow ox og BB s5 ⊢
    go_wp2_with fail
    refine (toRows_any _ x0 _ _ (readsM_below HR.out BB) hl ht).mono ?_
    rintro e w6 ⟨v, rfl, g6, c6, rfl, l6, l6', o6, b6⟩
    replace ow := owni_below ow b6 (owni_lt ow).2
    replace ox := ownM_below ox b6 (by omega)
    replace og := owni_below og b6 (owni_lt og).2
    replace BB := below_step BB b6
    clear b6 l6 l6'
    go_wp2_with fail
    refine (eqRows_any _ _ x0 _ _ _ (readsM_own ox) (readsM_own o6) (by omega) (by omega)).mono ?_
    rintro e w7 ⟨rfl, n7, rfl⟩
    replace ow := owni_drewN (k := n7) ow
    replace ox := ownM_drewN (k := n7) ox
    replace og := owni_drewN (k := n7) og
    replace BB := below_drewN BB n7
    generalize w6.drewN n7 = w7 at ow ox og BB ⊢
    clear o6
    go_wp2_with fail
    refine (markRows_any _ _ _ _ 1 x0 _ (by omega) (by omega) (by omega) (by omega) ox).mono ?_
    rintro e w8 ⟨rfl, o8, in8⟩
    replace ow := owni_inside ow in8 (.inl lw')
    replace og := owni_inside og in8 (.inr lg)
    replace BB := inside_below BB in8 lx BB.size
    clear in8 ox o8
    go_wp2_with fail
    refine (eqInts_any _ _ (readL x0 a1) _ _ _ (reads_owni og) (reads_owni ow) (by omega)).mono ?_
    rintro e w9 ⟨rfl, n9, rfl⟩
    replace ow := owni_drewN (k := n9) ow
    replace og := owni_drewN (k := n9) og
    replace BB := below_drewN BB n9
    generalize w8.drewN n9 = w9 at ow og BB ⊢
    go_wp2_with fail
    refine (mark_any _ _ _ _ _ _ _ _ (by omega) (by omega) (by omega) og).mono ?_
    rintro e w10 ⟨rfl, own10, gr10⟩
    replace ow := owni_grown ow gr10 nwg
    replace BB := BB.grown gr10 BB.size (by intro k hk; cases hk; exact logg)
    clear gr10 og
    go_wp2_with fail
    refine (held_any _ _ _ _ _ (by omega) (by omega) (by omega) (reads_own own10)).mono ?_
    rintro e w11 ⟨rfl, hw11⟩
    rw [hw11]
    clear hw11 w11
    go_wp2_with fail
    refine (toRows_any _ x0 _ _ (readsM_below HR.out BB) hl ht).mono ?_
    rintro e w12 ⟨v, rfl, g12, c12, rfl, l12, l12', o12, b12⟩
    replace ow := owni_below ow b12 (owni_lt ow).2
    replace own10 := own_below own10 b12 (own_lt own10).2
    replace BB := below_step BB b12
    clear b12 l12 l12'
    go_wp2_with fail
    refine (implReadLine_any _ x0 _ _ _ (readsM_own o12) (by omega)).mono ?_
    rintro e w13 ⟨v, rfl, g13, c13, rfl, l13, l13', o13, b13⟩
    replace ow := owni_below ow b13 (owni_lt ow).2
    replace own10 := own_below own10 b13 (own_lt own10).2
    replace BB := below_step BB b13
    clear b13 l13 l13' o12
    go_wp2_with fail
    refine (eqInts_any _ _ (readL x0 a1) _ _ _ (reads_owni o13) (reads_owni ow) (by omega)).mono ?_
    rintro e w14 ⟨rfl, n14, rfl⟩
    replace own10 := own_drewN (k := n14) own10
    replace BB := below_drewN BB n14
    generalize w13.drewN n14 = w14 at own10 BB ⊢
    clear o13 ow
    go_wp2_with fail
    refine (held_any _ _ _ _ _ (by omega) (by omega) (by omega) (reads_own own10)).mono ?_
    rintro e w15 ⟨rfl, hw15⟩
    rw [hw15]
    clear hw15 w15
    go_wp2
    go_ret
    exact ⟨rfl, BB⟩

set_option maxRecDepth 100000 in
theorem lifted (os : Os) (started : os.Started) (H : Type) (enc : TypeId × Value → H) :
    ReturnsInHanded {} Try.checked os 6 .any (Rows.fnExactReadLineSpec.pre6 enc Try.prog Try.f6 Rows.fnExactReadLineRow.domain false) (Rows.fnExactReadLineSpec.post enc Try.prog Try.f6 false true false false) := by
  refine returnsInHanded_of_change (C := Try.checked) own started (by kernel_rfl) Try.func6
    (ChangeSpec.witness6 (enc := enc) (C := Try.checked) false ⟨#[], #[.slice none 0 0, .int .i64 0], []⟩ 8 (by kernel_rfl) (by kernel_rfl) (by kernel_rfl) (by kernel_rfl)) ?_
  intro W base args ds gs before hval0 hW hcnd _
  have hval : ∀ (j : Nat) t v, Try.f6.params[j]? = some t → args[j]? = some v → Value.okWide Try.prog W .any base t v := hval0
  have hW' := hW
  obtain ⟨p, q, hA0, hV, rfl, hfz, hnd⟩ := hW
  have hA : DataW.TrodAll enc Try.prog W 0 (fun _ => true) true Try.f6.params.toList args.toList ds p := hA0
  rw [Try.params6] at hA hval
  obtain ⟨v0, vs0, d0, ds0, p0, q0, hargs, rfl, rfl, h0, r0⟩ := trodAll_cons hA
  obtain ⟨v1, vs1, d1, ds1, p1, q1, rfl, rfl, rfl, h1, r1⟩ := trodAll_cons r0
  obtain ⟨rfl, rfl, rfl⟩ := trodAll_nil r1
  obtain rfl : args = #[v0, v1] := by cases args; simp_all
  obtain ⟨rfl, rfl⟩ := trodVars_none hV
  have k0 := h0
  have lt0 : ∀ x ∈ p0, x.block < W.heap.size := by obtain ⟨m, hm⟩ := k0; exact DataW.trod_lt m _ _ _ hm
  have k1 := h1
  have lt1 : ∀ x ∈ p1, x.block < W.heap.size := by obtain ⟨m, hm⟩ := k1; exact DataW.trod_lt m _ _ _ hm
  obtain ⟨a0, len0, cap0, rfl⟩ := okWide_slice Try.underlying24 (hval 0 24 v0 rfl rfl)
  obtain ⟨x0, w0⟩ : ∃ xss, IsRows W a0 len0 xss := by
    obtain ⟨fuel, hf⟩ := h0
    rcases Go.Deep.open_int_rows Try.underlying24 Try.underlying25 Try.underlying2 (by kernel_rfl) (by kernel_rfl) hf with ⟨hcs, _⟩ | ⟨x, l, c, A, L, C, Z, hcs, _, hl, hm, _, hr⟩
    · simp [Value.cells] at hcs
      obtain ⟨rfl, rfl, rfl⟩ := hcs
      exact ⟨[], isRows_nil _ _⟩
    · simp [Value.cells] at hcs
      obtain ⟨rfl, rfl, rfl⟩ := hcs
      exact isRows_open hl hm hr
  obtain ⟨a1, rfl, e1, f1, w1⟩ := open_int Try.underlying2 (hval 1 2 v1 rfl rfl) h1
  clear hA0 hval0
  refine (walk a0 len0 cap0 x0 a1 w1 W w0).mono fun e W' ⟨he, bel⟩ => ?_
  subst he
  exact ⟨_, rfl, _, _, _, [], _, [], hW', trodAll_mk1 (shut_bool Try.underlying4 _), (trodAll_cons_mk (Below.trod laidOut (by kernel_rfl) (of_decide_eq_true (by kernel_rfl)) k0 bel lt0) (trodAll_cons_mk (Below.trod laidOut (by kernel_rfl) (of_decide_eq_true (by kernel_rfl)) k1 bel lt1) trodAll_mk0)), rfl, bel.frame _, fun h => by cases h⟩

theorem over : Rows.fnExactReadLineRow.holds Try.pinned (OpenSpec.ofChange Rows.fnExactReadLineSpec) :=
  OpenClaim.holds_of_wide 6 Try.f6 rfl rfl rfl rfl rfl rfl rfl ⟨rfl, rfl, rfl, rfl, rfl⟩ rfl rfl rfl rfl rfl (by kernel_rfl) Try.func6 (by kernel_rfl)
    (of_decide_eq_true (by kernel_rfl)) (by unfold Func.isWrapper; first | (rw [if_pos (by decide +kernel)]; kernel_rfl) | (rw [if_neg (by decide +kernel)]; exact ⟨rfl, rfl⟩))
    (fun os started H enc _ => lifted os started H enc)

theorem proved : Rows.FnExactReadLineSaid :=
  over
#print axioms proved
end Go.Proofs.Yteepmhcpjjgihaa.fnExactReadLine
