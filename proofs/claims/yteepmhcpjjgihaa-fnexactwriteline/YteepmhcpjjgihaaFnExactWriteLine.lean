/- At every list of lists, every list and all numbers, impl.WriteLine answers as spec.WriteLine does, writes into no argument, and answers in memory of its own, behind another call too: the law FnExactWriteLine returns true and changes nothing that was there. No condition. -/
import Derived.Test.YteepmhcpjjgihaaRows
import Derived.Test.YteepmhcpjjgihaaOpenRows
import Derived.Test.YteepmhcpjjgihaaMemsB
import Derived.WalkKit
import Derived.ProofKit
import Derived.OpenShut
import Derived.ShutString
import Derived.ChangeOld
import Derived.Below
import Derived.Carry
import Derived.Lib.SmallJoins
namespace Go.Proofs.Yteepmhcpjjgihaa.fnExactWriteLine
open Go.ChangeShapes Go.WideShapes Go.ChangeAt Go.RowKit Go.Joins
open Go.ChangeMaps (open_string shut_string)
set_option linter.unusedVariables false

theorem own : ownKnob Try.prog.godebug = none := by kernel_rfl
theorem laidOut : laidOutB Try.prog = true := by kernel_rfl

def IsRow (k : IntKind) (w : World) (a : Option Addr) (len cap : Nat) (zs : List Int) : Prop :=
  (a = none ∧ len = 0 ∧ cap = 0 ∧ zs = []) ∨
  ∃ x, a = some x ∧ len ≤ cap ∧ cap ≤ maxLen ∧ zs.length = cap ∧ (∀ i, i < zs.length → w.cell? (x.add i) = some (.int k (zs.getD i 0))) ∧ ∀ n ∈ zs, (Lit.int k n).wf = true

theorem tot_set (xss : List (List Int)) : ∀ (j : Nat) (ys : List Int), tot (xss.set j ys) ≤ tot xss + ys.length := by
  induction xss with
  | nil => intro j ys; simp [tot]
  | cons xs r ih =>
    intro j ys
    cases j with
    | zero => simp [tot]; omega
    | succ j =>
      have := ih j ys
      simp [tot] at this ⊢
      omega
theorem mask_short (xs ys : List Int) (m : Int) : (maskL xs ys m).length ≤ 2 := by
  unfold maskL
  split
  · simp
  · simp
theorem wrM_small (xss : List (List Int)) (k : Int) (ys : List Int) (m : Int) : (wrM xss k ys m).length ≤ xss.length ∧ tot (wrM xss k ys m) ≤ tot xss + 2 := by
  unfold wrM wrX
  split
  · split
    · have h1 := tot_set xss k.toNat (maskL (xss.getD k.toNat []) ys m)
      have h2 := mask_short (xss.getD k.toNat []) ys m
      rw [List.length_set]
      omega
    · omega
  · simp [tot]
set_option maxHeartbeats 4000000 in
theorem walk (a0 : Option Addr) (len0 cap0 : Nat) (x0 : List (List Int)) (a1 : Int) (w1 : (Lit.int .i64 a1).wf = true) (a2 : Option Addr) (len2 cap2 : Nat) (z2 : List Int) (a3 : Int) (w3 : (Lit.int .i64 a3).wf = true) (w : World) (w2 : IsRow .i64 w a2 len2 cap2 z2) (w0 : IsRows w a0 len0 x0) :
    Calls Try.prog 7 #[.slice a0 len0 cap0, .int .i64 a1, .slice a2 len2 cap2, .int .i64 a3] w fun e w' => e = .returned (.bool true) ∧ Below w.heap.size w w' := by
  obtain ⟨hr, rfl, hm, hm2⟩ := w0
  obtain ⟨ys, rfl, hys⟩ : ∃ xs : List Int, xs.length = len2 ∧ Reads w a2 xs := by
    rcases w2 with ⟨rfl, rfl, rfl, rfl⟩ | ⟨x, rfl, hl, _, hz, hc, _⟩
    · exact ⟨[], rfl, .inl rfl⟩
    · exact reads_row (by omega) hc
  clear w2
  by_cases hs : ys.length ≤ 1048576
  · have hs' : ¬ ((1048576 : Int) < (ys.length : Int)) := by omega
    go_enter Try.func7, Try.ntmps7
    go_wp2_with fail
    refine (szRows_any _ x0 _ _ hr hm hm2).mono ?_
    rintro e w1 ⟨q, rfl, hq, hw1⟩
    rw [hw1]
    clear hw1 w1
    rcases hq with hq | ⟨hq, hl, ht⟩
    · go_wp2
      go_ret
      exact ⟨rfl, Below.refl _ _⟩
    · have hq' : ¬ q < 0 := by omega
      have hk1 : ¬ ((1 : Int) + (tot x0 : Int) + (ys.length : Int) < 0) := by omega
      clear hm hm2
      have HR : Hid (ReadsM w a0 x0) := hr
      have HY : Hid (Reads w a2 ys) := hys
      obtain ⟨hwl, hwt⟩ := wrM_small x0 a1 ys a3
      have hk2 : ¬ ((1 : Int) + (tot (wrM x0 a1 ys a3) : Int) < 0) := by omega
      clear hr hys
      go_wp2_with fail
      refine (toRows_any _ x0 _ _ HR.out hl ht).mono ?_
      rintro e w1 ⟨v, rfl, g1, c1, rfl, l1, l1', o1, b1⟩
      have BB := b1
      have s1 := b1.size
      clear b1 l1 l1'
      go_wp2_with fail
      refine (toInts_any _ ys _ _ (reads_below HY.out BB) hs).mono ?_
      rintro e w2 ⟨v, rfl, g2, c2, rfl, l2, l2', o2, b2⟩
      replace o1 := ownM_below o1 b2 (by omega)
      replace BB := below_step BB b2
      have s2 := b2.size
      clear b2 l2 l2'
      go_wp2_with fail
      refine (specWriteLine_any _ _ x0 ys _ _ _ _ _ (readsM_own o1) (reads_owni o2) (by omega)).mono ?_
      rintro e w3 ⟨v, rfl, gw, cw, rfl, l3, l3', ow, b3⟩
      replace BB := below_step BB b3
      have s3 := b3.size
      clear b3 l3 l3' o1 o2
      go_wp2_with fail
      refine (toRows_any _ x0 _ _ (readsM_below HR.out BB) hl ht).mono ?_
      rintro e w4 ⟨v, rfl, gx, cx, rfl, l4, l4', ox, b4⟩
      replace ow := ownM_below ow b4 (by omega)
      replace BB := below_step BB b4
      have s4 := b4.size
      clear b4 l4 l4'
      go_wp2_with fail
      refine (toInts_any _ ys _ _ (reads_below HY.out BB) hs).mono ?_
      rintro e w5 ⟨v, rfl, gy, cy, rfl, ly, ly', oy, b5⟩
      replace ow := ownM_below ow b5 (by omega)
      replace ox := ownM_below ox b5 (by omega)
      replace BB := below_step BB b5
      have s5 := b5.size
      clear b5
      go_wp2_with fail
      refine (implWriteLine_any _ _ x0 ys _ _ _ _ _ (readsM_own ox) (reads_owni oy) (by omega)).mono ?_
      rintro e w6 ⟨v, rfl, gg, cg, rfl, l6, l6', og, b6⟩
      replace ow := ownM_below ow b6 (by omega)
      replace ox := ownM_below ox b6 (by omega)
      replace oy := owni_below oy b6 (owni_lt oy).2
      replace BB := below_step BB b6
      have s6 := b6.size
      clear b6 l6 l6'
      go_wp2_with fail
      refine (eqRows_any _ _ (wrM x0 a1 ys a3) _ _ _ (readsM_own og) (readsM_own ow) (by omega) (by omega)).mono ?_
      rintro e w7 ⟨rfl, n7, rfl⟩
      replace ow := ownM_drewN (k := n7) ow
      replace ox := ownM_drewN (k := n7) ox
      replace oy := owni_drewN (k := n7) oy
      replace og := ownM_drewN (k := n7) og
      replace BB := below_drewN BB n7
      have s7 : (w6.drewN n7).heap.size = w6.heap.size := rfl
      generalize w6.drewN n7 = w7 at ow ox oy og BB s7 ⊢
      go_wp2_with fail
      refine (toRows_any _ x0 _ _ (readsM_below HR.out BB) hl ht).mono ?_
      rintro e w8 ⟨v, rfl, g8, c8, rfl, l8, l8', o8, b8⟩
      replace ow := ownM_below ow b8 (by omega)
      replace ox := ownM_below ox b8 (by omega)
      replace oy := owni_below oy b8 (owni_lt oy).2
      replace og := ownM_below og b8 (by omega)
      replace BB := below_step BB b8
      have s8 := b8.size
      clear b8 l8 l8'
      go_wp2_with fail
      refine (eqRows_any _ _ (x0) _ _ _ (readsM_own ox) (readsM_own o8) (by omega) (by omega)).mono ?_
      rintro e w9 ⟨rfl, n9, rfl⟩
      replace ow := ownM_drewN (k := n9) ow
      replace ox := ownM_drewN (k := n9) ox
      replace oy := owni_drewN (k := n9) oy
      replace og := ownM_drewN (k := n9) og
      replace o8 := ownM_drewN (k := n9) o8
      replace BB := below_drewN BB n9
      have s9 : (w8.drewN n9).heap.size = w8.heap.size := rfl
      generalize w8.drewN n9 = w9 at ow ox oy og o8 BB s9 ⊢
      clear o8
      go_wp2_with fail
      refine (toInts_any _ ys _ _ (reads_below HY.out BB) hs).mono ?_
      rintro e w10 ⟨v, rfl, g10, c10, rfl, l10, l10', o10, b10⟩
      replace ow := ownM_below ow b10 (by omega)
      replace ox := ownM_below ox b10 (by omega)
      replace oy := owni_below oy b10 (owni_lt oy).2
      replace og := ownM_below og b10 (by omega)
      replace BB := below_step BB b10
      have s10 := b10.size
      clear b10 l10 l10'
      go_wp2_with fail
      refine (eqInts_any _ _ (ys) _ _ _ (reads_owni oy) (reads_owni o10) (by omega)).mono ?_
      rintro e w11 ⟨rfl, n11, rfl⟩
      replace ow := ownM_drewN (k := n11) ow
      replace ox := ownM_drewN (k := n11) ox
      replace oy := owni_drewN (k := n11) oy
      replace og := ownM_drewN (k := n11) og
      replace o10 := owni_drewN (k := n11) o10
      replace BB := below_drewN BB n11
      have s11 : (w10.drewN n11).heap.size = w10.heap.size := rfl
      generalize w10.drewN n11 = w11 at ow ox oy og o10 BB s11 ⊢
      clear o10
      go_wp2_with fail
      refine (markRows_any _ _ _ _ 1 x0 _ (by omega) (by omega) (by omega) (by omega) ox).mono ?_
      rintro e w12 ⟨rfl, o12, in12⟩
      replace ow := ownM_inside ow in12 (.inl (by omega))
      replace oy := owni_inside oy in12 (.inr (by omega))
      replace og := ownM_inside og in12 (.inr (by omega))
      replace BB := inside_below BB in12 (by omega) BB.size
      have s12 := in12.size
      clear in12 ox o12
      go_wp2_with fail
      refine (mark_any _ _ _ _ _ _ _ _ (by omega) (by omega) (by omega) oy).mono ?_
      rintro e w13 ⟨rfl, own13, gr13⟩
      replace ow := ownM_grown ow gr13 (.inr (by omega))
      replace og := ownM_grown og gr13 (.inl (by omega))
      replace BB := BB.grown gr13 BB.size (by intro k hk; cases hk; omega)
      have s13 := gr13.size
      clear gr13 own13 oy
      go_wp2_with fail
      refine (eqRows_any _ _ (wrM x0 a1 ys a3) _ _ _ (readsM_own og) (readsM_own ow) (by omega) (by omega)).mono ?_
      rintro e w14 ⟨rfl, n14, rfl⟩
      replace ow := ownM_drewN (k := n14) ow
      replace og := ownM_drewN (k := n14) og
      replace BB := below_drewN BB n14
      have s14 : (w13.drewN n14).heap.size = w13.heap.size := rfl
      generalize w13.drewN n14 = w14 at ow og BB s14 ⊢
      go_wp2_with fail
      refine (markRows_any _ _ _ _ 1 (wrM x0 a1 ys a3) _ (by omega) (by omega) (by omega) (by omega) og).mono ?_
      rintro e w15 ⟨rfl, o15, in15⟩
      replace ow := ownM_inside ow in15 (.inl (by omega))
      replace BB := inside_below BB in15 (by omega) BB.size
      have s15 := in15.size
      clear in15 og
      go_wp2_with fail
      refine (heldRows_any _ _ 1 (wrM x0 a1 ys a3) _ (by omega) (by omega) (by omega) (by omega) (readsM_own o15)).mono ?_
      rintro e w16 ⟨rfl, hw16⟩
      rw [hw16]
      clear hw16 w16
      go_wp2_with fail
      refine (toRows_any _ x0 _ _ (readsM_below HR.out BB) hl ht).mono ?_
      rintro e w17 ⟨v, rfl, g17, c17, rfl, l17, l17', o17, b17⟩
      replace ow := ownM_below ow b17 (by omega)
      replace o15 := ownM_below o15 b17 (by omega)
      replace BB := below_step BB b17
      have s17 := b17.size
      clear b17 l17 l17'
      go_wp2_with fail
      refine (toInts_any _ ys _ _ (reads_below HY.out BB) hs).mono ?_
      rintro e w18 ⟨v, rfl, g18, c18, rfl, l18, l18', o18, b18⟩
      replace ow := ownM_below ow b18 (by omega)
      replace o15 := ownM_below o15 b18 (by omega)
      replace o17 := ownM_below o17 b18 (by omega)
      replace BB := below_step BB b18
      have s18 := b18.size
      clear b18 l18 l18'
      go_wp2_with fail
      refine (implWriteLine_any _ _ x0 ys _ _ _ _ _ (readsM_own o17) (reads_owni o18) (by omega)).mono ?_
      rintro e w19 ⟨v, rfl, g19, c19, rfl, l19, l19', o19, b19⟩
      replace ow := ownM_below ow b19 (by omega)
      replace o15 := ownM_below o15 b19 (by omega)
      replace o17 := ownM_below o17 b19 (by omega)
      replace o18 := owni_below o18 b19 (owni_lt o18).2
      replace BB := below_step BB b19
      have s19 := b19.size
      clear b19 l19 l19' o17 o18
      go_wp2_with fail
      refine (eqRows_any _ _ (wrM x0 a1 ys a3) _ _ _ (readsM_own o19) (readsM_own ow) (by omega) (by omega)).mono ?_
      rintro e w20 ⟨rfl, n20, rfl⟩
      replace ow := ownM_drewN (k := n20) ow
      replace o15 := ownM_drewN (k := n20) o15
      replace o19 := ownM_drewN (k := n20) o19
      replace BB := below_drewN BB n20
      have s20 : (w19.drewN n20).heap.size = w19.heap.size := rfl
      generalize w19.drewN n20 = w20 at ow o15 o19 BB s20 ⊢
      go_wp2_with fail
      refine (heldRows_any _ _ 1 (wrM x0 a1 ys a3) _ (by omega) (by omega) (by omega) (by omega) (readsM_own o15)).mono ?_
      rintro e w21 ⟨rfl, hw21⟩
      rw [hw21]
      clear hw21 w21
      go_wp2
      go_ret
      exact ⟨rfl, BB⟩
  · have hs' : (1048576 : Int) < (ys.length : Int) := by omega
    go_enter Try.func7, Try.ntmps7
    go_wp2
    go_ret
    exact ⟨rfl, Below.refl _ _⟩

set_option maxRecDepth 100000 in
theorem lifted (os : Os) (started : os.Started) (H : Type) (enc : TypeId × Value → H) :
    ReturnsInHanded {} Try.checked os 7 .any (Rows.fnExactWriteLineSpec.pre6 enc Try.prog Try.f7 Rows.fnExactWriteLineRow.domain false) (Rows.fnExactWriteLineSpec.post enc Try.prog Try.f7 false true false false) := by
  refine returnsInHanded_of_change (C := Try.checked) own started (by kernel_rfl) Try.func7
    (ChangeSpec.witness6 (enc := enc) (C := Try.checked) false ⟨#[], #[.slice none 0 0, .int .i64 0, .slice none 0 0, .int .i64 0], []⟩ 8 (by kernel_rfl) (by kernel_rfl) (by kernel_rfl) (by kernel_rfl)) ?_
  intro W base args ds gs before hval0 hW hcnd _
  have hval : ∀ (j : Nat) t v, Try.f7.params[j]? = some t → args[j]? = some v → Value.okWide Try.prog W .any base t v := hval0
  have hW' := hW
  obtain ⟨p, q, hA0, hV, rfl, hfz, hnd⟩ := hW
  have hA : DataW.TrodAll enc Try.prog W 0 (fun _ => true) true Try.f7.params.toList args.toList ds p := hA0
  rw [Try.params7] at hA hval
  obtain ⟨v0, vs0, d0, ds0, p0, q0, hargs, rfl, rfl, h0, r0⟩ := trodAll_cons hA
  obtain ⟨v1, vs1, d1, ds1, p1, q1, rfl, rfl, rfl, h1, r1⟩ := trodAll_cons r0
  obtain ⟨v2, vs2, d2, ds2, p2, q2, rfl, rfl, rfl, h2, r2⟩ := trodAll_cons r1
  obtain ⟨v3, vs3, d3, ds3, p3, q3, rfl, rfl, rfl, h3, r3⟩ := trodAll_cons r2
  obtain ⟨rfl, rfl, rfl⟩ := trodAll_nil r3
  obtain rfl : args = #[v0, v1, v2, v3] := by cases args; simp_all
  obtain ⟨rfl, rfl⟩ := trodVars_none hV
  have k0 := h0
  have lt0 : ∀ x ∈ p0, x.block < W.heap.size := by obtain ⟨m, hm⟩ := k0; exact DataW.trod_lt m _ _ _ hm
  have k1 := h1
  have lt1 : ∀ x ∈ p1, x.block < W.heap.size := by obtain ⟨m, hm⟩ := k1; exact DataW.trod_lt m _ _ _ hm
  have k2 := h2
  have lt2 : ∀ x ∈ p2, x.block < W.heap.size := by obtain ⟨m, hm⟩ := k2; exact DataW.trod_lt m _ _ _ hm
  have k3 := h3
  have lt3 : ∀ x ∈ p3, x.block < W.heap.size := by obtain ⟨m, hm⟩ := k3; exact DataW.trod_lt m _ _ _ hm
  obtain ⟨a0, len0, cap0, rfl⟩ := okWide_slice Try.underlying24 (hval 0 24 v0 rfl rfl)
  obtain ⟨x0, w0⟩ : ∃ xss, IsRows W a0 len0 xss := by
    obtain ⟨fuel, hf⟩ := h0
    rcases Go.Deep.open_int_rows Try.underlying24 Try.underlying25 Try.underlying2 (by kernel_rfl) (by kernel_rfl) hf with ⟨hcs, _⟩ | ⟨x, l, c, A, L, C, Z, hcs, _, hl, hm, _, hr⟩
    · simp [Value.cells] at hcs
      obtain ⟨rfl, rfl, rfl⟩ := hcs
      exact ⟨[], isRows_nil _ _⟩
    · simp [Value.cells] at hcs
      obtain ⟨rfl, rfl, rfl⟩ := hcs
      exact isRows_open hl hm hr
  obtain ⟨a1, rfl, e1, f1, w1⟩ := open_int Try.underlying2 (hval 1 2 v1 rfl rfl) h1
  obtain ⟨a2, len2, cap2, rfl⟩ := okWide_slice Try.underlying25 (hval 2 25 v2 rfl rfl)
  obtain ⟨z2, w2⟩ : ∃ zs, IsRow .i64 W a2 len2 cap2 zs := by
    obtain ⟨fuel, hf⟩ := h2
    rcases open_ints Try.underlying25 Try.underlying2 (by kernel_rfl) hf with ⟨hcs, _⟩ | ⟨x, l, c, zs, hcs, _, hl, hm, hz, _, hcell, hwz⟩
    · simp [Value.cells] at hcs
      obtain ⟨rfl, rfl, rfl⟩ := hcs
      exact ⟨[], .inl ⟨rfl, rfl, rfl, rfl⟩⟩
    · simp [Value.cells] at hcs
      obtain ⟨rfl, rfl, rfl⟩ := hcs
      exact ⟨zs, .inr ⟨_, rfl, hl, hm, by simpa using hz, hcell, hwz⟩⟩
  obtain ⟨a3, rfl, e3, f3, w3⟩ := open_int Try.underlying2 (hval 3 2 v3 rfl rfl) h3
  clear hA0 hval0
  refine (walk a0 len0 cap0 x0 a1 w1 a2 len2 cap2 z2 a3 w3 W w2 w0).mono fun e W' ⟨he, bel⟩ => ?_
  subst he
  exact ⟨_, rfl, _, _, _, [], _, [], hW', trodAll_mk1 (shut_bool Try.underlying4 _), (trodAll_cons_mk (Below.trod laidOut (by kernel_rfl) (of_decide_eq_true (by kernel_rfl)) k0 bel lt0) (trodAll_cons_mk (Below.trod laidOut (by kernel_rfl) (of_decide_eq_true (by kernel_rfl)) k1 bel lt1) (trodAll_cons_mk (Below.trod laidOut (by kernel_rfl) (of_decide_eq_true (by kernel_rfl)) k2 bel lt2) (trodAll_cons_mk (Below.trod laidOut (by kernel_rfl) (of_decide_eq_true (by kernel_rfl)) k3 bel lt3) trodAll_mk0)))), rfl, bel.frame _, fun h => by cases h⟩

theorem over : Rows.fnExactWriteLineRow.holds Try.pinned (OpenSpec.ofChange Rows.fnExactWriteLineSpec) :=
  OpenClaim.holds_of_wide 7 Try.f7 rfl rfl rfl rfl rfl rfl rfl ⟨rfl, rfl, rfl, rfl, rfl⟩ rfl rfl rfl rfl rfl (by kernel_rfl) Try.func7 (by kernel_rfl)
    (of_decide_eq_true (by kernel_rfl)) (by unfold Func.isWrapper; first | (rw [if_pos (by decide +kernel)]; kernel_rfl) | (rw [if_neg (by decide +kernel)]; exact ⟨rfl, rfl⟩))
    (fun os started H enc _ => lifted os started H enc)

theorem proved : Rows.FnExactWriteLineSaid :=
  over
#print axioms proved
end Go.Proofs.Yteepmhcpjjgihaa.fnExactWriteLine
