/- At every two lists and every number, impl.Masked answers as spec.Masked does, writes into no argument, and answers in memory of its own, behind another call too: the law FnExactMasked returns true and changes nothing that was there. No condition. -/
import Derived.Test.YtkiakcmhcjiknaaRows
import Derived.Test.YtkiakcmhcjiknaaLines7
import Derived.WalkKit
import Derived.ProofKit
import Derived.OpenShut
import Derived.ShutString
import Derived.ChangeOld
import Derived.Below
import Derived.Carry
import Derived.Lib.SmallJoins
namespace Go.Proofs.Ytkiakcmhcjiknaa.fnExactMasked
open Go.ChangeShapes Go.WideShapes Go.ChangeAt Go.RowKit Go.Joins
open Go.ChangeMaps (open_string shut_string)
set_option linter.unusedVariables false

theorem own : ownKnob Try.prog.godebug = none := by kernel_rfl
theorem laidOut : laidOutB Try.prog = true := by kernel_rfl

def IsRow (k : IntKind) (w : World) (a : Option Addr) (len cap : Nat) (zs : List Int) : Prop :=
  (a = none ∧ len = 0 ∧ cap = 0 ∧ zs = []) ∨
  ∃ x, a = some x ∧ len ≤ cap ∧ cap ≤ maxLen ∧ zs.length = cap ∧ (∀ i, i < zs.length → w.cell? (x.add i) = some (.int k (zs.getD i 0))) ∧ ∀ n ∈ zs, (Lit.int k n).wf = true

theorem mask_len (xs ys : List Int) (m : Int) : (maskL xs ys m).length ≤ 2 := by
  unfold maskL
  split
  · simp
  · simp
set_option maxHeartbeats 2000000 in
theorem walk (a0 : Option Addr) (len0 cap0 : Nat) (z0 : List Int) (a1 : Option Addr) (len1 cap1 : Nat) (z1 : List Int) (a2 : Int) (w2 : (Lit.int .i64 a2).wf = true) (w : World) (w0 : IsRow .i64 w a0 len0 cap0 z0) (w1 : IsRow .i64 w a1 len1 cap1 z1) :
    Calls Try.prog 7 #[.slice a0 len0 cap0, .slice a1 len1 cap1, .int .i64 a2] w fun e w' => e = .returned (.bool true) ∧ Below w.heap.size w w' := by
  obtain ⟨xs, rfl, hxs⟩ : ∃ xs : List Int, xs.length = len0 ∧ Reads w a0 xs := by
    rcases w0 with ⟨rfl, rfl, rfl, rfl⟩ | ⟨x, rfl, hl, _, hz, hc, _⟩
    · exact ⟨[], rfl, .inl rfl⟩
    · exact reads_row (by omega) hc
  clear w0
  obtain ⟨ys, rfl, hys⟩ : ∃ xs : List Int, xs.length = len1 ∧ Reads w a1 xs := by
    rcases w1 with ⟨rfl, rfl, rfl, rfl⟩ | ⟨x, rfl, hl, _, hz, hc, _⟩
    · exact ⟨[], rfl, .inl rfl⟩
    · exact reads_row (by omega) hc
  clear w1
  by_cases hs : xs.length ≤ 1048576
  · have hs' : ¬ ((1048576 : Int) < (xs.length : Int)) := by omega
    by_cases ht : ys.length ≤ 1048576
    · have ht' : ¬ ((1048576 : Int) < (ys.length : Int)) := by omega
      have hp := mask_len xs ys a2
      go_enter Try.func7, Try.ntmps7
      go_wp2_with fail
      refine (toInts_any _ xs _ _ (hxs) hs).mono ?_
      rintro e w1 ⟨v, rfl, g1, c1, rfl, l1, l1', o1, b1⟩
      have BB := b1
      go_wp2_with fail
      refine (toInts_any _ ys _ _ (reads_below hys BB) ht).mono ?_
      rintro e w2 ⟨v, rfl, g2, c2, rfl, l2, l2', o2, b2⟩
      replace o1 := owni_below o1 b2 (owni_lt o1).2
      replace BB := below_step BB b2
      clear l1 l1' l2 l2' b1 b2
      go_wp2_with fail
      refine (specMasked_any _ _ xs ys _ _ _ _ (reads_owni o1) (reads_owni o2)).mono ?_
      rintro e w3 ⟨v, rfl, g3, c3, rfl, l3, l3', o3, b3⟩
      replace BB := below_step BB b3
      have s3 := BB.size
      clear o1 o2 b3
      go_wp2_with fail
      refine (toInts_any _ xs _ _ (reads_below hxs BB) hs).mono ?_
      rintro e w4 ⟨v, rfl, g4, c4, rfl, l4, l4', o4, b4⟩
      replace o3 := owni_below o3 b4 (owni_lt o3).2
      replace BB := below_step BB b4
      have n34 : g3 ≠ g4 := by omega
      have lo4 : w.heap.size ≤ g4 := by omega
      clear b4
      go_wp2_with fail
      refine (toInts_any _ ys _ _ (reads_below hys BB) ht).mono ?_
      rintro e w5 ⟨v, rfl, g5, c5, rfl, l5, l5', o5, b5⟩
      replace o3 := owni_below o3 b5 (owni_lt o3).2
      replace o4 := owni_below o4 b5 (owni_lt o4).2
      replace BB := below_step BB b5
      have n35 : g3 ≠ g5 := by omega
      have n45 : g4 ≠ g5 := by omega
      have lo5 : w.heap.size ≤ g5 := by omega
      clear b5
      go_wp2_with fail
      refine (implMasked_any _ _ xs ys _ _ _ _ (reads_owni o4) (reads_owni o5)).mono ?_
      rintro e w6 ⟨v, rfl, g6, c6, rfl, l6, l6', o6, b6⟩
      replace o3 := owni_below o3 b6 (owni_lt o3).2
      replace o4 := owni_below o4 b6 (owni_lt o4).2
      replace o5 := owni_below o5 b6 (owni_lt o5).2
      replace BB := below_step BB b6
      have n36 : g3 ≠ g6 := by omega
      have n46 : g4 ≠ g6 := by omega
      have n56 : g5 ≠ g6 := by omega
      have lo6 : w.heap.size ≤ g6 := by omega
      clear b6 l3 l4 l5 l6 l3' l4' l5' l6' s3
      go_wp2_with fail
      refine (eqInts_any _ _ (maskL xs ys a2) _ _ _ (reads_owni o6) (reads_owni o3) (by omega)).mono ?_
      rintro e w7 ⟨rfl, n7, rfl⟩
      replace o3 := owni_drewN (k := n7) o3
      replace o4 := owni_drewN (k := n7) o4
      replace o5 := owni_drewN (k := n7) o5
      replace o6 := owni_drewN (k := n7) o6
      replace BB := below_drewN BB n7
      generalize w6.drewN n7 = w7 at o3 o4 o5 o6 BB ⊢
      go_wp2_with fail
      refine (toInts_any _ xs _ _ (reads_below hxs BB) hs).mono ?_
      rintro e w8 ⟨v, rfl, g8, c8, rfl, l8, l8', o8, b8⟩
      replace o3 := owni_below o3 b8 (owni_lt o3).2
      replace o4 := owni_below o4 b8 (owni_lt o4).2
      replace o5 := owni_below o5 b8 (owni_lt o5).2
      replace o6 := owni_below o6 b8 (owni_lt o6).2
      replace BB := below_step BB b8
      clear b8 l8 l8'
      go_wp2_with fail
      refine (eqInts_any _ _ xs _ _ _ (reads_owni o4) (reads_owni o8) (by omega)).mono ?_
      rintro e w9 ⟨rfl, n9, rfl⟩
      replace o3 := owni_drewN (k := n9) o3
      replace o4 := owni_drewN (k := n9) o4
      replace o5 := owni_drewN (k := n9) o5
      replace o6 := owni_drewN (k := n9) o6
      replace BB := below_drewN BB n9
      generalize w8.drewN n9 = w9 at o3 o4 o5 o6 BB ⊢
      clear o8
      go_wp2_with fail
      refine (toInts_any _ ys _ _ (reads_below hys BB) ht).mono ?_
      rintro e w10 ⟨v, rfl, g10, c10, rfl, l10, l10', o10, b10⟩
      replace o3 := owni_below o3 b10 (owni_lt o3).2
      replace o4 := owni_below o4 b10 (owni_lt o4).2
      replace o5 := owni_below o5 b10 (owni_lt o5).2
      replace o6 := owni_below o6 b10 (owni_lt o6).2
      replace BB := below_step BB b10
      clear b10 l10 l10'
      go_wp2_with fail
      refine (eqInts_any _ _ ys _ _ _ (reads_owni o5) (reads_owni o10) (by omega)).mono ?_
      rintro e w11 ⟨rfl, n11, rfl⟩
      replace o3 := owni_drewN (k := n11) o3
      replace o4 := owni_drewN (k := n11) o4
      replace o5 := owni_drewN (k := n11) o5
      replace o6 := owni_drewN (k := n11) o6
      replace BB := below_drewN BB n11
      generalize w10.drewN n11 = w11 at o3 o4 o5 o6 BB ⊢
      clear o10
      go_wp2_with fail
      refine (mark_any _ _ _ _ _ _ _ _ (by omega) (by omega) (by omega) o4).mono ?_
      rintro e w12 ⟨rfl, own12, gr12⟩
      replace o3 := owni_grown o3 gr12 n34
      replace o5 := owni_grown o5 gr12 (fun h => n45 h.symm)
      replace o6 := owni_grown o6 gr12 (fun h => n46 h.symm)
      replace BB := BB.grown gr12 BB.size (by intro k hk; cases hk; exact lo4)
      clear own12 gr12 o4
      go_wp2_with fail
      refine (mark_any _ _ _ _ _ _ _ _ (by omega) (by omega) (by omega) o5).mono ?_
      rintro e w13 ⟨rfl, own13, gr13⟩
      replace o3 := owni_grown o3 gr13 n35
      replace o6 := owni_grown o6 gr13 (fun h => n56 h.symm)
      replace BB := BB.grown gr13 BB.size (by intro k hk; cases hk; exact lo5)
      clear own13 gr13 o5
      have hk0 : ¬ ((1 : Int) + (xs.length : Int) + (ys.length : Int) < 0) := by omega
      go_wp2_with fail
      refine (eqInts_any _ _ (maskL xs ys a2) _ _ _ (reads_owni o6) (reads_owni o3) (by omega)).mono ?_
      rintro e w14 ⟨rfl, n14, rfl⟩
      replace o3 := owni_drewN (k := n14) o3
      replace o6 := owni_drewN (k := n14) o6
      replace BB := below_drewN BB n14
      generalize w13.drewN n14 = w14 at o3 o6 BB ⊢
      go_wp2_with fail
      refine (mark_any _ _ _ _ _ _ _ _ (by omega) (by omega) (by omega) o6).mono ?_
      rintro e w15 ⟨rfl, own15, gr15⟩
      replace o3 := owni_grown o3 gr15 n36
      replace BB := BB.grown gr15 BB.size (by intro k hk; cases hk; exact lo6)
      clear gr15 o6
      go_wp2_with fail
      refine (held_any _ _ _ _ _ (by omega) (by omega) (by omega) (reads_own own15)).mono ?_
      rintro e w16 ⟨rfl, rfl⟩
      have hk1 : ¬ ((1 : Int) + ((maskL xs ys a2).length : Int) < 0) := by omega
      go_wp2_with fail
      refine (toInts_any _ xs _ _ (reads_below hxs BB) hs).mono ?_
      rintro e w17 ⟨v, rfl, g17, c17, rfl, l17, l17', o17, b17⟩
      replace o3 := owni_below o3 b17 (owni_lt o3).2
      replace own15 := own_below own15 b17 (own_lt own15).2
      replace BB := below_step BB b17
      clear b17 l17 l17'
      go_wp2_with fail
      refine (toInts_any _ ys _ _ (reads_below hys BB) ht).mono ?_
      rintro e w18 ⟨v, rfl, g18, c18, rfl, l18, l18', o18, b18⟩
      replace o3 := owni_below o3 b18 (owni_lt o3).2
      replace own15 := own_below own15 b18 (own_lt own15).2
      replace o17 := owni_below o17 b18 (owni_lt o17).2
      replace BB := below_step BB b18
      clear b18 l18 l18'
      go_wp2_with fail
      refine (implMasked_any _ _ xs ys _ _ _ _ (reads_owni o17) (reads_owni o18)).mono ?_
      rintro e w19 ⟨v, rfl, g19, c19, rfl, l19, l19', o19, b19⟩
      replace o3 := owni_below o3 b19 (owni_lt o3).2
      replace own15 := own_below own15 b19 (own_lt own15).2
      replace BB := below_step BB b19
      clear b19 l19 l19' o17 o18
      go_wp2_with fail
      refine (eqInts_any _ _ (maskL xs ys a2) _ _ _ (reads_owni o19) (reads_owni o3) (by omega)).mono ?_
      rintro e w20 ⟨rfl, n20, rfl⟩
      replace own15 := own_drewN (k := n20) own15
      replace BB := below_drewN BB n20
      generalize w19.drewN n20 = w20 at own15 BB ⊢
      clear o19 o3
      go_wp2_with fail
      refine (held_any _ _ _ _ _ (by omega) (by omega) (by omega) (reads_own own15)).mono ?_
      rintro e w21 ⟨rfl, rfl⟩
      go_wp2
      go_ret
      exact ⟨rfl, BB⟩
    · have ht' : (1048576 : Int) < (ys.length : Int) := by omega
      go_enter Try.func7, Try.ntmps7
      go_wp2
      go_ret
      exact ⟨rfl, Below.refl _ _⟩
  · have hs' : (1048576 : Int) < (xs.length : Int) := by omega
    go_enter Try.func7, Try.ntmps7
    go_wp2
    go_ret
    exact ⟨rfl, Below.refl _ _⟩

set_option maxRecDepth 100000 in
theorem lifted (os : Os) (started : os.Started) (H : Type) (enc : TypeId × Value → H) :
    ReturnsInHanded {} Try.checked os 7 .any (Rows.fnExactMaskedSpec.pre6 enc Try.prog Try.f7 Rows.fnExactMaskedRow.domain false) (Rows.fnExactMaskedSpec.post enc Try.prog Try.f7 false true false false) := by
  refine returnsInHanded_of_change (C := Try.checked) own started (by kernel_rfl) Try.func7
    (ChangeSpec.witness6 (enc := enc) (C := Try.checked) false ⟨#[], #[.slice none 0 0, .slice none 0 0, .int .i64 0], []⟩ 8 (by kernel_rfl) (by kernel_rfl) (by kernel_rfl) (by kernel_rfl)) ?_
  intro W base args ds gs before hval0 hW hcnd _
  have hval : ∀ (j : Nat) t v, Try.f7.params[j]? = some t → args[j]? = some v → Value.okWide Try.prog W .any base t v := hval0
  have hW' := hW
  obtain ⟨p, q, hA0, hV, rfl, hfz, hnd⟩ := hW
  have hA : DataW.TrodAll enc Try.prog W 0 (fun _ => true) true Try.f7.params.toList args.toList ds p := hA0
  rw [Try.params7] at hA hval
  obtain ⟨v0, vs0, d0, ds0, p0, q0, hargs, rfl, rfl, h0, r0⟩ := trodAll_cons hA
  obtain ⟨v1, vs1, d1, ds1, p1, q1, rfl, rfl, rfl, h1, r1⟩ := trodAll_cons r0
  obtain ⟨v2, vs2, d2, ds2, p2, q2, rfl, rfl, rfl, h2, r2⟩ := trodAll_cons r1
  obtain ⟨rfl, rfl, rfl⟩ := trodAll_nil r2
  obtain rfl : args = #[v0, v1, v2] := by cases args; simp_all
  obtain ⟨rfl, rfl⟩ := trodVars_none hV
  have k0 := h0
  have lt0 : ∀ x ∈ p0, x.block < W.heap.size := by obtain ⟨m, hm⟩ := k0; exact DataW.trod_lt m _ _ _ hm
  have k1 := h1
  have lt1 : ∀ x ∈ p1, x.block < W.heap.size := by obtain ⟨m, hm⟩ := k1; exact DataW.trod_lt m _ _ _ hm
  have k2 := h2
  have lt2 : ∀ x ∈ p2, x.block < W.heap.size := by obtain ⟨m, hm⟩ := k2; exact DataW.trod_lt m _ _ _ hm
  obtain ⟨a0, len0, cap0, rfl⟩ := okWide_slice Try.underlying24 (hval 0 24 v0 rfl rfl)
  obtain ⟨z0, w0⟩ : ∃ zs, IsRow .i64 W a0 len0 cap0 zs := by
    obtain ⟨fuel, hf⟩ := h0
    rcases open_ints Try.underlying24 Try.underlying2 (by kernel_rfl) hf with ⟨hcs, _⟩ | ⟨x, l, c, zs, hcs, _, hl, hm, hz, _, hcell, hwz⟩
    · simp [Value.cells] at hcs
      obtain ⟨rfl, rfl, rfl⟩ := hcs
      exact ⟨[], .inl ⟨rfl, rfl, rfl, rfl⟩⟩
    · simp [Value.cells] at hcs
      obtain ⟨rfl, rfl, rfl⟩ := hcs
      exact ⟨zs, .inr ⟨_, rfl, hl, hm, by simpa using hz, hcell, hwz⟩⟩
  obtain ⟨a1, len1, cap1, rfl⟩ := okWide_slice Try.underlying24 (hval 1 24 v1 rfl rfl)
  obtain ⟨z1, w1⟩ : ∃ zs, IsRow .i64 W a1 len1 cap1 zs := by
    obtain ⟨fuel, hf⟩ := h1
    rcases open_ints Try.underlying24 Try.underlying2 (by kernel_rfl) hf with ⟨hcs, _⟩ | ⟨x, l, c, zs, hcs, _, hl, hm, hz, _, hcell, hwz⟩
    · simp [Value.cells] at hcs
      obtain ⟨rfl, rfl, rfl⟩ := hcs
      exact ⟨[], .inl ⟨rfl, rfl, rfl, rfl⟩⟩
    · simp [Value.cells] at hcs
      obtain ⟨rfl, rfl, rfl⟩ := hcs
      exact ⟨zs, .inr ⟨_, rfl, hl, hm, by simpa using hz, hcell, hwz⟩⟩
  obtain ⟨a2, rfl, e2, f2, w2⟩ := open_int Try.underlying2 (hval 2 2 v2 rfl rfl) h2
  clear hA0 hval0
  refine (walk a0 len0 cap0 z0 a1 len1 cap1 z1 a2 w2 W w0 w1).mono fun e W' ⟨he, bel⟩ => ?_
  subst he
  exact ⟨_, rfl, _, _, _, [], _, [], hW', trodAll_mk1 (shut_bool Try.underlying4 _), (trodAll_cons_mk (Below.trod laidOut (by kernel_rfl) (of_decide_eq_true (by kernel_rfl)) k0 bel lt0) (trodAll_cons_mk (Below.trod laidOut (by kernel_rfl) (of_decide_eq_true (by kernel_rfl)) k1 bel lt1) (trodAll_cons_mk (Below.trod laidOut (by kernel_rfl) (of_decide_eq_true (by kernel_rfl)) k2 bel lt2) trodAll_mk0))), rfl, bel.frame _, fun h => by cases h⟩

theorem over : Rows.fnExactMaskedRow.holds Try.pinned (OpenSpec.ofChange Rows.fnExactMaskedSpec) :=
  OpenClaim.holds_of_wide 7 Try.f7 rfl rfl rfl rfl rfl rfl rfl ⟨rfl, rfl, rfl, rfl, rfl⟩ rfl rfl rfl rfl rfl (by kernel_rfl) Try.func7 (by kernel_rfl)
    (of_decide_eq_true (by kernel_rfl)) (by unfold Func.isWrapper; first | (rw [if_pos (by decide +kernel)]; kernel_rfl) | (rw [if_neg (by decide +kernel)]; exact ⟨rfl, rfl⟩))
    (fun os started H enc _ => lifted os started H enc)

theorem proved : Rows.FnExactMaskedSaid :=
  over
#print axioms proved
end Go.Proofs.Ytkiakcmhcjiknaa.fnExactMasked
