/- At every list and all numbers, impl.Put answers as spec.Put does, writes into no argument, and answers in memory of its own, behind another call too: the law FnExactPut returns true and changes nothing that was there. No condition. -/
import Derived.Test.YtkiakcmhcjiknaaRows
import Derived.Test.YtkiakcmhcjiknaaLines4
import Derived.Test.YtkiakcmhcjiknaaLines6
import Derived.WalkKit
import Derived.ProofKit
import Derived.OpenShut
import Derived.ShutString
import Derived.ChangeOld
import Derived.Below
import Derived.Carry
import Derived.Lib.SmallJoins
namespace Go.Proofs.Ytkiakcmhcjiknaa.fnExactPut
open Go.ChangeShapes Go.WideShapes Go.ChangeAt Go.RowKit Go.Joins
open Go.ChangeMaps (open_string shut_string)
set_option linter.unusedVariables false

theorem own : ownKnob Try.prog.godebug = none := by kernel_rfl
theorem laidOut : laidOutB Try.prog = true := by kernel_rfl

def IsRow (k : IntKind) (w : World) (a : Option Addr) (len cap : Nat) (zs : List Int) : Prop :=
  (a = none ∧ len = 0 ∧ cap = 0 ∧ zs = []) ∨
  ∃ x, a = some x ∧ len ≤ cap ∧ cap ≤ maxLen ∧ zs.length = cap ∧ (∀ i, i < zs.length → w.cell? (x.add i) = some (.int k (zs.getD i 0))) ∧ ∀ n ∈ zs, (Lit.int k n).wf = true

theorem put_len (xs : List Int) (k v : Int) : (putL xs k v).length ≤ xs.length := by
  unfold putL
  split
  · split
    · split
      · simp
      · exact Nat.le_refl _
    · exact Nat.le_refl _
  · simp
set_option maxHeartbeats 2000000 in
theorem walk (a0 : Option Addr) (len0 cap0 : Nat) (z0 : List Int) (a1 : Int) (w1 : (Lit.int .i64 a1).wf = true) (a2 : Int) (w2 : (Lit.int .i64 a2).wf = true) (w : World) (w0 : IsRow .i64 w a0 len0 cap0 z0) :
    Calls Try.prog 6 #[.slice a0 len0 cap0, .int .i64 a1, .int .i64 a2] w fun e w' => e = .returned (.bool true) ∧ Below w.heap.size w w' := by
  obtain ⟨xs, rfl, hr⟩ : ∃ xs : List Int, xs.length = len0 ∧ Reads w a0 xs := by
    rcases w0 with ⟨rfl, rfl, rfl, rfl⟩ | ⟨x, rfl, hl, _, hz, hc, _⟩
    · exact ⟨[], rfl, .inl rfl⟩
    · exact reads_row (by omega) hc
  clear w0
  by_cases hs : xs.length ≤ 1048576
  · have hs' : ¬ ((1048576 : Int) < (xs.length : Int)) := by omega
    have hp := put_len xs a1 a2
    go_enter Try.func6, Try.ntmps6
    go_wp2_with fail
    refine (toInts_any _ xs _ _ hr hs).mono ?_
    rintro e w1 ⟨v, rfl, g1, c1, rfl, l1, l1', o1, b1⟩
    go_wp2_with fail
    refine (specPut_any _ xs _ _ _ _ (reads_owni o1)).mono ?_
    rintro e w2 ⟨v, rfl, g2, c2, rfl, l2, l2', o2, b2⟩
    have B2 := below_step b1 b2
    have lo2 : w.heap.size ≤ g2 := Nat.le_trans b1.size l2
    clear o1 l1 l1' b1 b2 l2
    go_wp2_with fail
    refine (toInts_any _ xs _ _ (reads_below hr B2) hs).mono ?_
    rintro e w3 ⟨v, rfl, g3, c3, rfl, l3, l3', o3, b3⟩
    have B3 := below_step B2 b3
    have o23 := owni_below o2 b3 l2'
    have lo3 : w.heap.size ≤ g3 := Nat.le_trans B2.size l3
    have n23 : g2 ≠ g3 := by omega
    clear o2 l3 b3 B2
    go_wp2_with fail
    refine (implPut_any _ xs _ _ _ _ (reads_owni o3)).mono ?_
    rintro e w4 ⟨v, rfl, g4, c4, rfl, l4, l4', o4, b4⟩
    have B4 := below_step B3 b4
    have o24 := owni_below o23 b4 (owni_lt o23).2
    have o34 := owni_below o3 b4 l3'
    have lo4 : w.heap.size ≤ g4 := Nat.le_trans B3.size l4
    have n24 : g2 ≠ g4 := by have := (owni_lt o23).2; omega
    have n34 : g3 ≠ g4 := by omega
    clear B3 b4 o3 o23 l4
    go_wp2_with fail
    refine (eqInts_any _ _ (putL xs a1 a2) _ _ _ (reads_owni o4) (reads_owni o24) (by omega)).mono ?_
    rintro e w5 ⟨rfl, n5, rfl⟩
    replace o4 := owni_drewN (k := n5) o4
    replace o24 := owni_drewN (k := n5) o24
    replace o34 := owni_drewN (k := n5) o34
    replace B4 := below_drewN B4 n5
    clear l4' l3' l2'
    generalize w4.drewN n5 = w5 at o4 o24 o34 B4 ⊢
    go_wp2_with fail
    refine (toInts_any _ xs _ _ (reads_below hr B4) hs).mono ?_
    rintro e w6 ⟨v, rfl, g6, c6, rfl, l6, l6', o6, b6⟩
    replace o4 := owni_below o4 b6 (owni_lt o4).2
    replace o24 := owni_below o24 b6 (owni_lt o24).2
    replace o34 := owni_below o34 b6 (owni_lt o34).2
    replace B4 := below_step B4 b6
    clear l6 l6' b6
    go_wp2_with fail
    refine (eqInts_any _ _ xs _ _ _ (reads_owni o34) (reads_owni o6) (by omega)).mono ?_
    rintro e w7 ⟨rfl, n7, rfl⟩
    replace o4 := owni_drewN (k := n7) o4
    replace o24 := owni_drewN (k := n7) o24
    replace o34 := owni_drewN (k := n7) o34
    replace B4 := below_drewN B4 n7
    clear o6
    generalize w6.drewN n7 = w7 at o4 o24 o34 B4 ⊢
    go_wp2_with fail
    refine (mark_any _ _ _ _ _ _ _ _ (by omega) (by omega) (by omega) o34).mono ?_
    rintro e w8 ⟨rfl, own38, gr8⟩
    replace o4 := owni_grown o4 gr8 (fun h => n34 h.symm)
    replace o24 := owni_grown o24 gr8 n23
    replace B4 := B4.grown gr8 B4.size (by intro k hk; cases hk; exact lo3)
    clear own38 gr8 o34
    have hk0 : ¬ ((1 : Int) + (xs.length : Int) < 0) := by omega
    go_wp2_with fail
    refine (eqInts_any _ _ (putL xs a1 a2) _ _ _ (reads_owni o4) (reads_owni o24) (by omega)).mono ?_
    rintro e w9 ⟨rfl, n9, rfl⟩
    replace o4 := owni_drewN (k := n9) o4
    replace o24 := owni_drewN (k := n9) o24
    replace B4 := below_drewN B4 n9
    generalize w8.drewN n9 = w9 at o4 o24 B4 ⊢
    go_wp2_with fail
    refine (mark_any _ _ _ _ _ _ _ _ (by omega) (by omega) (by omega) o4).mono ?_
    rintro e w10 ⟨rfl, own4, gr10⟩
    replace o24 := owni_grown o24 gr10 n24
    replace B4 := B4.grown gr10 B4.size (by intro k hk; cases hk; exact lo4)
    clear gr10 o4
    go_wp2_with fail
    refine (held_any _ _ _ _ _ (by omega) (by omega) (by omega) (reads_own own4)).mono ?_
    rintro e w11 ⟨rfl, rfl⟩
    have hk1 : ¬ ((1 : Int) + ((putL xs a1 a2).length : Int) < 0) := by omega
    go_wp2_with fail
    refine (toInts_any _ xs _ _ (reads_below hr B4) hs).mono ?_
    rintro e w12 ⟨v, rfl, g12, c12, rfl, l12, l12', o12, b12⟩
    replace own4 := own_below own4 b12 (own_lt own4).2
    replace o24 := owni_below o24 b12 (owni_lt o24).2
    replace B4 := below_step B4 b12
    clear l12 l12' b12
    go_wp2_with fail
    refine (implPut_any _ xs _ _ _ _ (reads_owni o12)).mono ?_
    rintro e w13 ⟨v, rfl, g13, c13, rfl, l13, l13', o13, b13⟩
    replace own4 := own_below own4 b13 (own_lt own4).2
    replace o24 := owni_below o24 b13 (owni_lt o24).2
    replace B4 := below_step B4 b13
    clear l13 l13' b13 o12
    go_wp2_with fail
    refine (eqInts_any _ _ (putL xs a1 a2) _ _ _ (reads_owni o13) (reads_owni o24) (by omega)).mono ?_
    rintro e w14 ⟨rfl, n14, rfl⟩
    replace own4 := own_drewN (k := n14) own4
    replace B4 := below_drewN B4 n14
    clear o13 o24
    generalize w13.drewN n14 = w14 at own4 B4 ⊢
    go_wp2_with fail
    refine (held_any _ _ _ _ _ (by omega) (by omega) (by omega) (reads_own own4)).mono ?_
    rintro e w15 ⟨rfl, rfl⟩
    go_wp2
    go_ret
    exact ⟨rfl, B4⟩
  · have hs' : (1048576 : Int) < (xs.length : Int) := by omega
    go_enter Try.func6, Try.ntmps6
    go_wp2
    go_ret
    exact ⟨rfl, Below.refl _ _⟩

set_option maxRecDepth 100000 in
theorem lifted (os : Os) (started : os.Started) (H : Type) (enc : TypeId × Value → H) :
    ReturnsInHanded {} Try.checked os 6 .any (Rows.fnExactPutSpec.pre6 enc Try.prog Try.f6 Rows.fnExactPutRow.domain false) (Rows.fnExactPutSpec.post enc Try.prog Try.f6 false true false false) := by
  refine returnsInHanded_of_change (C := Try.checked) own started (by kernel_rfl) Try.func6
    (ChangeSpec.witness6 (enc := enc) (C := Try.checked) false ⟨#[], #[.slice none 0 0, .int .i64 0, .int .i64 0], []⟩ 8 (by kernel_rfl) (by kernel_rfl) (by kernel_rfl) (by kernel_rfl)) ?_
  intro W base args ds gs before hval0 hW hcnd _
  have hval : ∀ (j : Nat) t v, Try.f6.params[j]? = some t → args[j]? = some v → Value.okWide Try.prog W .any base t v := hval0
  have hW' := hW
  obtain ⟨p, q, hA0, hV, rfl, hfz, hnd⟩ := hW
  have hA : DataW.TrodAll enc Try.prog W 0 (fun _ => true) true Try.f6.params.toList args.toList ds p := hA0
  rw [Try.params6] at hA hval
  obtain ⟨v0, vs0, d0, ds0, p0, q0, hargs, rfl, rfl, h0, r0⟩ := trodAll_cons hA
  obtain ⟨v1, vs1, d1, ds1, p1, q1, rfl, rfl, rfl, h1, r1⟩ := trodAll_cons r0
  obtain ⟨v2, vs2, d2, ds2, p2, q2, rfl, rfl, rfl, h2, r2⟩ := trodAll_cons r1
  obtain ⟨rfl, rfl, rfl⟩ := trodAll_nil r2
  obtain rfl : args = #[v0, v1, v2] := by cases args; simp_all
  obtain ⟨rfl, rfl⟩ := trodVars_none hV
  have k0 := h0
  have lt0 : ∀ x ∈ p0, x.block < W.heap.size := by obtain ⟨m, hm⟩ := k0; exact DataW.trod_lt m _ _ _ hm
  have k1 := h1
  have lt1 : ∀ x ∈ p1, x.block < W.heap.size := by obtain ⟨m, hm⟩ := k1; exact DataW.trod_lt m _ _ _ hm
  have k2 := h2
  have lt2 : ∀ x ∈ p2, x.block < W.heap.size := by obtain ⟨m, hm⟩ := k2; exact DataW.trod_lt m _ _ _ hm
  obtain ⟨a0, len0, cap0, rfl⟩ := okWide_slice Try.underlying24 (hval 0 24 v0 rfl rfl)
  obtain ⟨z0, w0⟩ : ∃ zs, IsRow .i64 W a0 len0 cap0 zs := by
    obtain ⟨fuel, hf⟩ := h0
    rcases open_ints Try.underlying24 Try.underlying2 (by kernel_rfl) hf with ⟨hcs, _⟩ | ⟨x, l, c, zs, hcs, _, hl, hm, hz, _, hcell, hwz⟩
    · simp [Value.cells] at hcs
      obtain ⟨rfl, rfl, rfl⟩ := hcs
      exact ⟨[], .inl ⟨rfl, rfl, rfl, rfl⟩⟩
    · simp [Value.cells] at hcs
      obtain ⟨rfl, rfl, rfl⟩ := hcs
      exact ⟨zs, .inr ⟨_, rfl, hl, hm, by simpa using hz, hcell, hwz⟩⟩
  obtain ⟨a1, rfl, e1, f1, w1⟩ := open_int Try.underlying2 (hval 1 2 v1 rfl rfl) h1
  obtain ⟨a2, rfl, e2, f2, w2⟩ := open_int Try.underlying2 (hval 2 2 v2 rfl rfl) h2
  clear hA0 hval0
  refine (walk a0 len0 cap0 z0 a1 w1 a2 w2 W w0).mono fun e W' ⟨he, bel⟩ => ?_
  subst he
  exact ⟨_, rfl, _, _, _, [], _, [], hW', trodAll_mk1 (shut_bool Try.underlying4 _), (trodAll_cons_mk (Below.trod laidOut (by kernel_rfl) (of_decide_eq_true (by kernel_rfl)) k0 bel lt0) (trodAll_cons_mk (Below.trod laidOut (by kernel_rfl) (of_decide_eq_true (by kernel_rfl)) k1 bel lt1) (trodAll_cons_mk (Below.trod laidOut (by kernel_rfl) (of_decide_eq_true (by kernel_rfl)) k2 bel lt2) trodAll_mk0))), rfl, bel.frame _, fun h => by cases h⟩

theorem over : Rows.fnExactPutRow.holds Try.pinned (OpenSpec.ofChange Rows.fnExactPutSpec) :=
  OpenClaim.holds_of_wide 6 Try.f6 rfl rfl rfl rfl rfl rfl rfl ⟨rfl, rfl, rfl, rfl, rfl⟩ rfl rfl rfl rfl rfl (by kernel_rfl) Try.func6 (by kernel_rfl)
    (of_decide_eq_true (by kernel_rfl)) (by unfold Func.isWrapper; first | (rw [if_pos (by decide +kernel)]; kernel_rfl) | (rw [if_neg (by decide +kernel)]; exact ⟨rfl, rfl⟩))
    (fun os started H enc _ => lifted os started H enc)

theorem proved : Rows.FnExactPutSaid :=
  over
#print axioms proved
end Go.Proofs.Ytkiakcmhcjiknaa.fnExactPut
