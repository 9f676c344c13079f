/- How many hold a line: the contracts of the two counts, of what a holding is called, and of Granted, of the program and of its specification. -/
import Derived.Test.YtapooehfoihdlaaDoorHolds
import Derived.LoopN
namespace Go.Proofs.YtapooehfoihdlaaDoor
open Go.ChangeShapes Go.WideShapes Go.RowKit
open Go.Maps (Keyed)
set_option linter.unusedVariables false

theorem drewN_below {B : Nat} {a w : World} (h : Below B a w) (q : Nat) : Below B a (w.drewN q) := ⟨h.os, h.tape, h.output, h.size, h.block⟩
abbrev Crowd (w : World) (b n : Nat) (f : Value → Option Int) : Prop := MapV Tryd.prog 49 2 w b n f
theorem Crowd.at {w : World} {b n : Nat} {f : Value → Option Int} (h : Crowd w b n f) (x y z : Bool) {c : Int} (e : (f (hk x y z)).getD 0 = c) :
    (Instr.lookup 46 (.map (some b)) (hk x y z) false).run Tryd.prog w = .ok (.int .i64 c) w := by
  obtain ⟨l, hl⟩ := hk_key x y z
  have := MapV.look h holdKeyed Tryd.underlying46 Tryd.underlying2 (zero2 _) hl
  rwa [e] at this

set_option maxHeartbeats 1000000 in
theorem alone_any {b n : Nat} {f : Value → Option Int} (w : World) (h : Hold w) (hm : Crowd w b n f) (u2 u3 : Int) (e2 : (f (hk true true false)).getD 0 = u2) (e3 : (f (hk true true true)).getD 0 = u3) (lo : -9223372036854775808 ≤ u2 + u3) (hi : u2 + u3 ≤ 9223372036854775807) :
    Calls Tryd.prog 28 #[.map (some b)] w fun x w' => x = .returned (.int .i64 (u2 + u3)) ∧ w' = w.drewN 1 := by
  obtain ⟨c0, c1, c2, c3, c4, c5, c6, c7, c8, c9, c10, c11⟩ := h.cells
  have l2 : (Instr.lookup 46 (.map (some b)) (hk true true false) false).run Tryd.prog w.drew = .ok (.int .i64 u2) w.drew := Crowd.at (hm.drewN 1) true true false e2
  have l3 : (Instr.lookup 46 (.map (some b)) (hk true true true) false).run Tryd.prog w.drew = .ok (.int .i64 u3) w.drew := Crowd.at (hm.drewN 1) true true true e3
  go_enter Tryd.func28, Tryd.ntmps28
  go_wp2_with fail
  go_region
  all_goals
    go_wp2
    go_ret
    exact ⟨rfl, rfl⟩

set_option maxHeartbeats 1000000 in
theorem here_any {b n : Nat} {f : Value → Option Int} (w : World) (h : Hold w) (hm : Crowd w b n f) (u1 u2 u3 : Int) (e1 : (f (hk true false false)).getD 0 = u1) (e2 : (f (hk true true false)).getD 0 = u2) (e3 : (f (hk true true true)).getD 0 = u3)
    (lo : -9223372036854775808 ≤ u2 + u3) (hi : u2 + u3 ≤ 9223372036854775807) (lo1 : -9223372036854775808 ≤ u1 + (u2 + u3)) (hi1 : u1 + (u2 + u3) ≤ 9223372036854775807) :
    Calls Tryd.prog 29 #[.map (some b)] w fun x w' => x = .returned (.int .i64 (u1 + (u2 + u3))) ∧ ∃ q, w' = w.drewN q := by
  obtain ⟨c0, c1, c2, c3, c4, c5, c6, c7, c8, c9, c10, c11⟩ := h.cells
  have l1 : ∀ q, (Instr.lookup 46 (.map (some b)) (hk true false false) false).run Tryd.prog (w.drewN q) = .ok (.int .i64 u1) (w.drewN q) := fun q => Crowd.at (hm.drewN q) true false false e1
  have C : ∀ q, Calls Tryd.prog 28 #[.map (some b)] (w.drewN q) fun x w' => x = .returned (.int .i64 (u2 + u3)) ∧ ∃ p, w' = (w.drewN q).drewN p := fun q =>
    (alone_any (w.drewN q) (h.drewN q) (hm.drewN q) u2 u3 e2 e3 lo hi).mono fun x w' ⟨h1, h2⟩ => ⟨h1, 1, h2⟩
  generalize hv : u2 + u3 = v at *
  clear hv
  go_enter Tryd.func29, Tryd.ntmps29
  go_wp2_with fail
  go_quiet (first | (go_at_call 28; exact Calls.quiet_of (C _)))
  go_wp2
  go_ret
  exact ⟨rfl, _, rfl⟩

def grantI (wr : Bool) (o : Int) : Int := if o < 0 then -1 else if wr then 3 else if o = 0 then 2 else 1
theorem hold_eq (a b c d e f : Bool) (w : World) : (Op.equalIn 10000 49 (hk a b c) (hk d e f)).run Tryd.prog w = .ok (a == d && b == e && c == f) w := by
  cases a <;> cases b <;> cases c <;> cases d <;> cases e <;> cases f <;> kernel_rfl
theorem hold_ix0 (w : World) : (Instr.index 50 (.agg #[.bool false, .bool false, .bool false, .bool true, .bool false, .bool false, .bool true, .bool true, .bool false, .bool true, .bool true, .bool true]) (.int .i64 0)).run Tryd.prog w = .ok (hk false false false) w := by kernel_rfl
theorem hold_ix1 (w : World) : (Instr.index 50 (.agg #[.bool false, .bool false, .bool false, .bool true, .bool false, .bool false, .bool true, .bool true, .bool false, .bool true, .bool true, .bool true]) (.int .i64 1)).run Tryd.prog w = .ok (hk true false false) w := by kernel_rfl
theorem hold_ix2 (w : World) : (Instr.index 50 (.agg #[.bool false, .bool false, .bool false, .bool true, .bool false, .bool false, .bool true, .bool true, .bool false, .bool true, .bool true, .bool true]) (.int .i64 2)).run Tryd.prog w = .ok (hk true true false) w := by kernel_rfl
theorem hold_ix3 (w : World) : (Instr.index 50 (.agg #[.bool false, .bool false, .bool false, .bool true, .bool false, .bool false, .bool true, .bool true, .bool false, .bool true, .bool true, .bool true]) (.int .i64 3)).run Tryd.prog w = .ok (hk true true true) w := by kernel_rfl
set_option maxHeartbeats 2000000 in
theorem stateOf1 (w : World) (h : Hold w) :
    Calls Tryd.prog 35 #[hk true false false] w fun x w' => x = .returned (.int .i64 1) ∧ Below w.heap.size w w' := by
  obtain ⟨c0, c1, c2, c3, c4, c5, c6, c7, c8, c9, c10, c11⟩ := h.cells
  have hl := h.lt
  have E := hold_eq
  have i0 := hold_ix0
  have i1 := hold_ix1
  have i2 := hold_ix2
  have i3 := hold_ix3
  go_enter Tryd.func35, Tryd.ntmps35
  go_wp2_with fail
  refine wp_loop_rounds 2 ?_
  rw [rounds_succ]
  go_wp2
  rw [rounds_succ]
  go_wp2
  go_ret
  refine ⟨rfl, ?_⟩
  repeat first
    | exact Below.refl _ _
    | refine Below.setCell ?_ (by simp <;> omega) _
    | refine Below.alloc ?_ (by simp <;> omega) _
    | refine Below.drew ?_

set_option maxHeartbeats 2000000 in
theorem stateOf2 (w : World) (h : Hold w) :
    Calls Tryd.prog 35 #[hk true true false] w fun x w' => x = .returned (.int .i64 2) ∧ Below w.heap.size w w' := by
  obtain ⟨c0, c1, c2, c3, c4, c5, c6, c7, c8, c9, c10, c11⟩ := h.cells
  have hl := h.lt
  have E := hold_eq
  have i0 := hold_ix0
  have i1 := hold_ix1
  have i2 := hold_ix2
  have i3 := hold_ix3
  go_enter Tryd.func35, Tryd.ntmps35
  go_wp2_with fail
  refine wp_loop_rounds 3 ?_
  rw [rounds_succ]
  go_wp2
  rw [rounds_succ]
  go_wp2
  rw [rounds_succ]
  go_wp2
  go_ret
  refine ⟨rfl, ?_⟩
  repeat first
    | exact Below.refl _ _
    | refine Below.setCell ?_ (by simp <;> omega) _
    | refine Below.alloc ?_ (by simp <;> omega) _
    | refine Below.drew ?_

set_option maxHeartbeats 2000000 in
theorem stateOf3 (w : World) (h : Hold w) :
    Calls Tryd.prog 35 #[hk true true true] w fun x w' => x = .returned (.int .i64 3) ∧ Below w.heap.size w w' := by
  obtain ⟨c0, c1, c2, c3, c4, c5, c6, c7, c8, c9, c10, c11⟩ := h.cells
  have hl := h.lt
  have E := hold_eq
  have i0 := hold_ix0
  have i1 := hold_ix1
  have i2 := hold_ix2
  have i3 := hold_ix3
  go_enter Tryd.func35, Tryd.ntmps35
  go_wp2_with fail
  refine wp_loop_rounds 4 ?_
  rw [rounds_succ]
  go_wp2
  rw [rounds_succ]
  go_wp2
  rw [rounds_succ]
  go_wp2
  rw [rounds_succ]
  go_wp2
  go_ret
  refine ⟨rfl, ?_⟩
  repeat first
    | exact Below.refl _ _
    | refine Below.setCell ?_ (by simp <;> omega) _
    | refine Below.alloc ?_ (by simp <;> omega) _
    | refine Below.drew ?_

set_option maxHeartbeats 1000000 in
theorem implGranted_any (wr : Bool) (o : Int) (w : World) (h : Hold w) (ho : (Lit.int .i64 o).wf = true) :
    Calls Tryd.prog 19 #[.bool wr, .int .i64 o] w fun x w' => x = .returned (.int .i64 (grantI wr o)) ∧ Below w.heap.size w w' := by
  by_cases h0 : o < 0
  · go_enter Tryd.func19, Tryd.ntmps19
    go_wp2
    go_ret
    exact ⟨by simp [grantI, h0], Below.refl _ _⟩
  have hmm := @run_makeMap Tryd.prog
  have h0' : 0 ≤ o := by omega
  have hhi : o ≤ 9223372036854775807 := by simp [Lit.wf] at ho; omega
  obtain ⟨l, hl⟩ := hk_key true false false
  obtain ⟨w1, r1, m1, g1⟩ := MapV.put (mapV_made w Tryd.prog 49 2) holdKeyed Tryd.underlying46 Tryd.underlying2 (by decide) hl ho
  have B0 : Below w.heap.size w (w.alloc (.map #[] 0)) := (Below.refl _ _).alloc (Nat.le_refl _) _
  have B1 : Below w.heap.size w w1 := B0.grown g1 B0.size (fun j hj => by cases hj; exact Nat.le_refl _)
  have hl0 := h.lt
  have n1 : putV (fun _ => none) (hk true false false) o (hk true true false) = none := putV_other _ _ (by simp)
  have n2 : putV (fun _ => none) (hk true false false) o (hk true true true) = none := putV_other _ _ (by simp)
  have n3 : putV (fun _ => none) (hk true false false) o (hk true false false) = some o := putV_same _ _ _
  obtain ⟨c0, c1, c2, c3, c4, c5, c6, c7, c8, c9, c10, c11⟩ := h.cells
  cases wr
  · by_cases hz : o = 0
    · subst hz
      go_enter Tryd.func19, Tryd.ntmps19
      go_wp2_with fail
      refine (here_any w1 (h.to B1) m1 0 0 0 (by rw [n3]; rfl) (by rw [n1]; rfl) (by rw [n2]; rfl) (by decide) (by decide) (by decide) (by decide)).mono ?_
      rintro _ _ ⟨rfl, q, rfl⟩
      go_wp2_with fail
      refine (stateOf2 _ ((h.to B1).drewN q)).mono ?_
      rintro _ w2 ⟨rfl, B2⟩
      go_wp2
      go_ret
      exact ⟨rfl, (drewN_below B1 q).trans (B2.mono (drewN_below B1 q).size)⟩
    · have hz' : (o == 0) = false := by simpa using hz
      go_enter Tryd.func19, Tryd.ntmps19
      go_wp2_with fail
      refine (here_any w1 (h.to B1) m1 o 0 0 (by rw [n3]; rfl) (by rw [n1]; rfl) (by rw [n2]; rfl) (by decide) (by decide) (by omega) (by omega)).mono ?_
      rintro _ _ ⟨rfl, q, rfl⟩
      rw [show o + (0 + 0) = o by omega]
      go_wp2_with fail
      refine (stateOf1 _ ((h.to B1).drewN q)).mono ?_
      rintro _ w2 ⟨rfl, B2⟩
      go_wp2
      go_ret
      exact ⟨by simp [grantI, h0, hz], (drewN_below B1 q).trans (B2.mono (drewN_below B1 q).size)⟩
  · obtain ⟨w2, r2, m2, g2⟩ := MapV.wiped m1 Tryd.underlying46 0
    have B2 : Below w.heap.size w w2 := B1.grown g2 B1.size (fun j hj => by cases hj; exact Nat.le_refl _)
    go_enter Tryd.func19, Tryd.ntmps19
    go_wp2_with fail
    refine (here_any w2 (h.to B2) m2 0 0 0 rfl rfl rfl (by decide) (by decide) (by decide) (by decide)).mono ?_
    rintro _ _ ⟨rfl, q, rfl⟩
    go_wp2_with fail
    refine (stateOf3 _ ((h.to B2).drewN q)).mono ?_
    rintro _ w3 ⟨rfl, B3⟩
    go_wp2
    go_ret
    exact ⟨by simp [grantI, h0], (drewN_below B2 q).trans (B3.mono (drewN_below B2 q).size)⟩

set_option maxHeartbeats 400000 in
theorem specGranted_any (wr : Bool) (o : Int) (w : World) :
    Calls Tryd.prog 21 #[.bool wr, .int .i64 o] w fun x w' => x = .returned (.int .i64 (grantI wr o)) ∧ w' = w := by
  by_cases h0 : o < 0
  · go_enter Tryd.func21, Tryd.ntmps21
    go_wp2
    go_ret
    exact ⟨by simp [grantI, h0], rfl⟩
  · have h0' : 0 ≤ o := by omega
    cases wr
    · by_cases hz : o = 0
      · subst hz
        go_enter Tryd.func21, Tryd.ntmps21
        go_wp2
        go_ret
        exact ⟨rfl, rfl⟩
      · go_enter Tryd.func21, Tryd.ntmps21
        go_wp2
        go_ret
        exact ⟨by simp [grantI, h0, hz], rfl⟩
    · go_enter Tryd.func21, Tryd.ntmps21
      go_wp2
      go_ret
      exact ⟨by simp [grantI, h0], rfl⟩
end Go.Proofs.YtapooehfoihdlaaDoor
