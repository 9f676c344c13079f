/- The contracts of the draws of a set and a number: some numbers are drawn, and nothing that was there turns. Conditions: the bytes are at most 2^61. -/
import Derived.Test.YthbdpmnlhnfeaaaDraw
namespace Go.Proofs.Ythbdpmnlhnfeaaa
open Go.ChangeShapes Go.WideShapes Go.ChangeAt Go.RowKit

theorem below_of_grown {w w1 w' : World} (h : Below w.heap.size w w1) (hg : w1.grownBy w' (some w.heap.size)) : Below w.heap.size w w' :=
  h.grown hg h.size (by intro k hk; cases hk; exact Nat.le_refl _)

set_option maxHeartbeats 400000 in
theorem drawIn_any (a : Option Addr) (len cap : Nat) (zs : List Int) (w : World) (hr : Row8 w a len zs) :
    Calls Try.prog 28 #[.slice a len cap] w fun e w' => ∃ s i : Int, e = .returned (.tuple #[.int .i64 s, .int .i64 i]) ∧ Below w.heap.size w w' := by
  go_enter Try.func28, Try.ntmps28
  go_wp2_with fail
  refine (l1New_any _ _ _ zs _ hr).mono ?_
  rintro e w1 ⟨rfl, hc1, hb1⟩
  go_wp2_with fail
  refine (l1DrawSet_any _ _ _ hc1).mono ?_
  rintro e w2 ⟨s, rfl, hc2, hg2⟩
  go_wp2_with fail
  refine (l1DrawItem_any _ _ _ hc2).mono ?_
  rintro e w3 ⟨i, rfl, hc3, hg3⟩
  go_wp2
  go_ret2
  exact ⟨_, _, rfl, below_of_grown hb1 (grown_trans hg2 hg3)⟩

set_option maxHeartbeats 400000 in
theorem drawWith_any (a : Option Addr) (len cap : Nat) (zs : List Int) (w : World) (hr : Row8 w a len zs) :
    Calls Try.prog 10 #[.slice a len cap] w fun e w' => ∃ s i : Int, e = .returned (.tuple #[.int .i64 s, .int .i64 i]) ∧ Below w.heap.size w w' := by
  go_enter Try.func10, Try.ntmps10
  go_wp2_with (go_at_call 28; refine (drawIn_any _ _ _ zs _ hr).mono ?_; rintro e w1 ⟨s, i, rfl, hb⟩)
  go_ret2
  exact ⟨_, _, rfl, hb⟩

set_option maxHeartbeats 400000 in
theorem drawCount_any (a : Option Addr) (len cap : Nat) (zs : List Int) (w : World) (hr : Row8 w a len zs) :
    Calls Try.prog 32 #[.slice a len cap] w fun e w' => ∃ s : Int, e = .returned (.int .i64 s) ∧ Below w.heap.size w w' := by
  go_enter Try.func32, Try.ntmps32
  go_wp2_with fail
  refine (l1New_any _ _ _ zs _ hr).mono ?_
  rintro e w1 ⟨rfl, hc1, hb1⟩
  go_wp2_with fail
  refine (l1DrawSet_any _ _ _ hc1).mono ?_
  rintro e w2 ⟨s, rfl, hc2, hg2⟩
  go_wp2
  go_ret
  exact ⟨_, rfl, below_of_grown hb1 hg2⟩

set_option maxHeartbeats 400000 in
theorem drawMembers_any (a : Option Addr) (len cap : Nat) (zs : List Int) (w : World) (hr : Row8 w a len zs) :
    Calls Try.prog 13 #[.slice a len cap] w fun e w' => ∃ s : Int, e = .returned (.int .i64 s) ∧ Below w.heap.size w w' := by
  go_enter Try.func13, Try.ntmps13
  go_wp2_with (go_at_call 32; refine (drawCount_any _ _ _ zs _ hr).mono ?_; rintro e w1 ⟨s, rfl, hb⟩)
  go_ret
  exact ⟨_, rfl, hb⟩

theorem row8_below {w w' : World} {a : Option Addr} {len : Nat} {zs : List Int} (h : Row8 w a len zs) (hb : Below w.heap.size w w') : Row8 w' a len zs := by
  refine ⟨h.1, ?_⟩
  rcases h.2 with h | ⟨b, off, ha, hlt, hc⟩
  · exact .inl h
  · exact .inr ⟨b, off, ha, Nat.lt_of_lt_of_le hlt hb.size, fun j hj => (hb.cell (by exact hlt)).trans (hc j hj)⟩

set_option maxHeartbeats 400000 in
theorem big_any (a : Option Addr) (len cap : Nat) (w : World) :
    Calls Try.prog 9 #[.slice a len cap] w fun e w' => e = .returned (.bool (decide ((4096 : Int) < len))) ∧ w' = w := by
  go_enter Try.func9, Try.ntmps9
  go_wp2
  go_ret
  exact ⟨rfl, rfl⟩

end Go.Proofs.Ythbdpmnlhnfeaaa
