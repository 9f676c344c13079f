/- The iterators of the program: the ways of one set, and of all sets. Conditions: sets that are there. -/
import Derived.Test.YtmldilmiihafoaaJOwn7Own3OpensBaseWays
import Derived.Test.YtmldilmiihafoaaRange
import Derived.RangeFuncCalls
import Derived.Shelf.RegionOpen
import Derived.OwnWalkIn
import Derived.TacticsInMore
import Derived.LoopNIn
import Derived.LoopIn
namespace Go.Proofs.Ytmldilmiihafoaa
open Go.ChangeShapes Go.WideShapes Go.ChangeAt Go.RowKit Go.Shelf
set_option linter.unusedVariables false
attribute [local go_sem] Oper.semAt_some

/-- A row of n ways in memory, by its cells. -/
structure WCells where
  line : Int
  state : Int
  addr : Option Addr
  len : Nat
  cap : Nat
abbrev WCells.agg (c : WCells) : Value := .agg #[.int .i64 c.line, .int .i64 c.state, .slice c.addr c.len c.cap]
def RowAt (W : World) (b off n : Nat) (c : Nat → WCells) : Prop :=
  ∀ k, k < n → W.cell? ⟨b, off + k * 3, none⟩ = some (.int .i64 (c k).line) ∧ W.cell? ⟨b, off + k * 3 + 1, none⟩ = some (.int .i64 (c k).state) ∧ W.cell? ⟨b, off + k * 3 + 2, none⟩ = some (.slice (c k).addr (c k).len (c k).cap)

set_option maxHeartbeats 1000000 in
theorem waysOf1_iter (Bs b off n cap : Nat) (c : Nat → WCells) (hn : n ≤ 1048576) :
    Iter Try.prog 113 #[.pointer (some ⟨Bs, 0, none⟩)] (fun k => #[.int .i64 k, (c k).agg]) n
      (fun W => W.cell? ⟨Bs, 0, none⟩ = some (.slice (some ⟨b, off, none⟩) n cap) ∧ RowAt W b off n c) := by
  intro l J Jx W hJ hJx hR hY h0
  obtain ⟨r0, _⟩ := hR 0 W h0
  refine callsIn_of_wp Try.func113 rfl trivial ?_ rfl
  simp only [Try.ntmps113, List.size_toArray, List.length_cons, List.length_nil, Nat.reduceAdd, Nat.reduceSub, Array.replicate_succ, Array.replicate_zero, List.push_toArray, List.append_toArray, List.nil_append, List.cons_append]
  gi_wp2
  gi_loopw [7] (fun p wr => ∃ k : Nat, k ≤ n ∧ p = .int .i64 k ∧ J k wr) (fun p _ => n - (intOf p).toNat)
  case atStart => exact ⟨0, Nat.zero_le _, rfl, h0⟩
  case round =>
    obtain ⟨k, hk, rfl, hj⟩ := hrel
    by_cases hlt : k < n
    · have hlt' : (k : Int) < (n : Int) := by omega
      obtain ⟨q0, q1⟩ := hR k wr hj
      obtain ⟨c0, c1, c2⟩ := q1 k hlt
      obtain ⟨fn, tmps, assign, body, hy, hrd⟩ := hY k (wr.alloc (.cells #[.int .i64 (c k).line, .int .i64 (c k).state, .slice (c k).addr (c k).len (c k).cap] 29)) hlt (hJ.alloc _ hj)
      gi_wp2
      refine ⟨rfl, hrd.mono ?_⟩
      rintro e W3 ⟨_, ⟨rfl, hj3⟩ | ⟨rfl, hx3⟩⟩
      · gi_wp2
        go_roundw
        case rel => exact ⟨k + 1, by omega, by go_num, hj3⟩
        case measure => simp [intOf]; omega
      · gi_wp2
        refine bodyPost_ret (results_none rfl _ _ _) rfl ?_
        exact ⟨⟨_, rfl⟩, .inr ⟨k, hlt, hx3⟩⟩
    · gi_wp2
      go_end0
      exact ⟨⟨_, rfl⟩, .inl (by have : k = n := by omega
                                subst this; exact hj)⟩
end Go.Proofs.Ytmldilmiihafoaa
