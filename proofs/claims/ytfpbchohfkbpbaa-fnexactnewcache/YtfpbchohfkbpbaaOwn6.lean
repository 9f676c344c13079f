/- The contracts of the laws' own helpers over lists of numbers, in the one form that all types have. Conditions: lengths that a machine can hold. -/
import Derived.Test.YtfpbchohfkbpbaaOwn5
import Derived.LoopN
namespace Go.Proofs.Ytfpbchohfkbpbaa
open Go.ChangeShapes Go.WideShapes Go.ChangeAt Go.RowKit
set_option linter.unusedVariables false

def szI (n : Nat) (left : Int) : Int := if (n : Int) ≤ left then left - n else -1
theorem szI_yes {n : Nat} {left : Int} (h : (n : Int) ≤ left) : szI n left = left - n := by unfold szI; rw [if_pos h]
theorem szI_no {n : Nat} {left : Int} (h : ¬ (n : Int) ≤ left) : szI n left = -1 := by unfold szI; rw [if_neg h]

set_option maxHeartbeats 400000 in
theorem szInt64S_rep (a : Option Addr) (xs : List Int) (cap : Nat) (left : Int) (w : World) (h0 : 0 ≤ left) (h1 : left ≤ 1048576) (hm : xs.length ≤ maxLen) :
    Calls Try.prog 74 #[.slice a xs.length cap, .int .i64 left] w fun e w' => e = .returned (.int .i64 (szI (intsM.bk xs) left)) ∧ w' = w := by
  have hb : intsM.bk xs = xs.length := by
    show xs.length + sumbk intM xs = xs.length
    have : sumbk intM xs = 0 := by
      induction xs with
      | nil => rfl
      | cons x xs ih => simp only [sumbk, List.map_cons, List.sum_cons] at ih ⊢; rw [ih (by simp at hm; omega)]; rfl
    omega
  rw [hb]
  have hm' : xs.length ≤ 9223372036854775807 := hm
  clear hm hb
  generalize xs.length = n at hm'
  by_cases hl : (n : Int) ≤ left
  · have hl' : ¬ (left - (n : Int) < 0) := by omega
    rw [szI_yes hl]
    go_enter Try.func74, Try.ntmps74
    go_wp2
    go_ret
    exact ⟨rfl, rfl⟩
  · have hl' : left - (n : Int) < 0 := by omega
    rw [szI_no hl]
    go_enter Try.func74, Try.ntmps74
    go_wp2
    go_ret
    exact ⟨rfl, rfl⟩

theorem toInt64S_rep (a : Option Addr) (xs : List Int) (cap : Nat) (w : World) (h : SlRd intR w a xs) (hm : intsM.bk xs ≤ 1048576) :
    Calls Try.prog 76 #[.slice a xs.length cap] w fun e w' => ∃ v, e = .returned v ∧ MadeR intsR w w' [v] xs :=
  (toInts_any a xs cap w (reads_of h) (by have : intsM.bk xs = xs.length + sumbk intM xs := rfl; omega)).mono fun e w' ⟨v, h1, h2⟩ => ⟨v, h1, madeR_ints h2 (in64_of h)⟩

theorem eqInt64S_rep (a1 a2 : Option Addr) (xs : List Int) (c1 c2 : Nat) (w : World) (h1 : SlRd intR w a1 xs) (h2 : SlRd intR w a2 xs) (hm : intsM.bk xs ≤ 1152921504606846976) :
    Calls Try.prog 78 #[.slice a1 xs.length c1, .slice a2 xs.length c2] w fun e w' => e = .returned (.bool true) ∧ ∃ n, w' = w.drewN n :=
  eqInts_any a1 a2 xs c1 c2 w (reads_of h1) (reads_of h2) (by have : intsM.bk xs = xs.length + sumbk intM xs := rfl; omega)

set_option maxHeartbeats 400000 in
theorem markInt64S_nil (k : Int) (w : World) :
    Calls Try.prog 80 #[.slice none 0 0, .int .i64 k] w fun e' w' => e' = .returned (.int .i64 k) ∧ w' = w := by
  go_enter Try.func80, Try.ntmps80
  go_wp2
  refine wp_loop_rounds 1 ?_
  rw [rounds_succ]
  go_wp2
  go_ret
  exact ⟨rfl, rfl⟩

theorem seqs_in64 {k : Int} {n : Nat} (h0 : 0 ≤ k) (h1 : k ≤ 1152921504606846976) (hm : n ≤ 1152921504606846976) : ∀ x ∈ seqs k n, In64 x := by
  intro x hx
  simp only [seqs, List.mem_map, List.mem_range] at hx
  obtain ⟨j, hj, rfl⟩ := hx
  constructor <;> omega

theorem markInt64S_rep (S : Foot) (v : Value) (k : Int) (xs : List Int) (w : World) (h0 : 0 ≤ k) (h1 : k ≤ 1152921504606846976) (hm : slcnt intM xs ≤ 1152921504606846976) (h : intsR.own w S [v] xs) :
    Calls Try.prog 80 #[v, .int .i64 k] w fun e' w' => e' = .returned (.int .i64 (k + slcnt intM xs)) ∧ intsR.own w' S [v] (slmark intM k xs) ∧ Chg S w w' := by
  rw [slcnt_ints] at hm ⊢
  rw [slmark_ints]
  rcases owni_of h with ⟨rfl, rfl⟩ | ⟨g, cap, rfl, hS, ho⟩
  · exact (markInt64S_nil k w).mono fun e w' ⟨e1, e2⟩ => ⟨by simpa using e1, by rw [e2]; exact h, by rw [e2]; exact Chg.refl _ _⟩
  · refine (mark_any 0 _ g cap k xs.length _ w h0 (by omega) (by omega) ho).mono fun e w' ⟨e1, e2, e3⟩ => ⟨e1, ?_, chg_grown e3 hS⟩
    have := own_of (S := S) (B := 0) (w := w') (g := g) (cap := cap) (zs := seqs k xs.length) (by unfold OwnI; rw [seqs_len]; exact e2) hS (seqs_in64 h0 h1 hm)
    rwa [seqs_len] at this

theorem heldInt64S_rep (a : Option Addr) (cap : Nat) (k : Int) (xs : List Int) (w : World) (h0 : 0 ≤ k) (h1 : k ≤ 1152921504606846976) (hm : slcnt intM xs ≤ 1152921504606846976) (h : SlRd intR w a (slmark intM k xs)) :
    Calls Try.prog 82 #[.slice a xs.length cap, .int .i64 k] w fun e' w' => e' = .returned (.int .i64 (k + slcnt intM xs)) ∧ w' = w := by
  rw [slcnt_ints] at hm ⊢
  rw [slmark_ints] at h
  exact held_any a cap k xs.length w h0 (by omega) (by omega) (reads_of h)

end Go.Proofs.Ytfpbchohfkbpbaa
