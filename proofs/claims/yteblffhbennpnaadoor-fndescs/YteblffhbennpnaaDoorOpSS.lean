
/- Lists of lists of ops: the contracts of the laws' own helpers over them. Conditions: lengths that a machine can hold. -/
import Derived.Test.YteblffhbennpnaaDoorOpL
namespace Go.Proofs.YteblffhbennpnaaDoor
open Go.ChangeShapes Go.WideShapes Go.ChangeAt Go.RowKit
set_option linter.unusedVariables false
abbrev opssR : Rep (List (List OpD)) := slR 34 opsR
abbrev opssM : Mk (List (List OpD)) := slM opsM
theorem opss_rd {w : World} {S : Foot} {a : Option Addr} {cap : Nat} {xs : List (List OpD)} (h : opssR.own w S [.slice a xs.length cap] xs) : SlRd opsR w a xs := by
  obtain ⟨a', cap', e, h1, h2, h3⟩ := opssR.own_rd h
  simp only [List.cons.injEq, Value.slice.injEq, and_true, true_and] at e
  rw [e.1]
  exact h3
theorem lens_bk (ps : List (List OpD)) : (ps.map List.length).sum ≤ (slM opsM).bk ps := by
  have h1 : (slM opsM).bk ps = ps.length + sumbk opsM ps := rfl
  have h2 : sumbk opsM ps = (ps.map List.length).sum := by
    induction ps with
    | nil => rfl
    | cons x xs ih => simp only [sumbk, List.map_cons, List.sum_cons] at ih ⊢; rw [ih rfl, bk_ops]
  omega




end Go.Proofs.YteblffhbennpnaaDoor
