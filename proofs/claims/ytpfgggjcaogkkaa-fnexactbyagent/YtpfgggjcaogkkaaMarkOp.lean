
/- Marks of lists of ops, of the laws' own helper. Conditions: lengths that a machine can hold. -/
import Derived.Test.YtpfgggjcaogkkaaOpL
import Derived.Test.YtpfgggjcaogkkaaElem
import Derived.LoopN
namespace Go.Proofs.Ytpfgggjcaogkkaa
open Go.ChangeShapes Go.WideShapes Go.ChangeAt Go.RowKit
set_option linter.unusedVariables false

theorem op_own4 {w : World} {S : Foot} {c : List Value} {u : OpD} (h : opR.own w S c u) : c = [.int .i64 u.1, .int .i64 u.2.1, .int .i64 u.2.2.1, .int .i64 u.2.2.2] ∧ In4 u := op_rd (opR.own_rd h)
theorem op_set0 {w : World} {c : List Value} {x : OpD} {y : Int} (hy : In64 y) (hr : opR.rd w c x) : ∀ W T, opR.own W T c x → opR.own W T (c.set 0 (.int .i64 y)) (y, x.2) := by
  intro W T ho
  obtain ⟨rfl, h⟩ := op_own4 ho
  exact own_op (u := (y, x.2)) ⟨hy, h.2.1, h.2.2.1, h.2.2.2⟩
theorem op_set1 {w : World} {c : List Value} {x : OpD} {y : Int} (hy : In64 y) (hr : opR.rd w c x) : ∀ W T, opR.own W T c x → opR.own W T (c.set 1 (.int .i64 y)) (x.1, y, x.2.2) := by
  intro W T ho
  obtain ⟨rfl, h⟩ := op_own4 ho
  exact own_op (u := (x.1, y, x.2.2)) ⟨h.1, hy, h.2.2.1, h.2.2.2⟩
theorem op_set2 {w : World} {c : List Value} {x : OpD} {y : Int} (hy : In64 y) (hr : opR.rd w c x) : ∀ W T, opR.own W T c x → opR.own W T (c.set 2 (.int .i64 y)) (x.1, x.2.1, y, x.2.2.2) := by
  intro W T ho
  obtain ⟨rfl, h⟩ := op_own4 ho
  exact own_op (u := (x.1, x.2.1, y, x.2.2.2)) ⟨h.1, h.2.1, hy, h.2.2.2⟩
theorem op_set3 {w : World} {c : List Value} {x : OpD} {y : Int} (hy : In64 y) (hr : opR.rd w c x) : ∀ W T, opR.own W T c x → opR.own W T (c.set 3 (.int .i64 y)) (x.1, x.2.1, x.2.2.1, y) := by
  intro W T ho
  obtain ⟨rfl, h⟩ := op_own4 ho
  exact own_op (u := (x.1, x.2.1, x.2.2.1, y)) ⟨h.1, h.2.1, h.2.2.1, hy⟩
theorem in64_k {k : Int} (h0 : 0 ≤ k) (h1 : k ≤ 1152921504606846976) : In64 k := by constructor <;> omega
theorem len_set4 {α : Type} {xs : List α} {j : Nat} {a b c d : α} : ((((xs.set j a).set j b).set j c).set j d) = xs.set j d := by simp
theorem get_set {α : Type} {xs : List α} {j : Nat} {x a : α} (h : xs[j]? = some x) : (xs.set j a)[j]? = some a := by
  rw [List.getElem?_set_self (List.getElem?_eq_some_iff.1 h).1]

end Go.Proofs.Ytpfgggjcaogkkaa
