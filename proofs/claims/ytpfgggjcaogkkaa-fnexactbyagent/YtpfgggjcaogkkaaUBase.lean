
/- What the laws' helpers do (how much, a copy, alike, marked, held), in one form for every type: by what cells read as, or own. -/
import Derived.Test.YtpfgggjcaogkkaaOwned
import Derived.Test.YtpfgggjcaogkkaaOwn5
import Derived.Test.YtpfgggjcaogkkaaBoxes
namespace Go.Proofs.Ytpfgggjcaogkkaa
open Go.ChangeShapes Go.WideShapes Go.ChangeAt Go.RowKit
set_option linter.unusedVariables false
section
variable {α : Type}
def cell1 : List Value → Value
  | [v] => v
  | _ => undef
def aggV (cs : List Value) : Value := .agg cs.toArray
abbrev lot : Nat := 4398046511104
def SzC (f : Nat) (R : Rep α) (M : Mk α) (V : List Value → Value) : Prop := ∀ (cs : List Value) (x : α) (left : Int) (w : World), R.rd w cs x → 0 ≤ left → left ≤ 1048576 →
  Calls Try.prog f #[V cs, .int .i64 left] w fun e w' => e = .returned (.int .i64 (szI (M.bk x) left)) ∧ Below w.heap.size w w'
def ToC (f : Nat) (R : Rep α) (M : Mk α) (V : List Value → Value) : Prop := ∀ (cs : List Value) (x : α) (w : World), R.rd w cs x → M.bk x ≤ 1048576 →
  Calls Try.prog f #[V cs] w fun e w' => ∃ ds, e = .returned (V ds) ∧ MadeR R w w' ds x
def EqC (f : Nat) (R : Rep α) (M : Mk α) (V : List Value → Value) : Prop := ∀ (cs ds : List Value) (x : α) (w : World), R.rd w cs x → R.rd w ds x → M.bk x ≤ lot →
  Calls Try.prog f #[V cs, V ds] w fun e w' => e = .returned (.bool true) ∧ Below w.heap.size w w'
def MkC (f : Nat) (R : Rep α) (M : Mk α) (V : List Value → Value) : Prop := ∀ (S : Foot) (cs : List Value) (x : α) (k : Int) (w : World), R.own w S cs x → 0 ≤ k → k + (M.cV x : Int) ≤ (lot : Int) → M.bk x ≤ lot →
  Calls Try.prog f #[V cs, .int .i64 k] w fun e w' => e = .returned (.int .i64 (k + (M.cV x : Int))) ∧ R.own w' S cs (M.mV k x) ∧ Chg S w w'
def HdC (f : Nat) (R : Rep α) (M : Mk α) (V : List Value → Value) : Prop := ∀ (cs : List Value) (x : α) (k : Int) (w : World), R.rd w cs (M.mV k x) → 0 ≤ k → k + (M.cV x : Int) ≤ (lot : Int) → M.bk x ≤ lot →
  Calls Try.prog f #[V cs, .int .i64 k] w fun e w' => e = .returned (.int .i64 (k + (M.cV x : Int))) ∧ Below w.heap.size w w'
end
theorem own_cell {α : Type} {e : TypeId} {R : Rep α} {w : World} {S : Foot} {cs : List Value} {x : List α} (h : (slR e R).own w S cs x) : ∃ v, cs = [v] := List.length_eq_one_iff.1 ((slR e R).rd_len ((slR e R).own_rd h))
theorem be_eq {w w' : World} (h : w' = w) : Below w.heap.size w w' := by rw [h]; exact Below.refl _ _

theorem szInts_u : SzC 18 intsR intsM cell1 := by
  rintro cs x left w ⟨a, cap, rfl, l1, l2, l3⟩ h0 h1
  exact (szInt64S_rep a x cap left w h0 h1 (Nat.le_trans l1 l2)).mono fun e w' ⟨q, r⟩ => ⟨q, be_eq r⟩
theorem toInts_u : ToC 20 intsR intsM cell1 := by
  rintro cs x w ⟨a, cap, rfl, l1, l2, l3⟩ hm
  refine (toInt64S_rep a x cap w l3 hm).mono ?_
  rintro e w' ⟨v, rfl, mm⟩
  exact ⟨[v], rfl, mm⟩
theorem eqInts_u : EqC 23 intsR intsM cell1 := by
  rintro cs ds x w ⟨a, cap, rfl, l1, l2, l3⟩ ⟨b, cp, rfl, k1, k2, k3⟩ hm
  refine (eqInt64S_rep a b x cap cp w l3 k3 (by have : lot = 4398046511104 := rfl; omega)).mono ?_
  rintro e w' ⟨q, n, rfl⟩
  exact ⟨q, be_drewN (Below.refl _ _) n⟩
theorem mkInts_u : MkC 16 intsR intsM cell1 := by
  intro S cs x k w h h0 hm hb
  obtain ⟨v, rfl⟩ := own_cell h
  have e : lot = 4398046511104 := rfl
  have e2 : intsM.cV x = slcnt intM x := rfl
  exact markInt64S_rep S v k x w h0 (by omega) (by omega) h
theorem hdInts_u : HdC 17 intsR intsM cell1 := by
  rintro cs x k w ⟨a, cap, rfl, l1, l2, l3⟩ h0 hm hb
  have e : lot = 4398046511104 := rfl
  have e2 : intsM.cV x = slcnt intM x := rfl
  have := heldInt64S_rep a cap k x w h0 (by omega) (by omega) l3
  rw [show x.length = (intsM.mV k x).length from (slmark_len _ _ _).symm] at this
  exact this.mono fun e w' ⟨q, r⟩ => ⟨q, be_eq r⟩
end Go.Proofs.Ytpfgggjcaogkkaa
