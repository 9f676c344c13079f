
/- What the laws' helpers do (how much, a copy, alike, marked, held), in one form for every type: by what cells read as, or own. -/
import Derived.Test.YtbcggkfbahmpoaaJLinesBoxesAppGenOwned
import Derived.Test.YtbcggkfbahmpoaaWays2
import Derived.Test.YtbcggkfbahmpoaaMarks
import Derived.Test.YtbcggkfbahmpoaaMarkOp
import Derived.Test.YtbcggkfbahmpoaaHeldOp
namespace Go.Proofs.Ytbcggkfbahmpoaa
open Go.ChangeShapes Go.WideShapes Go.ChangeAt Go.RowKit
set_option linter.unusedVariables false
section
variable {α : Type}
def cell1 : List Value → Value
  | [v] => v
  | _ => undef
def aggV (cs : List Value) : Value := .agg cs.toArray
abbrev lot : Nat := 4398046511104
def SzC (f : Nat) (R : Rep α) (M : Mk α) (V : List Value → Value) : Prop := ∀ (cs : List Value) (x : α) (left : Int) (w : World), R.rd w cs x → 0 ≤ left → left ≤ 1048576 →
  Calls Try.prog f #[V cs, .int .i64 left] w fun e w' => e = .returned (.int .i64 (szI (M.bk x) left)) ∧ Below w.heap.size w w'
def ToC (f : Nat) (R : Rep α) (M : Mk α) (V : List Value → Value) : Prop := ∀ (cs : List Value) (x : α) (w : World), R.rd w cs x → M.bk x ≤ 1048576 →
  Calls Try.prog f #[V cs] w fun e w' => ∃ ds, e = .returned (V ds) ∧ MadeR R w w' ds x
def EqC (f : Nat) (R : Rep α) (M : Mk α) (V : List Value → Value) : Prop := ∀ (cs ds : List Value) (x : α) (w : World), R.rd w cs x → R.rd w ds x → M.bk x ≤ lot →
  Calls Try.prog f #[V cs, V ds] w fun e w' => e = .returned (.bool true) ∧ Below w.heap.size w w'
def MkC (f : Nat) (R : Rep α) (M : Mk α) (V : List Value → Value) : Prop := ∀ (S : Foot) (cs : List Value) (x : α) (k : Int) (w : World), R.own w S cs x → 0 ≤ k → k + (M.cV x : Int) ≤ (lot : Int) → M.bk x ≤ lot →
  Calls Try.prog f #[V cs, .int .i64 k] w fun e w' => e = .returned (.int .i64 (k + (M.cV x : Int))) ∧ R.own w' S cs (M.mV k x) ∧ Chg S w w'
def HdC (f : Nat) (R : Rep α) (M : Mk α) (V : List Value → Value) : Prop := ∀ (cs : List Value) (x : α) (k : Int) (w : World), R.rd w cs (M.mV k x) → 0 ≤ k → k + (M.cV x : Int) ≤ (lot : Int) → M.bk x ≤ lot →
  Calls Try.prog f #[V cs, .int .i64 k] w fun e w' => e = .returned (.int .i64 (k + (M.cV x : Int))) ∧ Below w.heap.size w w'
end
theorem own_cell {α : Type} {e : TypeId} {R : Rep α} {w : World} {S : Foot} {cs : List Value} {x : List α} (h : (slR e R).own w S cs x) : ∃ v, cs = [v] := List.length_eq_one_iff.1 ((slR e R).rd_len ((slR e R).own_rd h))
theorem be_eq {w w' : World} (h : w' = w) : Below w.heap.size w w' := by rw [h]; exact Below.refl _ _

theorem szInts_u : SzC 20 intsR intsM cell1 := by
  rintro cs x left w ⟨a, cap, rfl, l1, l2, l3⟩ h0 h1
  exact (szInt64S_rep a x cap left w h0 h1 (Nat.le_trans l1 l2)).mono fun e w' ⟨q, r⟩ => ⟨q, be_eq r⟩
theorem toInts_u : ToC 29 intsR intsM cell1 := by
  rintro cs x w ⟨a, cap, rfl, l1, l2, l3⟩ hm
  refine (toInt64S_rep a x cap w l3 hm).mono ?_
  rintro e w' ⟨v, rfl, mm⟩
  exact ⟨[v], rfl, mm⟩
theorem eqInts_u : EqC 36 intsR intsM cell1 := by
  rintro cs ds x w ⟨a, cap, rfl, l1, l2, l3⟩ ⟨b, cp, rfl, k1, k2, k3⟩ hm
  refine (eqInt64S_rep a b x cap cp w l3 k3 (by have : lot = 4398046511104 := rfl; omega)).mono ?_
  rintro e w' ⟨q, n, rfl⟩
  exact ⟨q, be_drewN (Below.refl _ _) n⟩
theorem mkInts_u : MkC 46 intsR intsM cell1 := by
  intro S cs x k w h h0 hm hb
  obtain ⟨v, rfl⟩ := own_cell h
  have e : lot = 4398046511104 := rfl
  have e2 : intsM.cV x = slcnt intM x := rfl
  exact markInt64S_rep S v k x w h0 (by omega) (by omega) h
theorem hdInts_u : HdC 50 intsR intsM cell1 := by
  rintro cs x k w ⟨a, cap, rfl, l1, l2, l3⟩ h0 hm hb
  have e : lot = 4398046511104 := rfl
  have e2 : intsM.cV x = slcnt intM x := rfl
  have := heldInt64S_rep a cap k x w h0 (by omega) (by omega) l3
  rw [show x.length = (intsM.mV k x).length from (slmark_len _ _ _).symm] at this
  exact this.mono fun e w' ⟨q, r⟩ => ⟨q, be_eq r⟩
theorem szOps_u : SzC 10 opsR opsM cell1 := by
  rintro cs x left w ⟨a, cap, rfl, l1, l2, l3⟩ h0 h1
  exact (szOpS_rep a x cap left w h0 h1 (Nat.le_trans l1 l2)).mono fun e w' ⟨q, r⟩ => ⟨q, be_eq r⟩
theorem toOps_u : ToC 12 opsR opsM cell1 := by
  rintro cs x w ⟨a, cap, rfl, l1, l2, l3⟩ hm
  refine (toOpS_rep a x cap w l3 hm).mono ?_
  rintro e w' ⟨v, rfl, mm⟩
  exact ⟨[v], rfl, mm⟩
theorem eqOps_u : EqC 14 opsR opsM cell1 := by
  rintro cs ds x w ⟨a, cap, rfl, l1, l2, l3⟩ ⟨b, cp, rfl, k1, k2, k3⟩ hm
  exact eqOpS_rep a b x cap cp w l3 k3 (by have : lot = 4398046511104 := rfl; omega)
theorem mkOps_u : MkC 15 opsR opsM cell1 := by
  intro S cs x k w h h0 hm hb
  obtain ⟨v, rfl⟩ := own_cell h
  have e : lot = 4398046511104 := rfl
  have e2 : opsM.cV x = slcnt opM x := rfl
  exact markOpS_rep S v k x w h0 (by omega) (by omega) h
theorem hdOps_u : HdC 48 opsR opsM cell1 := by
  rintro cs x k w ⟨a, cap, rfl, l1, l2, l3⟩ h0 hm hb
  have e : lot = 4398046511104 := rfl
  have e2 : opsM.cV x = slcnt opM x := rfl
  have := heldOpS_rep a cap k x w h0 (by omega) (by omega) l3
  rw [show x.length = (opsM.mV k x).length from (slmark_len _ _ _).symm] at this
  exact this.mono fun e w' ⟨q, r⟩ => ⟨q, be_eq r⟩
theorem szWay_u : SzC 19 wayR wayM aggV := by
  intro cs x left w h h0 h1
  obtain ⟨a, cap, rfl, i1, i2, l1, l2, l3⟩ := way_rd h
  exact szWay_rep x.1 x.2.1 x.2.2 a cap left w h0 h1 (Nat.le_trans l1 l2)
theorem toWay_u : ToC 28 wayR wayM aggV := by
  intro cs x w h hm
  obtain ⟨a, cap, rfl, i1, i2, l1, l2, l3⟩ := way_rd h
  refine (toWay_rep x.1 x.2.1 x.2.2 a cap w i1 i2 l3 (by have : wayM.bk x = 0 + (0 + intsM.bk x.2.2) := rfl; omega)).mono ?_
  rintro e w' ⟨av, cv, rfl, mm⟩
  exact ⟨_, rfl, mm⟩
theorem eqWay_u : EqC 35 wayR wayM aggV := by
  intro cs ds x w h k hm
  obtain ⟨a, cap, rfl, i1, i2, l1, l2, l3⟩ := way_rd h
  obtain ⟨b, cp, rfl, _, _, k1, k2, k3⟩ := way_rd k
  exact eqWay_rep x.1 x.2.1 x.2.2 a b cap cp w l3 k3 (by have : wayM.bk x = 0 + (0 + intsM.bk x.2.2) := rfl; have : lot = 4398046511104 := rfl; omega)
theorem way_cV (x : WayD) : wayM.cV x = slcnt intM x.2.2 := by show 0 + (0 + slcnt intM x.2.2) = _; omega
theorem way_mV (k : Int) (x : WayD) : wayM.mV k x = (x.1, x.2.1, slmark intM k x.2.2) := by
  show (x.1, x.2.1, slmark intM (k + 0 + 0) x.2.2) = _
  rw [Int.add_zero, Int.add_zero]
theorem mkWay_u : MkC 45 wayR wayM aggV := by
  intro S cs x k w h h0 hm hb
  obtain ⟨v, rfl, i1, i2, o⟩ := way_own h
  have e : lot = 4398046511104 := rfl
  rw [way_cV] at hm ⊢
  rw [way_mV]
  refine (markWay_rep S x.1 x.2.1 v k x.2.2 w h0 (by omega) (by omega) o).mono ?_
  rintro e w' ⟨q, r, s⟩
  exact ⟨q, own_way i1 i2 r, s⟩
theorem hdWay_u : HdC 49 wayR wayM aggV := by
  intro cs x k w h h0 hm hb
  have e : lot = 4398046511104 := rfl
  rw [way_mV] at h
  rw [way_cV] at hm ⊢
  obtain ⟨a, cap, rfl, i1, i2, l1, l2, l3⟩ := way_rd h
  have := heldWay_rep x.1 x.2.1 a cap k x.2.2 w h0 (by omega) (by omega) l3
  rw [show x.2.2.length = (slmark intM k x.2.2).length from (slmark_len _ _ _).symm] at this
  exact this
theorem szCache_u : SzC 18 cacheR cacheM aggV := by
  intro cs x left w h h0 h1
  obtain ⟨a, cap, b, cp, rfl, l1, l2, m1, m2, r1, r2⟩ := cache_rd h
  exact szCache_rep a b x cap cp left w r1 h0 h1 (Nat.le_trans l1 l2) (Nat.le_trans m1 m2)
theorem toCache_u : ToC 27 cacheR cacheM aggV := by
  intro cs x w h hm
  obtain ⟨a, cap, b, cp, rfl, l1, l2, m1, m2, r1, r2⟩ := cache_rd h
  refine (toCache_rep a b x cap cp w r1 r2 hm).mono ?_
  rintro e w' ⟨av, cv, bv, dv, rfl, mm⟩
  exact ⟨_, rfl, mm⟩
theorem eqCache_u : EqC 34 cacheR cacheM aggV := by
  intro cs ds x w h k hm
  obtain ⟨a, cap, b, cp, rfl, l1, l2, m1, m2, r1, r2⟩ := cache_rd h
  obtain ⟨a', cap', b', cp', rfl, _, _, _, _, t1, t2⟩ := cache_rd k
  exact eqCache_rep x a b a' b' cap cp cap' cp' w r1 r2 t1 t2 (by have : lot = 4398046511104 := rfl; omega)
theorem mkCache_u : MkC 44 cacheR cacheM aggV := by
  intro S cs x k w h h0 hm hb
  obtain ⟨u, v, S1, S2, rfl, _⟩ := cache_own h
  have e : lot = 4398046511104 := rfl
  have hbk : cacheM.bk x = setsM.bk x.1 + intsM.bk x.2 := rfl
  have hb1 : setsM.bk x.1 = x.1.length + sumbk waysM x.1 := rfl
  have e2 : cacheM.cV x = cntC x := rfl
  exact markCache_rep S u v k x w h0 (by omega) (by omega) (by omega) h
theorem hdCache_u : HdC 47 cacheR cacheM aggV := by
  intro cs x k w h h0 hm hb
  have e : lot = 4398046511104 := rfl
  have hbk : cacheM.bk x = setsM.bk x.1 + intsM.bk x.2 := rfl
  have hb1 : setsM.bk x.1 = x.1.length + sumbk waysM x.1 := rfl
  obtain ⟨a, cap, b, cp, rfl, l1, l2, m1, m2, r1, r2⟩ := cache_rd h
  have e2 : cacheM.cV x = cntC x := rfl
  have := heldCache_rep a b cap cp k x w h0 (by omega) (by omega) (by omega) r1 r2
  rw [show x.1.length = (cacheM.mV k x).1.length from (slmark_len _ _ _).symm, show x.2.length = (cacheM.mV k x).2.length from (slmark_len _ _ _).symm] at this
  exact this
end Go.Proofs.Ytbcggkfbahmpoaa
