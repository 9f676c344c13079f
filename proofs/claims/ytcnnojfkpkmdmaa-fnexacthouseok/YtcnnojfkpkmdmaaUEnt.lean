
/- The laws' helpers in the one form: lists of lists of numbers, entries of the book, lists of them. -/
import Derived.Test.YtcnnojfkpkmdmaaUBase
import Derived.Test.YtcnnojfkpkmdmaaRepInt64SS
import Derived.Test.YtcnnojfkpkmdmaaEntMarks
import Derived.Test.YtcnnojfkpkmdmaaEntMark
namespace Go.Proofs.Ytcnnojfkpkmdmaa
open Go.ChangeShapes Go.WideShapes Go.ChangeAt Go.RowKit
set_option linter.unusedVariables false
theorem lot_e : lot = 4398046511104 := rfl
theorem szRows_u : SzC 20 rowsR rowsM cell1 := by
  rintro cs x left w ⟨a, cap, rfl, l1, l2, l3⟩ h0 h1
  exact (szInt64SS_rep a x cap left w l3 h0 h1 (Nat.le_trans l1 l2)).mono fun e w' ⟨q, r⟩ => ⟨q, be_eq r⟩
theorem toRows_u : ToC 24 rowsR rowsM cell1 := by
  rintro cs x w ⟨a, cap, rfl, l1, l2, l3⟩ hm
  refine (toInt64SS_rep a x cap w l3 hm).mono ?_
  rintro e w' ⟨v, rfl, mm⟩
  exact ⟨[v], rfl, mm⟩
theorem eqRows_u : EqC 28 rowsR rowsM cell1 := by
  rintro cs ds x w ⟨a, cap, rfl, l1, l2, l3⟩ ⟨b, cp, rfl, k1, k2, k3⟩ hm
  refine (eqInt64SS_rep a b x cap cp w l3 k3 (Nat.le_trans hm (by decide))).mono ?_
  rintro e w' ⟨q, n, rfl⟩
  exact ⟨q, be_drewN (Below.refl _ _) n⟩
theorem mkRows_u : MkC 36 rowsR rowsM cell1 := by
  intro S cs x k w h h0 hm hb
  obtain ⟨v, rfl⟩ := own_cell h
  have e := lot_e
  have e2 : rowsM.cV x = slcnt intsM x := rfl
  have e3 : rowsM.bk x = x.length + sumbk intsM x := rfl
  exact markInt64SS_rep S v k x w h0 (by omega) (by omega) (by omega) h
theorem hdRows_u : HdC 38 rowsR rowsM cell1 := by
  rintro cs x k w ⟨a, cap, rfl, l1, l2, l3⟩ h0 hm hb
  have e := lot_e
  have e2 : rowsM.cV x = slcnt intsM x := rfl
  have e3 : rowsM.bk x = x.length + sumbk intsM x := rfl
  have := heldInt64SS_rep a cap k x w h0 (by omega) (by omega) (by omega) l3
  rw [show x.length = (rowsM.mV k x).length from (slmark_len _ _ _).symm] at this
  exact this.mono fun e w' ⟨q, r⟩ => ⟨q, be_eq r⟩
theorem szEnts_u : SzC 21 entsR entsM cell1 := by
  rintro cs x left w ⟨a, cap, rfl, l1, l2, l3⟩ h0 h1
  exact szEntryS_rep a x cap left w l3 h0 h1 (Nat.le_trans l1 l2)
theorem toEnts_u : ToC 25 entsR entsM cell1 := by
  rintro cs x w ⟨a, cap, rfl, l1, l2, l3⟩ hm
  refine (toEntryS_rep a x cap w l3 hm).mono ?_
  rintro e w' ⟨v, rfl, mm⟩
  exact ⟨[v], rfl, mm⟩
theorem eqEnts_u : EqC 29 entsR entsM cell1 := by
  rintro cs ds x w ⟨a, cap, rfl, l1, l2, l3⟩ ⟨b, cp, rfl, k1, k2, k3⟩ hm
  exact eqEntryS_rep a b x cap cp w l3 k3 (Nat.le_trans hm (by decide))
theorem mkEnts_u : MkC 37 entsR entsM cell1 := by
  intro S cs x k w h h0 hm hb
  obtain ⟨v, rfl⟩ := own_cell h
  have e := lot_e
  have e2 : entsM.cV x = slcnt entM x := rfl
  exact markEntryS_rep S v k x w h0 (by omega) (by omega) h
theorem hdEnts_u : HdC 39 entsR entsM cell1 := by
  rintro cs x k w ⟨a, cap, rfl, l1, l2, l3⟩ h0 hm hb
  have e := lot_e
  have e2 : entsM.cV x = slcnt entM x := rfl
  have := heldEntryS_rep a cap k x w h0 (by omega) (by omega) l3
  rw [show x.length = (entsM.mV k x).length from (slmark_len _ _ _).symm] at this
  exact this.mono fun e w' ⟨q, r⟩ => ⟨q, be_eq r⟩
end Go.Proofs.Ytcnnojfkpkmdmaa
