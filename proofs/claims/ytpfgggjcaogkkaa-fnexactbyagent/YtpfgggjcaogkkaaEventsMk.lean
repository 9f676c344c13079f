
/- The laws' marks of a list of Events, in the one form. -/
import Derived.Test.YtpfgggjcaogkkaaEventMarks
import Derived.Test.YtpfgggjcaogkkaaUBase
namespace Go.Proofs.Ytpfgggjcaogkkaa
open Go.ChangeShapes Go.WideShapes Go.ChangeAt Go.RowKit
set_option linter.unusedVariables false
theorem mkEvents_u : MkC 9 eventsR eventsM cell1 := by
  intro S cs x k w h h0 hm hb
  obtain ⟨v, rfl⟩ := own_cell h
  have e : lot = 4398046511104 := rfl
  have e2 : eventsM.cV x = slcnt fevM (x.map flatE) := flat_cnt x
  have := markEventS_rep S v k (x.map flatE) w h0 (by omega) (by omega) ((slown_map ev_own rfl).1 h)
  rw [e2]
  refine this.mono fun e' w' ⟨q, r, c⟩ => ⟨q, (slown_map ev_own rfl).2 ?_, c⟩
  rw [show eventsM.mV k x = slmark eventM k x from rfl, flat_mark]
  exact r
theorem hdEvents_u : HdC 10 eventsR eventsM cell1 := by
  rintro cs x k w ⟨a, cap, rfl, l1, l2, l3⟩ h0 hm hb
  have e : lot = 4398046511104 := rfl
  have e2 : eventsM.cV x = slcnt fevM (x.map flatE) := flat_cnt x
  have l4 := slrd_map (fun h => ev_rd h) l3
  rw [show eventsM.mV k x = slmark eventM k x from rfl, flat_mark] at l4
  have := heldEventS_rep a cap k (x.map flatE) w h0 (by omega) (by omega) l4
  rw [List.length_map, show x.length = (eventsM.mV k x).length from (slmark_len _ _ _).symm] at this
  rw [e2]
  exact this.mono fun e w' ⟨q, r⟩ => ⟨q, be_eq r⟩
end Go.Proofs.Ytpfgggjcaogkkaa
