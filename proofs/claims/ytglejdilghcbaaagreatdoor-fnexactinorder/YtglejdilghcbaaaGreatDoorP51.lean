import Derived.Test.YtglejdilghcbaaaGreatDoorP00Box
import Derived.Test.YtglejdilghcbaaaGreatDoorP50
namespace Go.Proofs.YtglejdilghcbaaaGreatDoor
open Go.ChangeShapes Go.WideShapes Go.ChangeAt Go.RowKit
set_option linter.unusedVariables false
set_option linter.unusedSimpArgs false
theorem specInOrder_u (cs : List Value) (x : FabricD) (w : World) (h : fabricR.rd w cs x) (hbk : fabricM.bk x ≤ 1048576) :
    Calls Tryz.prog 5 #[aggV cs] w fun e w' => e = .returned (.bool (inI x)) ∧ Bl w w' := by
 obtain ⟨f, a, g, n, b, p, o, c, l, i, k, m, j, d, rfl, R⟩ := fab_open h;exact specInOrder_any x f a g n b p o c l i k m j d w R h hbk
theorem implInOrder_u (cs : List Value) (x : FabricD) (w : World) (hh : Hold w) (h : fabricR.rd w cs x) (hbk : fabricM.bk x ≤ 1048576) :
    Calls Tryz.prog 7 #[aggV cs] w fun e w' => e = .returned (.bool (inI x)) ∧ Bl w w' := by
 obtain ⟨f, a, g, n, b, p, o, c, l, i, k, m, j, d, rfl, R⟩ := fab_open h;exact implInOrder_any x f a g n b p o c l i k m j d w R hh hbk
end Go.Proofs.YtglejdilghcbaaaGreatDoor
