/-
  DERIVED. GIVEN WITH THE SEED: THE CARDS: each row of YtglejdilghcbaaaGreatDoorRows.lean that lists a variable, with what it lists TIED to the program's text (the seventh form; the later family's looks); each row that meets fmt, with fmt's text TOLD by the authors' own Lean function (tested against real Go, not proved from fmt's source: count such statements apart). THE CARD IS WHAT COUNTS. Prove the row's statement (the work); the ties are given (YtglejdilghcbaaaGreatDoorTie.lean); close each card by the builder's one call (the guide's Derived/Test/ToyasCard.lean, 'card_holds'). Laid BY PROGRAM, IN A SANDBOX (cutbox-door.mjs). By AI agents, Wed Nov 11 2026. No macro, syntax, notation, axiom, sorry.
-/
import Derived.Test.YtglejdilghcbaaaGreatDoorRows
import GoSem.ClaimSeven
namespace Go.Proofs.YtglejdilghcbaaaGreatDoor
namespace Rows

/-- THE TIED CARD OF 'laws.FnExactInOrder'. -/
def fnExactInOrderCard : Claim7 := { stood := { row := fnExactInOrderRow, standIns := [], harness := (true, "e0eb7d1deccf110b1b6c09fd5c10267ecb5566c6b75730921c89b01c2edd821e"), looks := true }, kinds := [], alts := [], laidByText := true, laidKinds := [.handle], laidTests := true, laidLooks := .later }
def FnExactInOrderCardSaid : Prop := Claim7.holds Tryz.pinned (.plain (OpenSpec.ofChange fnExactInOrderSpec)) fnExactInOrderCard

/-- THE SECOND FORM's CARD OF 'laws.FnExactInOrder'. -/
def fnExactInOrderUptoCard : Claim7 := { stood := { row := fnExactInOrderUptoRow, standIns := [], harness := (true, "e0eb7d1deccf110b1b6c09fd5c10267ecb5566c6b75730921c89b01c2edd821e"), looks := true }, kinds := [], alts := [], laidByText := true, laidKinds := [.handle], laidTests := true, laidLooks := .later }
def FnExactInOrderUptoCardSaid : Prop := Claim7.holds Tryz.pinned (.plain (OpenSpec.upto fnExactInOrderSpec)) fnExactInOrderUptoCard
end Rows
end Go.Proofs.YtglejdilghcbaaaGreatDoor
