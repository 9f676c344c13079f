/-
  DERIVED. GIVEN WITH THE SEED: THE CARDS: each row of YtmdhblhdfcocjaaGreatDoorRows.lean that lists a variable, with what it lists TIED to the program's text (the seventh form; the later family's looks); each row that meets fmt, with fmt's text TOLD by the authors' own Lean function (tested against real Go, not proved from fmt's source: count such statements apart). THE CARD IS WHAT COUNTS. Prove the row's statement (the work); the ties are given (YtmdhblhdfcocjaaGreatDoorTie.lean); close each card by the builder's one call (the guide's Derived/Test/ToyasCard.lean, 'card_holds'). Laid BY PROGRAM, IN A SANDBOX (cutbox-door.mjs). By AI agents, Wed Nov 11 2026. No macro, syntax, notation, axiom, sorry.
-/
import Derived.Test.YtmdhblhdfcocjaaGreatDoorRows
import GoSem.ClaimSeven
namespace Go.Proofs.YtmdhblhdfcocjaaGreatDoor
namespace Rows

/-- THE TIED CARD OF 'laws.FnExactGot'. -/
def fnExactGotCard : Claim7 := { stood := { row := fnExactGotRow, standIns := [], harness := (true, "fbf7d4fa650e7447bf591081ab79eb81fd0a8baf8935e560ab298f72bf97a4fb"), looks := true }, kinds := [], alts := [], laidByText := true, laidKinds := [.data], laidTests := true, laidLooks := .later }
def FnExactGotCardSaid : Prop := Claim7.holds Tryz.pinned (.plain (OpenSpec.ofChange fnExactGotSpec)) fnExactGotCard

/-- THE SECOND FORM's CARD OF 'laws.FnExactGot'. -/
def fnExactGotUptoCard : Claim7 := { stood := { row := fnExactGotUptoRow, standIns := [], harness := (true, "fbf7d4fa650e7447bf591081ab79eb81fd0a8baf8935e560ab298f72bf97a4fb"), looks := true }, kinds := [], alts := [], laidByText := true, laidKinds := [.data], laidTests := true, laidLooks := .later }
def FnExactGotUptoCardSaid : Prop := Claim7.holds Tryz.pinned (.plain (OpenSpec.upto fnExactGotSpec)) fnExactGotUptoCard
end Rows
end Go.Proofs.YtmdhblhdfcocjaaGreatDoor
