/-
  DERIVED. GIVEN WITH THE SEED: THE CARDS: each row of YtmaopldahnejdaaGreatDoorRows.lean that lists a variable, with what it lists TIED to the program's text (the seventh form; the later family's looks); each row that meets fmt, with fmt's text TOLD by the authors' own Lean function (tested against real Go, not proved from fmt's source: count such statements apart). THE CARD IS WHAT COUNTS. Prove the row's statement (the work); the ties are given (YtmaopldahnejdaaGreatDoorTie.lean); close each card by the builder's one call (the guide's Derived/Test/ToyasCard.lean, 'card_holds'). Laid BY PROGRAM, IN A SANDBOX (cutbox-door.mjs). By AI agents, Wed Nov 11 2026. No macro, syntax, notation, axiom, sorry.
-/
import Derived.Test.YtmaopldahnejdaaGreatDoorRows
import GoSem.ClaimSeven
namespace Go.Proofs.YtmaopldahnejdaaGreatDoor
namespace Rows

/-- THE TIED CARD OF 'laws.FnHouses'. -/
def fnHousesCard : Claim7 := { stood := { row := fnHousesRow, standIns := [], harness := (true, "007a24ebe29c9420da1a5659287ae86a6fe3cf36f3f1ede216037c13bc50e68f"), looks := true }, kinds := [], alts := [], laidByText := true, laidKinds := [.data], laidTests := true, laidLooks := .later }
def FnHousesCardSaid : Prop := Claim7.holds Tryz.pinned (.plain (OpenSpec.ofChange fnHousesSpec)) fnHousesCard

/-- THE TIED CARD OF 'laws.FnGrants'. -/
def fnGrantsCard : Claim7 := { stood := { row := fnGrantsRow, standIns := [], harness := (true, "007a24ebe29c9420da1a5659287ae86a6fe3cf36f3f1ede216037c13bc50e68f"), looks := true }, kinds := [], alts := [], laidByText := true, laidKinds := [.data], laidTests := true, laidLooks := .later }
def FnGrantsCardSaid : Prop := Claim7.holds Tryz.pinned (.plain (OpenSpec.ofChange fnGrantsSpec)) fnGrantsCard

/-- THE TIED CARD OF 'laws.FnExactHeard'. -/
def fnExactHeardCard : Claim7 := { stood := { row := fnExactHeardRow, standIns := [], harness := (true, "007a24ebe29c9420da1a5659287ae86a6fe3cf36f3f1ede216037c13bc50e68f"), looks := true }, kinds := [], alts := [], laidByText := true, laidKinds := [.data], laidTests := true, laidLooks := .later }
def FnExactHeardCardSaid : Prop := Claim7.holds Tryz.pinned (.plain (OpenSpec.ofChange fnExactHeardSpec)) fnExactHeardCard

/-- THE SECOND FORM's CARD OF 'laws.FnHouses'. -/
def fnHousesUptoCard : Claim7 := { stood := { row := fnHousesUptoRow, standIns := [], harness := (true, "007a24ebe29c9420da1a5659287ae86a6fe3cf36f3f1ede216037c13bc50e68f"), looks := true }, kinds := [], alts := [], laidByText := true, laidKinds := [.data], laidTests := true, laidLooks := .later }
def FnHousesUptoCardSaid : Prop := Claim7.holds Tryz.pinned (.plain (OpenSpec.upto fnHousesSpec)) fnHousesUptoCard

/-- THE SECOND FORM's CARD OF 'laws.FnGrants'. -/
def fnGrantsUptoCard : Claim7 := { stood := { row := fnGrantsUptoRow, standIns := [], harness := (true, "007a24ebe29c9420da1a5659287ae86a6fe3cf36f3f1ede216037c13bc50e68f"), looks := true }, kinds := [], alts := [], laidByText := true, laidKinds := [.data], laidTests := true, laidLooks := .later }
def FnGrantsUptoCardSaid : Prop := Claim7.holds Tryz.pinned (.plain (OpenSpec.upto fnGrantsSpec)) fnGrantsUptoCard

/-- THE SECOND FORM's CARD OF 'laws.FnExactHeard'. -/
def fnExactHeardUptoCard : Claim7 := { stood := { row := fnExactHeardUptoRow, standIns := [], harness := (true, "007a24ebe29c9420da1a5659287ae86a6fe3cf36f3f1ede216037c13bc50e68f"), looks := true }, kinds := [], alts := [], laidByText := true, laidKinds := [.data], laidTests := true, laidLooks := .later }
def FnExactHeardUptoCardSaid : Prop := Claim7.holds Tryz.pinned (.plain (OpenSpec.upto fnExactHeardSpec)) fnExactHeardUptoCard
end Rows
end Go.Proofs.YtmaopldahnejdaaGreatDoor
