/-
  DERIVED. GIVEN WITH THE SEED: THE CARDS: each row of YthnfkacboijneaaGreatDoorRows.lean that lists a variable, with what it lists TIED to the program's text (the seventh form; the later family's looks); each row that meets fmt, with fmt's text TOLD by the authors' own Lean function (tested against real Go, not proved from fmt's source: count such statements apart). THE CARD IS WHAT COUNTS. Prove the row's statement (the work); the ties are given (YthnfkacboijneaaGreatDoorTie.lean); close each card by the builder's one call (the guide's Derived/Test/ToyasCard.lean, 'card_holds'). Laid BY PROGRAM, IN A SANDBOX (cutbox-door.mjs). By AI agents, Wed Nov 11 2026. No macro, syntax, notation, axiom, sorry.
-/
import Derived.Test.YthnfkacboijneaaGreatDoorRows
import GoSem.ClaimSeven
namespace Go.Proofs.YthnfkacboijneaaGreatDoor
namespace Rows

/-- THE TIED CARD OF 'laws.FnExactFabricOk'. -/
def fnExactFabricOkCard : Claim7 := { stood := { row := fnExactFabricOkRow, standIns := [], harness := (true, "0e7b1d5c1454de7992856c95829810e08c0b593a0addbce1012640f8fe72871d"), looks := true }, kinds := [], alts := [], laidByText := true, laidKinds := [.handle], laidTests := true, laidLooks := .later }
def FnExactFabricOkCardSaid : Prop := Claim7.holds Tryz.pinned (.plain (OpenSpec.ofChange fnExactFabricOkSpec)) fnExactFabricOkCard

/-- THE TIED CARD OF 'laws.FnExactNewFabric'. -/
def fnExactNewFabricCard : Claim7 := { stood := { row := fnExactNewFabricRow, standIns := [], harness := (true, "0e7b1d5c1454de7992856c95829810e08c0b593a0addbce1012640f8fe72871d"), looks := true }, kinds := [], alts := [], laidByText := true, laidKinds := [.handle], laidTests := true, laidLooks := .later }
def FnExactNewFabricCardSaid : Prop := Claim7.holds Tryz.pinned (.plain (OpenSpec.ofChange fnExactNewFabricSpec)) fnExactNewFabricCard

/-- THE SECOND FORM's CARD OF 'laws.FnExactFabricOk'. -/
def fnExactFabricOkUptoCard : Claim7 := { stood := { row := fnExactFabricOkUptoRow, standIns := [], harness := (true, "0e7b1d5c1454de7992856c95829810e08c0b593a0addbce1012640f8fe72871d"), looks := true }, kinds := [], alts := [], laidByText := true, laidKinds := [.handle], laidTests := true, laidLooks := .later }
def FnExactFabricOkUptoCardSaid : Prop := Claim7.holds Tryz.pinned (.plain (OpenSpec.upto fnExactFabricOkSpec)) fnExactFabricOkUptoCard

/-- THE SECOND FORM's CARD OF 'laws.FnExactNewFabric'. -/
def fnExactNewFabricUptoCard : Claim7 := { stood := { row := fnExactNewFabricUptoRow, standIns := [], harness := (true, "0e7b1d5c1454de7992856c95829810e08c0b593a0addbce1012640f8fe72871d"), looks := true }, kinds := [], alts := [], laidByText := true, laidKinds := [.handle], laidTests := true, laidLooks := .later }
def FnExactNewFabricUptoCardSaid : Prop := Claim7.holds Tryz.pinned (.plain (OpenSpec.upto fnExactNewFabricSpec)) fnExactNewFabricUptoCard
end Rows
end Go.Proofs.YthnfkacboijneaaGreatDoor
