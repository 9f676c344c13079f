/-
  DERIVED. GIVEN WITH THE SEED: THE CARDS: each row of YtiiipclglngdhaaGreatDoorRows.lean that lists a variable, with what it lists TIED to the program's text (the seventh form; the later family's looks); each row that meets fmt, with fmt's text TOLD by the authors' own Lean function (tested against real Go, not proved from fmt's source: count such statements apart). THE CARD IS WHAT COUNTS. Prove the row's statement (the work); the ties are given (YtiiipclglngdhaaGreatDoorTie.lean); close each card by the builder's one call (the guide's Derived/Test/ToyasCard.lean, 'card_holds'). Laid BY PROGRAM, IN A SANDBOX (cutbox-door.mjs). By AI agents, Wed Nov 11 2026. No macro, syntax, notation, axiom, sorry.
-/
import Derived.Test.YtiiipclglngdhaaGreatDoorRows
import GoSem.ClaimSeven
namespace Go.Proofs.YtiiipclglngdhaaGreatDoor
namespace Rows

/-- THE TIED CARD OF 'laws.FnExactFinished'. -/
def fnExactFinishedCard : Claim7 := { stood := { row := fnExactFinishedRow, standIns := [], harness := (true, "2ed2a87fb0e0a35d466304a839ed1a481245d979bc60a3d480df128dd9fcb32e"), looks := true }, kinds := [], alts := [], laidByText := true, laidKinds := [.handle], laidTests := true, laidLooks := .later }
def FnExactFinishedCardSaid : Prop := Claim7.holds Tryz.pinned (.plain (OpenSpec.ofChange fnExactFinishedSpec)) fnExactFinishedCard

/-- THE TIED CARD OF 'laws.FnExactBound'. -/
def fnExactBoundCard : Claim7 := { stood := { row := fnExactBoundRow, standIns := [], harness := (true, "2ed2a87fb0e0a35d466304a839ed1a481245d979bc60a3d480df128dd9fcb32e"), looks := true }, kinds := [], alts := [], laidByText := true, laidKinds := [.handle], laidTests := true, laidLooks := .later }
def FnExactBoundCardSaid : Prop := Claim7.holds Tryz.pinned (.plain (OpenSpec.ofChange fnExactBoundSpec)) fnExactBoundCard

/-- THE SECOND FORM's CARD OF 'laws.FnExactFinished'. -/
def fnExactFinishedUptoCard : Claim7 := { stood := { row := fnExactFinishedUptoRow, standIns := [], harness := (true, "2ed2a87fb0e0a35d466304a839ed1a481245d979bc60a3d480df128dd9fcb32e"), looks := true }, kinds := [], alts := [], laidByText := true, laidKinds := [.handle], laidTests := true, laidLooks := .later }
def FnExactFinishedUptoCardSaid : Prop := Claim7.holds Tryz.pinned (.plain (OpenSpec.upto fnExactFinishedSpec)) fnExactFinishedUptoCard

/-- THE SECOND FORM's CARD OF 'laws.FnExactBound'. -/
def fnExactBoundUptoCard : Claim7 := { stood := { row := fnExactBoundUptoRow, standIns := [], harness := (true, "2ed2a87fb0e0a35d466304a839ed1a481245d979bc60a3d480df128dd9fcb32e"), looks := true }, kinds := [], alts := [], laidByText := true, laidKinds := [.handle], laidTests := true, laidLooks := .later }
def FnExactBoundUptoCardSaid : Prop := Claim7.holds Tryz.pinned (.plain (OpenSpec.upto fnExactBoundSpec)) fnExactBoundUptoCard
end Rows
end Go.Proofs.YtiiipclglngdhaaGreatDoor
