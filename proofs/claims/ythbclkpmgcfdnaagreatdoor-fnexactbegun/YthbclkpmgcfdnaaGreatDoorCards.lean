/-
  DERIVED. GIVEN WITH THE SEED: THE CARDS: each row of YthbclkpmgcfdnaaGreatDoorRows.lean that lists a variable, with what it lists TIED to the program's text (the seventh form; the later family's looks); each row that meets fmt, with fmt's text TOLD by the authors' own Lean function (tested against real Go, not proved from fmt's source: count such statements apart). THE CARD IS WHAT COUNTS. Prove the row's statement (the work); the ties are given (YthbclkpmgcfdnaaGreatDoorTie.lean); close each card by the builder's one call (the guide's Derived/Test/ToyasCard.lean, 'card_holds'). Laid BY PROGRAM, IN A SANDBOX (cutbox-door.mjs). By AI agents, Wed Nov 11 2026. No macro, syntax, notation, axiom, sorry.
-/
import Derived.Test.YthbclkpmgcfdnaaGreatDoorRows
import GoSem.ClaimSeven
namespace Go.Proofs.YthbclkpmgcfdnaaGreatDoor
namespace Rows

/-- THE TIED CARD OF 'laws.FnBegun'. -/
def fnBegunCard : Claim7 := { stood := { row := fnBegunRow, standIns := [], harness := (true, "b749e2c4cd75801ccba5da0e615856bc1e352607103b4789df24803676dcc497"), looks := true }, kinds := [], alts := [], laidByText := true, laidKinds := [.data], laidTests := true, laidLooks := .later }
def FnBegunCardSaid : Prop := Claim7.holds Tryz.pinned (.plain (OpenSpec.ofChange fnBegunSpec)) fnBegunCard

/-- THE TIED CARD OF 'laws.FnGot'. -/
def fnGotCard : Claim7 := { stood := { row := fnGotRow, standIns := [], harness := (true, "b749e2c4cd75801ccba5da0e615856bc1e352607103b4789df24803676dcc497"), looks := true }, kinds := [], alts := [], laidByText := true, laidKinds := [.data], laidTests := true, laidLooks := .later }
def FnGotCardSaid : Prop := Claim7.holds Tryz.pinned (.plain (OpenSpec.ofChange fnGotSpec)) fnGotCard

/-- THE TIED CARD OF 'laws.FnExactBegun'. -/
def fnExactBegunCard : Claim7 := { stood := { row := fnExactBegunRow, standIns := [], harness := (true, "b749e2c4cd75801ccba5da0e615856bc1e352607103b4789df24803676dcc497"), looks := true }, kinds := [], alts := [], laidByText := true, laidKinds := [.data], laidTests := true, laidLooks := .later }
def FnExactBegunCardSaid : Prop := Claim7.holds Tryz.pinned (.plain (OpenSpec.ofChange fnExactBegunSpec)) fnExactBegunCard

/-- THE TIED CARD OF 'laws.FnExactGot'. -/
def fnExactGotCard : Claim7 := { stood := { row := fnExactGotRow, standIns := [], harness := (true, "b749e2c4cd75801ccba5da0e615856bc1e352607103b4789df24803676dcc497"), looks := true }, kinds := [], alts := [], laidByText := true, laidKinds := [.data], laidTests := true, laidLooks := .later }
def FnExactGotCardSaid : Prop := Claim7.holds Tryz.pinned (.plain (OpenSpec.ofChange fnExactGotSpec)) fnExactGotCard

/-- THE SECOND FORM's CARD OF 'laws.FnBegun'. -/
def fnBegunUptoCard : Claim7 := { stood := { row := fnBegunUptoRow, standIns := [], harness := (true, "b749e2c4cd75801ccba5da0e615856bc1e352607103b4789df24803676dcc497"), looks := true }, kinds := [], alts := [], laidByText := true, laidKinds := [.data], laidTests := true, laidLooks := .later }
def FnBegunUptoCardSaid : Prop := Claim7.holds Tryz.pinned (.plain (OpenSpec.upto fnBegunSpec)) fnBegunUptoCard

/-- THE SECOND FORM's CARD OF 'laws.FnGot'. -/
def fnGotUptoCard : Claim7 := { stood := { row := fnGotUptoRow, standIns := [], harness := (true, "b749e2c4cd75801ccba5da0e615856bc1e352607103b4789df24803676dcc497"), looks := true }, kinds := [], alts := [], laidByText := true, laidKinds := [.data], laidTests := true, laidLooks := .later }
def FnGotUptoCardSaid : Prop := Claim7.holds Tryz.pinned (.plain (OpenSpec.upto fnGotSpec)) fnGotUptoCard

/-- THE SECOND FORM's CARD OF 'laws.FnExactBegun'. -/
def fnExactBegunUptoCard : Claim7 := { stood := { row := fnExactBegunUptoRow, standIns := [], harness := (true, "b749e2c4cd75801ccba5da0e615856bc1e352607103b4789df24803676dcc497"), looks := true }, kinds := [], alts := [], laidByText := true, laidKinds := [.data], laidTests := true, laidLooks := .later }
def FnExactBegunUptoCardSaid : Prop := Claim7.holds Tryz.pinned (.plain (OpenSpec.upto fnExactBegunSpec)) fnExactBegunUptoCard

/-- THE SECOND FORM's CARD OF 'laws.FnExactGot'. -/
def fnExactGotUptoCard : Claim7 := { stood := { row := fnExactGotUptoRow, standIns := [], harness := (true, "b749e2c4cd75801ccba5da0e615856bc1e352607103b4789df24803676dcc497"), looks := true }, kinds := [], alts := [], laidByText := true, laidKinds := [.data], laidTests := true, laidLooks := .later }
def FnExactGotUptoCardSaid : Prop := Claim7.holds Tryz.pinned (.plain (OpenSpec.upto fnExactGotSpec)) fnExactGotUptoCard
end Rows
end Go.Proofs.YthbclkpmgcfdnaaGreatDoor
