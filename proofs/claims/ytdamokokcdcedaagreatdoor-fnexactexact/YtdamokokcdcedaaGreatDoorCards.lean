/-
  DERIVED. GIVEN WITH THE SEED: THE CARDS: each row of YtdamokokcdcedaaGreatDoorRows.lean that lists a variable, with what it lists TIED to the program's text (the seventh form; the later family's looks); each row that meets fmt, with fmt's text TOLD by the authors' own Lean function (tested against real Go, not proved from fmt's source: count such statements apart). THE CARD IS WHAT COUNTS. Prove the row's statement (the work); the ties are given (YtdamokokcdcedaaGreatDoorTie.lean); close each card by the builder's one call (the guide's Derived/Test/ToyasCard.lean, 'card_holds'). Laid BY PROGRAM, IN A SANDBOX (cutbox-door.mjs). By AI agents, Wed Nov 11 2026. No macro, syntax, notation, axiom, sorry.
-/
import Derived.Test.YtdamokokcdcedaaGreatDoorRows
import GoSem.ClaimSeven
namespace Go.Proofs.YtdamokokcdcedaaGreatDoor
namespace Rows

/-- THE TIED CARD OF 'laws.FnExactFlushed'. -/
def fnExactFlushedCard : Claim7 := { stood := { row := fnExactFlushedRow, standIns := [], harness := (true, "bb4b167aa5f658ef55bf924e22c630696aba0e90a0116eceea0ee64ec905ce70"), looks := true }, kinds := [], alts := [], laidByText := true, laidKinds := [.handle, .data], laidTests := true, laidLooks := .later }
def FnExactFlushedCardSaid : Prop := Claim7.holds Tryz.pinned (.plain (OpenSpec.ofChange fnExactFlushedSpec)) fnExactFlushedCard

/-- THE TIED CARD OF 'laws.FnExactExact'. -/
def fnExactExactCard : Claim7 := { stood := { row := fnExactExactRow, standIns := [], harness := (true, "bb4b167aa5f658ef55bf924e22c630696aba0e90a0116eceea0ee64ec905ce70"), looks := true }, kinds := [], alts := [], laidByText := true, laidKinds := [.handle, .data], laidTests := true, laidLooks := .later }
def FnExactExactCardSaid : Prop := Claim7.holds Tryz.pinned (.plain (OpenSpec.ofChange fnExactExactSpec)) fnExactExactCard

/-- THE TIED CARD OF 'laws.FnExactFree'. -/
def fnExactFreeCard : Claim7 := { stood := { row := fnExactFreeRow, standIns := [], harness := (true, "bb4b167aa5f658ef55bf924e22c630696aba0e90a0116eceea0ee64ec905ce70"), looks := true }, kinds := [], alts := [], laidByText := true, laidKinds := [.handle], laidTests := true, laidLooks := .later }
def FnExactFreeCardSaid : Prop := Claim7.holds Tryz.pinned (.plain (OpenSpec.ofChange fnExactFreeSpec)) fnExactFreeCard

/-- THE SECOND FORM's CARD OF 'laws.FnExactFlushed'. -/
def fnExactFlushedUptoCard : Claim7 := { stood := { row := fnExactFlushedUptoRow, standIns := [], harness := (true, "bb4b167aa5f658ef55bf924e22c630696aba0e90a0116eceea0ee64ec905ce70"), looks := true }, kinds := [], alts := [], laidByText := true, laidKinds := [.handle, .data], laidTests := true, laidLooks := .later }
def FnExactFlushedUptoCardSaid : Prop := Claim7.holds Tryz.pinned (.plain (OpenSpec.upto fnExactFlushedSpec)) fnExactFlushedUptoCard

/-- THE SECOND FORM's CARD OF 'laws.FnExactExact'. -/
def fnExactExactUptoCard : Claim7 := { stood := { row := fnExactExactUptoRow, standIns := [], harness := (true, "bb4b167aa5f658ef55bf924e22c630696aba0e90a0116eceea0ee64ec905ce70"), looks := true }, kinds := [], alts := [], laidByText := true, laidKinds := [.handle, .data], laidTests := true, laidLooks := .later }
def FnExactExactUptoCardSaid : Prop := Claim7.holds Tryz.pinned (.plain (OpenSpec.upto fnExactExactSpec)) fnExactExactUptoCard

/-- THE SECOND FORM's CARD OF 'laws.FnExactFree'. -/
def fnExactFreeUptoCard : Claim7 := { stood := { row := fnExactFreeUptoRow, standIns := [], harness := (true, "bb4b167aa5f658ef55bf924e22c630696aba0e90a0116eceea0ee64ec905ce70"), looks := true }, kinds := [], alts := [], laidByText := true, laidKinds := [.handle], laidTests := true, laidLooks := .later }
def FnExactFreeUptoCardSaid : Prop := Claim7.holds Tryz.pinned (.plain (OpenSpec.upto fnExactFreeSpec)) fnExactFreeUptoCard
end Rows
end Go.Proofs.YtdamokokcdcedaaGreatDoor
