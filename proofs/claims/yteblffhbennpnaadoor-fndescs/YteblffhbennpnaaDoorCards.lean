/-
  DERIVED. GIVEN WITH THE SEED: THE CARDS: each row of YteblffhbennpnaaDoorRows.lean that lists a variable, with what it lists TIED to the program's text (the seventh form; the later family's looks); each row that meets fmt, with fmt's text TOLD by the authors' own Lean function (tested against real Go, not proved from fmt's source: count such statements apart). THE CARD IS WHAT COUNTS. Prove the row's statement (the work); the ties are given (YteblffhbennpnaaDoorTie.lean); close each card by the builder's one call (the guide's Derived/Test/ToyasCard.lean, 'card_holds'). Laid BY PROGRAM, IN A SANDBOX (cutbox-door.mjs). By AI agents, Wed Nov 11 2026. No macro, syntax, notation, axiom, sorry.
-/
import Derived.Test.YteblffhbennpnaaDoorRows
import GoSem.ClaimSeven
namespace Go.Proofs.YteblffhbennpnaaDoor
namespace Rows

/-- THE TIED CARD OF 'laws.FnDescs'. -/
def fnDescsCard : Claim7 := { stood := { row := fnDescsRow, standIns := [], harness := (true, "02e01d6e296700c741081a5c4ed0ce886743419dc0cf0fe1bd6f1a699ebfcd5d"), looks := true }, kinds := [], alts := [], laidByText := true, laidKinds := [.handle], laidTests := true, laidLooks := .later }
def FnDescsCardSaid : Prop := Claim7.holds Tryd.pinned (.plain (OpenSpec.ofChange fnDescsSpec)) fnDescsCard

/-- THE TIED CARD OF 'laws.FnExactProgramCode'. -/
def fnExactProgramCodeCard : Claim7 := { stood := { row := fnExactProgramCodeRow, standIns := [], harness := (true, "02e01d6e296700c741081a5c4ed0ce886743419dc0cf0fe1bd6f1a699ebfcd5d"), looks := true }, kinds := [], alts := [], laidByText := true, laidKinds := [.handle], laidTests := true, laidLooks := .later }
def FnExactProgramCodeCardSaid : Prop := Claim7.holds Tryd.pinned (.plain (OpenSpec.ofChange fnExactProgramCodeSpec)) fnExactProgramCodeCard

/-- THE TIED CARD OF 'laws.FnExactDescCode'. -/
def fnExactDescCodeCard : Claim7 := { stood := { row := fnExactDescCodeRow, standIns := [], harness := (true, "02e01d6e296700c741081a5c4ed0ce886743419dc0cf0fe1bd6f1a699ebfcd5d"), looks := true }, kinds := [], alts := [], laidByText := true, laidKinds := [.handle], laidTests := true, laidLooks := .later }
def FnExactDescCodeCardSaid : Prop := Claim7.holds Tryd.pinned (.plain (OpenSpec.ofChange fnExactDescCodeSpec)) fnExactDescCodeCard

/-- THE SECOND FORM's CARD OF 'laws.FnDescs'. -/
def fnDescsUptoCard : Claim7 := { stood := { row := fnDescsUptoRow, standIns := [], harness := (true, "02e01d6e296700c741081a5c4ed0ce886743419dc0cf0fe1bd6f1a699ebfcd5d"), looks := true }, kinds := [], alts := [], laidByText := true, laidKinds := [.handle], laidTests := true, laidLooks := .later }
def FnDescsUptoCardSaid : Prop := Claim7.holds Tryd.pinned (.plain (OpenSpec.upto fnDescsSpec)) fnDescsUptoCard

/-- THE SECOND FORM's CARD OF 'laws.FnExactProgramCode'. -/
def fnExactProgramCodeUptoCard : Claim7 := { stood := { row := fnExactProgramCodeUptoRow, standIns := [], harness := (true, "02e01d6e296700c741081a5c4ed0ce886743419dc0cf0fe1bd6f1a699ebfcd5d"), looks := true }, kinds := [], alts := [], laidByText := true, laidKinds := [.handle], laidTests := true, laidLooks := .later }
def FnExactProgramCodeUptoCardSaid : Prop := Claim7.holds Tryd.pinned (.plain (OpenSpec.upto fnExactProgramCodeSpec)) fnExactProgramCodeUptoCard

/-- THE SECOND FORM's CARD OF 'laws.FnExactDescCode'. -/
def fnExactDescCodeUptoCard : Claim7 := { stood := { row := fnExactDescCodeUptoRow, standIns := [], harness := (true, "02e01d6e296700c741081a5c4ed0ce886743419dc0cf0fe1bd6f1a699ebfcd5d"), looks := true }, kinds := [], alts := [], laidByText := true, laidKinds := [.handle], laidTests := true, laidLooks := .later }
def FnExactDescCodeUptoCardSaid : Prop := Claim7.holds Tryd.pinned (.plain (OpenSpec.upto fnExactDescCodeSpec)) fnExactDescCodeUptoCard
end Rows
end Go.Proofs.YteblffhbennpnaaDoor
