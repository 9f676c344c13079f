/-
  DERIVED. GIVEN WITH THE SEED: THE CARDS: each row of YtapooehfoihdlaaDoorRows.lean that lists a variable, with what it lists TIED to the program's text (the seventh form; the later family's looks); each row that meets fmt, with fmt's text TOLD by the authors' own Lean function (tested against real Go, not proved from fmt's source: count such statements apart). THE CARD IS WHAT COUNTS. Prove the row's statement (the work); the ties are given (YtapooehfoihdlaaDoorTie.lean); close each card by the builder's one call (the guide's Derived/Test/ToyasCard.lean, 'card_holds'). Laid BY PROGRAM, IN A SANDBOX (cutbox-door.mjs). By AI agents, Wed Nov 11 2026. No macro, syntax, notation, axiom, sorry.
-/
import Derived.Test.YtapooehfoihdlaaDoorRows
import GoSem.ClaimSeven
namespace Go.Proofs.YtapooehfoihdlaaDoor
namespace Rows

/-- THE TIED CARD OF 'laws.FnStates'. -/
def fnStatesCard : Claim7 := { stood := { row := fnStatesRow, standIns := [], harness := (true, "7714684828ecb2405b6ee52b0ad7773f025dc86c11e3e5bc6ad8dcffa1b9836e"), looks := false }, kinds := [], alts := [], laidByText := true, laidKinds := [.data], laidTests := true, laidLooks := .later }
def FnStatesCardSaid : Prop := Claim7.holds Tryd.pinned (.plain (OpenSpec.ofChange fnStatesSpec)) fnStatesCard

/-- THE TIED CARD OF 'laws.FnGranted'. -/
def fnGrantedCard : Claim7 := { stood := { row := fnGrantedRow, standIns := [], harness := (true, "7714684828ecb2405b6ee52b0ad7773f025dc86c11e3e5bc6ad8dcffa1b9836e"), looks := false }, kinds := [], alts := [], laidByText := true, laidKinds := [.data], laidTests := true, laidLooks := .later }
def FnGrantedCardSaid : Prop := Claim7.holds Tryd.pinned (.plain (OpenSpec.ofChange fnGrantedSpec)) fnGrantedCard

/-- THE TIED CARD OF 'laws.FnExactTogether'. -/
def fnExactTogetherCard : Claim7 := { stood := { row := fnExactTogetherRow, standIns := [], harness := (true, "7714684828ecb2405b6ee52b0ad7773f025dc86c11e3e5bc6ad8dcffa1b9836e"), looks := false }, kinds := [], alts := [], laidByText := true, laidKinds := [.data], laidTests := true, laidLooks := .later }
def FnExactTogetherCardSaid : Prop := Claim7.holds Tryd.pinned (.plain (OpenSpec.ofChange fnExactTogetherSpec)) fnExactTogetherCard

/-- THE TIED CARD OF 'laws.FnExactAsks'. -/
def fnExactAsksCard : Claim7 := { stood := { row := fnExactAsksRow, standIns := [], harness := (true, "7714684828ecb2405b6ee52b0ad7773f025dc86c11e3e5bc6ad8dcffa1b9836e"), looks := false }, kinds := [], alts := [], laidByText := true, laidKinds := [.data], laidTests := true, laidLooks := .later }
def FnExactAsksCardSaid : Prop := Claim7.holds Tryd.pinned (.plain (OpenSpec.ofChange fnExactAsksSpec)) fnExactAsksCard

/-- THE TIED CARD OF 'laws.FnExactGranted'. -/
def fnExactGrantedCard : Claim7 := { stood := { row := fnExactGrantedRow, standIns := [], harness := (true, "7714684828ecb2405b6ee52b0ad7773f025dc86c11e3e5bc6ad8dcffa1b9836e"), looks := false }, kinds := [], alts := [], laidByText := true, laidKinds := [.data], laidTests := true, laidLooks := .later }
def FnExactGrantedCardSaid : Prop := Claim7.holds Tryd.pinned (.plain (OpenSpec.ofChange fnExactGrantedSpec)) fnExactGrantedCard

/-- THE SECOND FORM's CARD OF 'laws.FnStates'. -/
def fnStatesUptoCard : Claim7 := { stood := { row := fnStatesUptoRow, standIns := [], harness := (true, "7714684828ecb2405b6ee52b0ad7773f025dc86c11e3e5bc6ad8dcffa1b9836e"), looks := false }, kinds := [], alts := [], laidByText := true, laidKinds := [.data], laidTests := true, laidLooks := .later }
def FnStatesUptoCardSaid : Prop := Claim7.holds Tryd.pinned (.plain (OpenSpec.upto fnStatesSpec)) fnStatesUptoCard

/-- THE SECOND FORM's CARD OF 'laws.FnGranted'. -/
def fnGrantedUptoCard : Claim7 := { stood := { row := fnGrantedUptoRow, standIns := [], harness := (true, "7714684828ecb2405b6ee52b0ad7773f025dc86c11e3e5bc6ad8dcffa1b9836e"), looks := false }, kinds := [], alts := [], laidByText := true, laidKinds := [.data], laidTests := true, laidLooks := .later }
def FnGrantedUptoCardSaid : Prop := Claim7.holds Tryd.pinned (.plain (OpenSpec.upto fnGrantedSpec)) fnGrantedUptoCard

/-- THE SECOND FORM's CARD OF 'laws.FnExactTogether'. -/
def fnExactTogetherUptoCard : Claim7 := { stood := { row := fnExactTogetherUptoRow, standIns := [], harness := (true, "7714684828ecb2405b6ee52b0ad7773f025dc86c11e3e5bc6ad8dcffa1b9836e"), looks := false }, kinds := [], alts := [], laidByText := true, laidKinds := [.data], laidTests := true, laidLooks := .later }
def FnExactTogetherUptoCardSaid : Prop := Claim7.holds Tryd.pinned (.plain (OpenSpec.upto fnExactTogetherSpec)) fnExactTogetherUptoCard

/-- THE SECOND FORM's CARD OF 'laws.FnExactAsks'. -/
def fnExactAsksUptoCard : Claim7 := { stood := { row := fnExactAsksUptoRow, standIns := [], harness := (true, "7714684828ecb2405b6ee52b0ad7773f025dc86c11e3e5bc6ad8dcffa1b9836e"), looks := false }, kinds := [], alts := [], laidByText := true, laidKinds := [.data], laidTests := true, laidLooks := .later }
def FnExactAsksUptoCardSaid : Prop := Claim7.holds Tryd.pinned (.plain (OpenSpec.upto fnExactAsksSpec)) fnExactAsksUptoCard

/-- THE SECOND FORM's CARD OF 'laws.FnExactGranted'. -/
def fnExactGrantedUptoCard : Claim7 := { stood := { row := fnExactGrantedUptoRow, standIns := [], harness := (true, "7714684828ecb2405b6ee52b0ad7773f025dc86c11e3e5bc6ad8dcffa1b9836e"), looks := false }, kinds := [], alts := [], laidByText := true, laidKinds := [.data], laidTests := true, laidLooks := .later }
def FnExactGrantedUptoCardSaid : Prop := Claim7.holds Tryd.pinned (.plain (OpenSpec.upto fnExactGrantedSpec)) fnExactGrantedUptoCard
end Rows
end Go.Proofs.YtapooehfoihdlaaDoor
