/-
  DERIVED. GIVEN WITH THE SEED: THE CARDS: each row of YtcocbafhcpdheaaGreatDoorRows.lean that lists a variable, with what it lists TIED to the program's text (the seventh form; the later family's looks); each row that meets fmt, with fmt's text TOLD by the authors' own Lean function (tested against real Go, not proved from fmt's source: count such statements apart). THE CARD IS WHAT COUNTS. Prove the row's statement (the work); the ties are given (YtcocbafhcpdheaaGreatDoorTie.lean); close each card by the builder's one call (the guide's Derived/Test/ToyasCard.lean, 'card_holds'). Laid BY PROGRAM, IN A SANDBOX (cutbox-door.mjs). By AI agents, Wed Nov 11 2026. No macro, syntax, notation, axiom, sorry.
-/
import Derived.Test.YtcocbafhcpdheaaGreatDoorRows
import GoSem.ClaimSeven
namespace Go.Proofs.YtcocbafhcpdheaaGreatDoor
namespace Rows

/-- THE TIED CARD OF 'laws.FnExactStatesOf'. -/
def fnExactStatesOfCard : Claim7 := { stood := { row := fnExactStatesOfRow, standIns := [], harness := (true, "d112e8fa20bccfe02e1bde4fa0ab66015dbf52f43bbeefad15f209259fc2962b"), looks := true }, kinds := [], alts := [], laidByText := true, laidKinds := [.handle], laidTests := true, laidLooks := .later }
def FnExactStatesOfCardSaid : Prop := Claim7.holds Tryz.pinned (.plain (OpenSpec.ofChange fnExactStatesOfSpec)) fnExactStatesOfCard

/-- THE TIED CARD OF 'laws.FnExactCoherent'. -/
def fnExactCoherentCard : Claim7 := { stood := { row := fnExactCoherentRow, standIns := [], harness := (true, "d112e8fa20bccfe02e1bde4fa0ab66015dbf52f43bbeefad15f209259fc2962b"), looks := true }, kinds := [], alts := [], laidByText := true, laidKinds := [.handle, .data], laidTests := true, laidLooks := .later }
def FnExactCoherentCardSaid : Prop := Claim7.holds Tryz.pinned (.plain (OpenSpec.ofChange fnExactCoherentSpec)) fnExactCoherentCard

/-- THE TIED CARD OF 'laws.FnExactTruthOf'. -/
def fnExactTruthOfCard : Claim7 := { stood := { row := fnExactTruthOfRow, standIns := [], harness := (true, "d112e8fa20bccfe02e1bde4fa0ab66015dbf52f43bbeefad15f209259fc2962b"), looks := true }, kinds := [], alts := [], laidByText := true, laidKinds := [.handle, .data], laidTests := true, laidLooks := .later }
def FnExactTruthOfCardSaid : Prop := Claim7.holds Tryz.pinned (.plain (OpenSpec.ofChange fnExactTruthOfSpec)) fnExactTruthOfCard

/-- THE TIED CARD OF 'laws.FnExactFresh'. -/
def fnExactFreshCard : Claim7 := { stood := { row := fnExactFreshRow, standIns := [], harness := (true, "d112e8fa20bccfe02e1bde4fa0ab66015dbf52f43bbeefad15f209259fc2962b"), looks := true }, kinds := [], alts := [], laidByText := true, laidKinds := [.handle, .data], laidTests := true, laidLooks := .later }
def FnExactFreshCardSaid : Prop := Claim7.holds Tryz.pinned (.plain (OpenSpec.ofChange fnExactFreshSpec)) fnExactFreshCard

/-- THE SECOND FORM's CARD OF 'laws.FnExactStatesOf'. -/
def fnExactStatesOfUptoCard : Claim7 := { stood := { row := fnExactStatesOfUptoRow, standIns := [], harness := (true, "d112e8fa20bccfe02e1bde4fa0ab66015dbf52f43bbeefad15f209259fc2962b"), looks := true }, kinds := [], alts := [], laidByText := true, laidKinds := [.handle], laidTests := true, laidLooks := .later }
def FnExactStatesOfUptoCardSaid : Prop := Claim7.holds Tryz.pinned (.plain (OpenSpec.upto fnExactStatesOfSpec)) fnExactStatesOfUptoCard

/-- THE SECOND FORM's CARD OF 'laws.FnExactCoherent'. -/
def fnExactCoherentUptoCard : Claim7 := { stood := { row := fnExactCoherentUptoRow, standIns := [], harness := (true, "d112e8fa20bccfe02e1bde4fa0ab66015dbf52f43bbeefad15f209259fc2962b"), looks := true }, kinds := [], alts := [], laidByText := true, laidKinds := [.handle, .data], laidTests := true, laidLooks := .later }
def FnExactCoherentUptoCardSaid : Prop := Claim7.holds Tryz.pinned (.plain (OpenSpec.upto fnExactCoherentSpec)) fnExactCoherentUptoCard

/-- THE SECOND FORM's CARD OF 'laws.FnExactTruthOf'. -/
def fnExactTruthOfUptoCard : Claim7 := { stood := { row := fnExactTruthOfUptoRow, standIns := [], harness := (true, "d112e8fa20bccfe02e1bde4fa0ab66015dbf52f43bbeefad15f209259fc2962b"), looks := true }, kinds := [], alts := [], laidByText := true, laidKinds := [.handle, .data], laidTests := true, laidLooks := .later }
def FnExactTruthOfUptoCardSaid : Prop := Claim7.holds Tryz.pinned (.plain (OpenSpec.upto fnExactTruthOfSpec)) fnExactTruthOfUptoCard

/-- THE SECOND FORM's CARD OF 'laws.FnExactFresh'. -/
def fnExactFreshUptoCard : Claim7 := { stood := { row := fnExactFreshUptoRow, standIns := [], harness := (true, "d112e8fa20bccfe02e1bde4fa0ab66015dbf52f43bbeefad15f209259fc2962b"), looks := true }, kinds := [], alts := [], laidByText := true, laidKinds := [.handle, .data], laidTests := true, laidLooks := .later }
def FnExactFreshUptoCardSaid : Prop := Claim7.holds Tryz.pinned (.plain (OpenSpec.upto fnExactFreshSpec)) fnExactFreshUptoCard
end Rows
end Go.Proofs.YtcocbafhcpdheaaGreatDoor
