/-
  NARROWER THAN 'FOR EVERY INPUT', by the rows' own cells (each row's printed sentence says how): FnHouses: laid · FnGrants: laid · FnExactHeard: laid.
  DERIVED. THE GIVEN ROWS OF THIS SEAT. 3 by the template 'for every input the law returns true; each argument reads behind the call as it read before'; 0 by the template 'total and deterministic' (their statements: YtmaopldahnejdaaGreatDoorTotals.lean).
  GIVEN WITH THE SEED: the statements are not yours to turn. If you find one false, say at which input.
  Laid BY PROGRAM, IN A SANDBOX (cutbox-rows.mjs): the forced cells as the released guide's own fill.sh prints them over the translation d8b1b693d6a6166a… (all of the seat's roots in one cut). By AI agents, Wed Nov 11 2026. No macro, syntax, notation, axiom, sorry.
-/
import Derived.Test.YtmaopldahnejdaaGreatDoorChecked
import GoSem.Claim
import GoSem.ClaimJoined
import GoSem.ClaimMapViews
import Derived.JoinedTies
import Derived.KernelRfl
namespace Go.Proofs.YtmaopldahnejdaaGreatDoor
/- THE CELL 'sum', in the pinned program and in every row, IS THE sha256 OF THE DUMP (.gsa) THAT YtmaopldahnejdaaGreatDoorProg.lean LOADS. Nothing in Lean hashes anything: it is a label: what it is worth is what the hold of that sum in a sandbox is worth. -/
noncomputable def Tryz.pinned : Pinned := { name := "ytmaopldahnejdaagreatdoor", sum := "d8b1b693d6a6166a6c2142e8b2ea142f1ea23c12527b95f49457a0583dc40a83", checked := Tryz.checked }
namespace Rows
def none {H : Type} : Left H := { results := [], args := [] }

/- WHAT THE LISTED PACKAGE-LEVEL VARIABLES READ AS WHEN THE CALL BEGINS. Each datum BY PROGRAM (the guide's laid-datum.mjs) off the statement by which the dump's own 'gosem.cut.vars' lays the variable. In a bare row this is a premise. The card (YtmaopldahnejdaaGreatDoorCards.lean) ties it to the program's text. -/
def laid_loop_example_g00342_impl_holdings {H : Type} : DataW H := .agg [.agg [.lit (.bool false), .lit (.bool false), .lit (.bool false)], .agg [.lit (.bool true), .lit (.bool false), .lit (.bool false)], .agg [.lit (.bool true), .lit (.bool true), .lit (.bool false)], .agg [.lit (.bool true), .lit (.bool true), .lit (.bool true)]]

/-- 'laws.FnHouses': WHATEVER THE INPUT: true; the input reads as it did. -/
def fnHousesSpec : ChangeSpec := { name := "fnHouses", vars := ["loop.example/g00342/impl.holdings"], fn := fun _ => fun
  | [d, g1] => { results := [.lit (.bool true)], args := [d], vars := [g1] }
  | _ => none }
def fnHousesRow : OpenClaim := { program := "ytmaopldahnejdaagreatdoor", sum := "d8b1b693d6a6166a6c2142e8b2ea142f1ea23c12527b95f49457a0583dc40a83", func := "loop.example/g00342/laws.FnHouses", spec := "fnHouses", unfollowed := true, recurses := true, named := ["loop.example/g00342/impl.holdings"], plainKeys := false, apart := false, laid := [("loop.example/g00342/impl.holdings", laid_loop_example_g00342_impl_holdings)] }
def FnHousesSaid : Prop := fnHousesRow.holds Tryz.pinned (OpenSpec.ofChange fnHousesSpec)

/-- ITS FALSE NEIGHBOUR: 'it returns false'. Refute it at one input. -/
def fnHousesWrong : ChangeSpec := { name := "fnHouses", vars := ["loop.example/g00342/impl.holdings"], fn := fun _ => fun
  | [d, g1] => { results := [.lit (.bool false)], args := [d], vars := [g1] }
  | _ => none }
def FnHousesWrongFalsely : Prop := fnHousesRow.holds Tryz.pinned (OpenSpec.ofChange fnHousesWrong)

/-- 'laws.FnGrants': WHATEVER THE INPUT: true; the input reads as it did. -/
def fnGrantsSpec : ChangeSpec := { name := "fnGrants", vars := ["loop.example/g00342/impl.holdings"], fn := fun _ => fun
  | [d, g1] => { results := [.lit (.bool true)], args := [d], vars := [g1] }
  | _ => none }
def fnGrantsRow : OpenClaim := { program := "ytmaopldahnejdaagreatdoor", sum := "d8b1b693d6a6166a6c2142e8b2ea142f1ea23c12527b95f49457a0583dc40a83", func := "loop.example/g00342/laws.FnGrants", spec := "fnGrants", unfollowed := true, recurses := true, named := ["loop.example/g00342/impl.holdings"], plainKeys := false, apart := false, laid := [("loop.example/g00342/impl.holdings", laid_loop_example_g00342_impl_holdings)] }
def FnGrantsSaid : Prop := fnGrantsRow.holds Tryz.pinned (OpenSpec.ofChange fnGrantsSpec)

/-- ITS FALSE NEIGHBOUR: 'it returns false'. Refute it at one input. -/
def fnGrantsWrong : ChangeSpec := { name := "fnGrants", vars := ["loop.example/g00342/impl.holdings"], fn := fun _ => fun
  | [d, g1] => { results := [.lit (.bool false)], args := [d], vars := [g1] }
  | _ => none }
def FnGrantsWrongFalsely : Prop := fnGrantsRow.holds Tryz.pinned (OpenSpec.ofChange fnGrantsWrong)

/-- 'laws.FnExactHeard': WHATEVER THE INPUT: true; the input reads as it did. -/
def fnExactHeardSpec : ChangeSpec := { name := "fnExactHeard", vars := ["loop.example/g00342/impl.holdings"], fn := fun _ => fun
  | [d1, d2, g1] => { results := [.lit (.bool true)], args := [d1, d2], vars := [g1] }
  | _ => none }
def fnExactHeardRow : OpenClaim := { program := "ytmaopldahnejdaagreatdoor", sum := "d8b1b693d6a6166a6c2142e8b2ea142f1ea23c12527b95f49457a0583dc40a83", func := "loop.example/g00342/laws.FnExactHeard", spec := "fnExactHeard", unfollowed := true, recurses := true, named := ["loop.example/g00342/impl.holdings"], plainKeys := false, apart := false, laid := [("loop.example/g00342/impl.holdings", laid_loop_example_g00342_impl_holdings)] }
def FnExactHeardSaid : Prop := fnExactHeardRow.holds Tryz.pinned (OpenSpec.ofChange fnExactHeardSpec)

/-- ITS FALSE NEIGHBOUR: 'it returns false'. Refute it at one input. -/
def fnExactHeardWrong : ChangeSpec := { name := "fnExactHeard", vars := ["loop.example/g00342/impl.holdings"], fn := fun _ => fun
  | [d1, d2, g1] => { results := [.lit (.bool false)], args := [d1, d2], vars := [g1] }
  | _ => none }
def FnExactHeardWrongFalsely : Prop := fnExactHeardRow.holds Tryz.pinned (OpenSpec.ofChange fnExactHeardWrong)

/- THE SECOND FORM. 'bulk': how many values and letters a reading holds, each counted each time it is reached (what is shared counts as often as it is met; a slice's spare places count too). A statement '..UptoSaid' is the law's where the arguments, and the package variables that the reading takes, are together of bulk at most 1048576: NARROWER than '..Said'. Prove '..Said' where nothing that the law and all that it calls make is longer than what came in: it says more and counts as full. Else prove '..UptoSaid'. A law counts once. -/
mutual
def uptoBulk {H : Type} : DataW H → Nat
  | .lit (.string bytes) => bytes.length + 1
  | .lit _ => 1
  | .nil => 1
  | .ptr d => uptoBulk d + 1
  | .slice elems spare => uptoBulkAll elems + uptoBulkAll spare + 1
  | .agg parts => uptoBulkAll parts + 1
  | .iface _ d => uptoBulk d + 1
  | .map entries => uptoBulkEntries entries + 1
  | .held _ => 1
def uptoBulkAll {H : Type} : List (DataW H) → Nat
  | [] => 0
  | d :: r => uptoBulk d + uptoBulkAll r
def uptoBulkEntries {H : Type} : List (Lit × DataW H) → Nat
  | [] => 0
  | x :: r => uptoBulkEntry x + uptoBulkEntries r
def uptoBulkEntry {H : Type} : Lit × DataW H → Nat
  | (.string bytes, d) => bytes.length + uptoBulk d + 1
  | (_, d) => uptoBulk d + 1
 end
def uptoSmall : (H : Type) → List (DataW H) → Bool := fun _ ds => decide (uptoBulkAll ds ≤ 1048576)
def OpenSpec.upto (s : _root_.Go.ChangeSpec) : _root_.Go.OpenSpec := { _root_.Go.OpenSpec.ofChange s with cond := some uptoSmall }

/-- 'laws.FnHouses', WHERE WHAT IT READS IS OF BULK AT MOST 1048576: true; the input reads as it did. -/
def fnHousesUptoRow : OpenClaim := { program := "ytmaopldahnejdaagreatdoor", sum := "d8b1b693d6a6166a6c2142e8b2ea142f1ea23c12527b95f49457a0583dc40a83", func := "loop.example/g00342/laws.FnHouses", spec := "fnHouses", unfollowed := true, recurses := true, named := ["loop.example/g00342/impl.holdings"], plainKeys := false, apart := false, laid := [("loop.example/g00342/impl.holdings", laid_loop_example_g00342_impl_holdings)], narrowed := true }
def FnHousesUptoSaid : Prop := fnHousesUptoRow.holds Tryz.pinned (OpenSpec.upto fnHousesSpec)

/-- 'laws.FnGrants', WHERE WHAT IT READS IS OF BULK AT MOST 1048576: true; the input reads as it did. -/
def fnGrantsUptoRow : OpenClaim := { program := "ytmaopldahnejdaagreatdoor", sum := "d8b1b693d6a6166a6c2142e8b2ea142f1ea23c12527b95f49457a0583dc40a83", func := "loop.example/g00342/laws.FnGrants", spec := "fnGrants", unfollowed := true, recurses := true, named := ["loop.example/g00342/impl.holdings"], plainKeys := false, apart := false, laid := [("loop.example/g00342/impl.holdings", laid_loop_example_g00342_impl_holdings)], narrowed := true }
def FnGrantsUptoSaid : Prop := fnGrantsUptoRow.holds Tryz.pinned (OpenSpec.upto fnGrantsSpec)

/-- 'laws.FnExactHeard', WHERE WHAT IT READS IS OF BULK AT MOST 1048576: true; the input reads as it did. -/
def fnExactHeardUptoRow : OpenClaim := { program := "ytmaopldahnejdaagreatdoor", sum := "d8b1b693d6a6166a6c2142e8b2ea142f1ea23c12527b95f49457a0583dc40a83", func := "loop.example/g00342/laws.FnExactHeard", spec := "fnExactHeard", unfollowed := true, recurses := true, named := ["loop.example/g00342/impl.holdings"], plainKeys := false, apart := false, laid := [("loop.example/g00342/impl.holdings", laid_loop_example_g00342_impl_holdings)], narrowed := true }
def FnExactHeardUptoSaid : Prop := fnExactHeardUptoRow.holds Tryz.pinned (OpenSpec.upto fnExactHeardSpec)

end Rows
end Go.Proofs.YtmaopldahnejdaaGreatDoor
