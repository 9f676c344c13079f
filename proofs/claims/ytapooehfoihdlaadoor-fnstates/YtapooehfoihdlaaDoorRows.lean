/-
  NARROWER THAN 'FOR EVERY INPUT', by the rows' own cells (each row's printed sentence says how): FnStates: laid · FnGranted: laid · FnExactTogether: laid · FnExactAsks: laid · FnExactGranted: laid.
  DERIVED. THE GIVEN ROWS OF THIS SEAT. 5 by the template 'for every input the law returns true; each argument reads behind the call as it read before'; 0 by the template 'total and deterministic' (their statements: YtapooehfoihdlaaDoorTotals.lean).
  GIVEN WITH THE SEED: the statements are not yours to turn. If you find one false, say at which input.
  Laid BY PROGRAM, IN A SANDBOX (cutbox-rows.mjs): the forced cells as the released guide's own fill.sh prints them over the translation a90a05be2048f785… (all of the seat's roots in one cut). By AI agents, Wed Nov 11 2026. No macro, syntax, notation, axiom, sorry.
-/
import Derived.Test.YtapooehfoihdlaaDoorChecked
import GoSem.Claim
import GoSem.ClaimJoined
import GoSem.ClaimMapViews
import Derived.JoinedTies
import Derived.KernelRfl
namespace Go.Proofs.YtapooehfoihdlaaDoor
/- THE CELL 'sum', in the pinned program and in every row, IS THE sha256 OF THE DUMP (.gsa) THAT YtapooehfoihdlaaDoorProg.lean LOADS. Nothing in Lean hashes anything: it is a label: what it is worth is what the hold of that sum in a sandbox is worth. -/
noncomputable def Tryd.pinned : Pinned := { name := "ytapooehfoihdlaadoor", sum := "a90a05be2048f785671d23bd1982b108659ad578bc5f3033f34337f696ec0a95", checked := Tryd.checked }
namespace Rows
def none {H : Type} : Left H := { results := [], args := [] }

/- WHAT THE LISTED PACKAGE-LEVEL VARIABLES READ AS WHEN THE CALL BEGINS. Each datum BY PROGRAM (the guide's laid-datum.mjs) off the statement by which the dump's own 'gosem.cut.vars' lays the variable. In a bare row this is a premise. The card (YtapooehfoihdlaaDoorCards.lean) ties it to the program's text. -/
def laid_loop_example_g00342_impl_holdings {H : Type} : DataW H := .agg [.agg [.lit (.bool false), .lit (.bool false), .lit (.bool false)], .agg [.lit (.bool true), .lit (.bool false), .lit (.bool false)], .agg [.lit (.bool true), .lit (.bool true), .lit (.bool false)], .agg [.lit (.bool true), .lit (.bool true), .lit (.bool true)]]

/-- 'laws.FnStates': WHATEVER THE INPUT: true; the input reads as it did. -/
def fnStatesSpec : ChangeSpec := { name := "fnStates", vars := ["loop.example/g00342/impl.holdings"], fn := fun _ => fun
  | [d, g1] => { results := [.lit (.bool true)], args := [d], vars := [g1] }
  | _ => none }
def fnStatesRow : OpenClaim := { program := "ytapooehfoihdlaadoor", sum := "a90a05be2048f785671d23bd1982b108659ad578bc5f3033f34337f696ec0a95", func := "loop.example/g00342/laws.FnStates", spec := "fnStates", named := ["loop.example/g00342/impl.holdings"], plainKeys := false, apart := false, laid := [("loop.example/g00342/impl.holdings", laid_loop_example_g00342_impl_holdings)] }
def FnStatesSaid : Prop := fnStatesRow.holds Tryd.pinned (OpenSpec.ofChange fnStatesSpec)

/-- ITS FALSE NEIGHBOUR: 'it returns false'. Refute it at one input. -/
def fnStatesWrong : ChangeSpec := { name := "fnStates", vars := ["loop.example/g00342/impl.holdings"], fn := fun _ => fun
  | [d, g1] => { results := [.lit (.bool false)], args := [d], vars := [g1] }
  | _ => none }
def FnStatesWrongFalsely : Prop := fnStatesRow.holds Tryd.pinned (OpenSpec.ofChange fnStatesWrong)

/-- 'laws.FnGranted': WHATEVER THE INPUT: true; the input reads as it did. -/
def fnGrantedSpec : ChangeSpec := { name := "fnGranted", vars := ["loop.example/g00342/impl.holdings"], fn := fun _ => fun
  | [d, g1] => { results := [.lit (.bool true)], args := [d], vars := [g1] }
  | _ => none }
def fnGrantedRow : OpenClaim := { program := "ytapooehfoihdlaadoor", sum := "a90a05be2048f785671d23bd1982b108659ad578bc5f3033f34337f696ec0a95", func := "loop.example/g00342/laws.FnGranted", spec := "fnGranted", named := ["loop.example/g00342/impl.holdings"], plainKeys := false, apart := false, laid := [("loop.example/g00342/impl.holdings", laid_loop_example_g00342_impl_holdings)] }
def FnGrantedSaid : Prop := fnGrantedRow.holds Tryd.pinned (OpenSpec.ofChange fnGrantedSpec)

/-- ITS FALSE NEIGHBOUR: 'it returns false'. Refute it at one input. -/
def fnGrantedWrong : ChangeSpec := { name := "fnGranted", vars := ["loop.example/g00342/impl.holdings"], fn := fun _ => fun
  | [d, g1] => { results := [.lit (.bool false)], args := [d], vars := [g1] }
  | _ => none }
def FnGrantedWrongFalsely : Prop := fnGrantedRow.holds Tryd.pinned (OpenSpec.ofChange fnGrantedWrong)

/-- 'laws.FnExactTogether': WHATEVER THE INPUT: true; the input reads as it did. -/
def fnExactTogetherSpec : ChangeSpec := { name := "fnExactTogether", vars := ["loop.example/g00342/impl.holdings"], fn := fun _ => fun
  | [d, g1] => { results := [.lit (.bool true)], args := [d], vars := [g1] }
  | _ => none }
def fnExactTogetherRow : OpenClaim := { program := "ytapooehfoihdlaadoor", sum := "a90a05be2048f785671d23bd1982b108659ad578bc5f3033f34337f696ec0a95", func := "loop.example/g00342/laws.FnExactTogether", spec := "fnExactTogether", named := ["loop.example/g00342/impl.holdings"], plainKeys := false, apart := false, laid := [("loop.example/g00342/impl.holdings", laid_loop_example_g00342_impl_holdings)] }
def FnExactTogetherSaid : Prop := fnExactTogetherRow.holds Tryd.pinned (OpenSpec.ofChange fnExactTogetherSpec)

/-- ITS FALSE NEIGHBOUR: 'it returns false'. Refute it at one input. -/
def fnExactTogetherWrong : ChangeSpec := { name := "fnExactTogether", vars := ["loop.example/g00342/impl.holdings"], fn := fun _ => fun
  | [d, g1] => { results := [.lit (.bool false)], args := [d], vars := [g1] }
  | _ => none }
def FnExactTogetherWrongFalsely : Prop := fnExactTogetherRow.holds Tryd.pinned (OpenSpec.ofChange fnExactTogetherWrong)

/-- 'laws.FnExactAsks': WHATEVER THE INPUT: true; the input reads as it did. -/
def fnExactAsksSpec : ChangeSpec := { name := "fnExactAsks", vars := ["loop.example/g00342/impl.holdings"], fn := fun _ => fun
  | [d1, d2, g1] => { results := [.lit (.bool true)], args := [d1, d2], vars := [g1] }
  | _ => none }
def fnExactAsksRow : OpenClaim := { program := "ytapooehfoihdlaadoor", sum := "a90a05be2048f785671d23bd1982b108659ad578bc5f3033f34337f696ec0a95", func := "loop.example/g00342/laws.FnExactAsks", spec := "fnExactAsks", named := ["loop.example/g00342/impl.holdings"], plainKeys := false, apart := false, laid := [("loop.example/g00342/impl.holdings", laid_loop_example_g00342_impl_holdings)] }
def FnExactAsksSaid : Prop := fnExactAsksRow.holds Tryd.pinned (OpenSpec.ofChange fnExactAsksSpec)

/-- ITS FALSE NEIGHBOUR: 'it returns false'. Refute it at one input. -/
def fnExactAsksWrong : ChangeSpec := { name := "fnExactAsks", vars := ["loop.example/g00342/impl.holdings"], fn := fun _ => fun
  | [d1, d2, g1] => { results := [.lit (.bool false)], args := [d1, d2], vars := [g1] }
  | _ => none }
def FnExactAsksWrongFalsely : Prop := fnExactAsksRow.holds Tryd.pinned (OpenSpec.ofChange fnExactAsksWrong)

/-- 'laws.FnExactGranted': WHATEVER THE INPUT: true; the input reads as it did. -/
def fnExactGrantedSpec : ChangeSpec := { name := "fnExactGranted", vars := ["loop.example/g00342/impl.holdings"], fn := fun _ => fun
  | [d1, d2, g1] => { results := [.lit (.bool true)], args := [d1, d2], vars := [g1] }
  | _ => none }
def fnExactGrantedRow : OpenClaim := { program := "ytapooehfoihdlaadoor", sum := "a90a05be2048f785671d23bd1982b108659ad578bc5f3033f34337f696ec0a95", func := "loop.example/g00342/laws.FnExactGranted", spec := "fnExactGranted", named := ["loop.example/g00342/impl.holdings"], plainKeys := false, apart := false, laid := [("loop.example/g00342/impl.holdings", laid_loop_example_g00342_impl_holdings)] }
def FnExactGrantedSaid : Prop := fnExactGrantedRow.holds Tryd.pinned (OpenSpec.ofChange fnExactGrantedSpec)

/-- ITS FALSE NEIGHBOUR: 'it returns false'. Refute it at one input. -/
def fnExactGrantedWrong : ChangeSpec := { name := "fnExactGranted", vars := ["loop.example/g00342/impl.holdings"], fn := fun _ => fun
  | [d1, d2, g1] => { results := [.lit (.bool false)], args := [d1, d2], vars := [g1] }
  | _ => none }
def FnExactGrantedWrongFalsely : Prop := fnExactGrantedRow.holds Tryd.pinned (OpenSpec.ofChange fnExactGrantedWrong)

/- THE SECOND FORM. 'bulk': how many values and letters a reading holds, each counted each time it is reached (what is shared counts as often as it is met; a slice's spare places count too). A statement '..UptoSaid' is the law's where the arguments, and the package variables that the reading takes, are together of bulk at most 1048576: NARROWER than '..Said'. Prove '..Said' where nothing that the law and all that it calls make is longer than what came in: it says more and counts as full. Else prove '..UptoSaid'. A law counts once. -/
mutual
def uptoBulk {H : Type} : DataW H → Nat
  | .lit (.string bytes) => bytes.length + 1
  | .lit _ => 1
  | .nil => 1
  | .ptr d => uptoBulk d + 1
  | .slice elems spare => uptoBulkAll elems + uptoBulkAll spare + 1
  | .agg parts => uptoBulkAll parts + 1
  | .iface _ d => uptoBulk d + 1
  | .map entries => uptoBulkEntries entries + 1
  | .held _ => 1
def uptoBulkAll {H : Type} : List (DataW H) → Nat
  | [] => 0
  | d :: r => uptoBulk d + uptoBulkAll r
def uptoBulkEntries {H : Type} : List (Lit × DataW H) → Nat
  | [] => 0
  | x :: r => uptoBulkEntry x + uptoBulkEntries r
def uptoBulkEntry {H : Type} : Lit × DataW H → Nat
  | (.string bytes, d) => bytes.length + uptoBulk d + 1
  | (_, d) => uptoBulk d + 1
 end
def uptoSmall : (H : Type) → List (DataW H) → Bool := fun _ ds => decide (uptoBulkAll ds ≤ 1048576)
def OpenSpec.upto (s : _root_.Go.ChangeSpec) : _root_.Go.OpenSpec := { _root_.Go.OpenSpec.ofChange s with cond := some uptoSmall }

/-- 'laws.FnStates', WHERE WHAT IT READS IS OF BULK AT MOST 1048576: true; the input reads as it did. -/
def fnStatesUptoRow : OpenClaim := { program := "ytapooehfoihdlaadoor", sum := "a90a05be2048f785671d23bd1982b108659ad578bc5f3033f34337f696ec0a95", func := "loop.example/g00342/laws.FnStates", spec := "fnStates", named := ["loop.example/g00342/impl.holdings"], plainKeys := false, apart := false, laid := [("loop.example/g00342/impl.holdings", laid_loop_example_g00342_impl_holdings)], narrowed := true }
def FnStatesUptoSaid : Prop := fnStatesUptoRow.holds Tryd.pinned (OpenSpec.upto fnStatesSpec)

/-- 'laws.FnGranted', WHERE WHAT IT READS IS OF BULK AT MOST 1048576: true; the input reads as it did. -/
def fnGrantedUptoRow : OpenClaim := { program := "ytapooehfoihdlaadoor", sum := "a90a05be2048f785671d23bd1982b108659ad578bc5f3033f34337f696ec0a95", func := "loop.example/g00342/laws.FnGranted", spec := "fnGranted", named := ["loop.example/g00342/impl.holdings"], plainKeys := false, apart := false, laid := [("loop.example/g00342/impl.holdings", laid_loop_example_g00342_impl_holdings)], narrowed := true }
def FnGrantedUptoSaid : Prop := fnGrantedUptoRow.holds Tryd.pinned (OpenSpec.upto fnGrantedSpec)

/-- 'laws.FnExactTogether', WHERE WHAT IT READS IS OF BULK AT MOST 1048576: true; the input reads as it did. -/
def fnExactTogetherUptoRow : OpenClaim := { program := "ytapooehfoihdlaadoor", sum := "a90a05be2048f785671d23bd1982b108659ad578bc5f3033f34337f696ec0a95", func := "loop.example/g00342/laws.FnExactTogether", spec := "fnExactTogether", named := ["loop.example/g00342/impl.holdings"], plainKeys := false, apart := false, laid := [("loop.example/g00342/impl.holdings", laid_loop_example_g00342_impl_holdings)], narrowed := true }
def FnExactTogetherUptoSaid : Prop := fnExactTogetherUptoRow.holds Tryd.pinned (OpenSpec.upto fnExactTogetherSpec)

/-- 'laws.FnExactAsks', WHERE WHAT IT READS IS OF BULK AT MOST 1048576: true; the input reads as it did. -/
def fnExactAsksUptoRow : OpenClaim := { program := "ytapooehfoihdlaadoor", sum := "a90a05be2048f785671d23bd1982b108659ad578bc5f3033f34337f696ec0a95", func := "loop.example/g00342/laws.FnExactAsks", spec := "fnExactAsks", named := ["loop.example/g00342/impl.holdings"], plainKeys := false, apart := false, laid := [("loop.example/g00342/impl.holdings", laid_loop_example_g00342_impl_holdings)], narrowed := true }
def FnExactAsksUptoSaid : Prop := fnExactAsksUptoRow.holds Tryd.pinned (OpenSpec.upto fnExactAsksSpec)

/-- 'laws.FnExactGranted', WHERE WHAT IT READS IS OF BULK AT MOST 1048576: true; the input reads as it did. -/
def fnExactGrantedUptoRow : OpenClaim := { program := "ytapooehfoihdlaadoor", sum := "a90a05be2048f785671d23bd1982b108659ad578bc5f3033f34337f696ec0a95", func := "loop.example/g00342/laws.FnExactGranted", spec := "fnExactGranted", named := ["loop.example/g00342/impl.holdings"], plainKeys := false, apart := false, laid := [("loop.example/g00342/impl.holdings", laid_loop_example_g00342_impl_holdings)], narrowed := true }
def FnExactGrantedUptoSaid : Prop := fnExactGrantedUptoRow.holds Tryd.pinned (OpenSpec.upto fnExactGrantedSpec)

end Rows
end Go.Proofs.YtapooehfoihdlaaDoor
