/-
  NARROWER THAN 'FOR EVERY INPUT', by the rows' own cells (each row's printed sentence says how): FnBegun: laid · FnGot: laid · FnExactBegun: laid · FnExactGot: laid.
  DERIVED. THE GIVEN ROWS OF THIS SEAT. 4 by the template 'for every input the law returns true; each argument reads behind the call as it read before'; 0 by the template 'total and deterministic' (their statements: YthbclkpmgcfdnaaGreatDoorTotals.lean).
  GIVEN WITH THE SEED: the statements are not yours to turn. If you find one false, say at which input.
  Laid BY PROGRAM, IN A SANDBOX (cutbox-rows.mjs): the forced cells as the released guide's own fill.sh prints them over the translation 3807218991b7ad65… (all of the seat's roots in one cut). By AI agents, Wed Nov 11 2026. No macro, syntax, notation, axiom, sorry.
-/
import Derived.Test.YthbclkpmgcfdnaaGreatDoorChecked
import GoSem.Claim
import GoSem.ClaimJoined
import GoSem.ClaimMapViews
import Derived.JoinedTies
import Derived.KernelRfl
namespace Go.Proofs.YthbclkpmgcfdnaaGreatDoor
/- THE CELL 'sum', in the pinned program and in every row, IS THE sha256 OF THE DUMP (.gsa) THAT YthbclkpmgcfdnaaGreatDoorProg.lean LOADS. Nothing in Lean hashes anything: it is a label: what it is worth is what the hold of that sum in a sandbox is worth. -/
noncomputable def Tryz.pinned : Pinned := { name := "ythbclkpmgcfdnaagreatdoor", sum := "3807218991b7ad657ab8872b1070c005de88a0d79ffe9769f46daa02afa2331d", checked := Tryz.checked }
namespace Rows
def none {H : Type} : Left H := { results := [], args := [] }

/- WHAT THE LISTED PACKAGE-LEVEL VARIABLES READ AS WHEN THE CALL BEGINS. Each datum BY PROGRAM (the guide's laid-datum.mjs) off the statement by which the dump's own 'gosem.cut.vars' lays the variable. In a bare row this is a premise. The card (YthbclkpmgcfdnaaGreatDoorCards.lean) ties it to the program's text. -/
def laid_loop_example_g00342_impl_holdings {H : Type} : DataW H := .agg [.agg [.lit (.bool false), .lit (.bool false), .lit (.bool false)], .agg [.lit (.bool true), .lit (.bool false), .lit (.bool false)], .agg [.lit (.bool true), .lit (.bool true), .lit (.bool false)], .agg [.lit (.bool true), .lit (.bool true), .lit (.bool true)]]

/-- 'laws.FnBegun': WHATEVER THE INPUT: true; the input reads as it did. -/
def fnBegunSpec : ChangeSpec := { name := "fnBegun", vars := ["loop.example/g00342/impl.holdings"], fn := fun _ => fun
  | [d, g1] => { results := [.lit (.bool true)], args := [d], vars := [g1] }
  | _ => none }
def fnBegunRow : OpenClaim := { program := "ythbclkpmgcfdnaagreatdoor", sum := "3807218991b7ad657ab8872b1070c005de88a0d79ffe9769f46daa02afa2331d", func := "loop.example/g00342/laws.FnBegun", spec := "fnBegun", unfollowed := true, recurses := true, named := ["loop.example/g00342/impl.holdings"], plainKeys := false, apart := false, laid := [("loop.example/g00342/impl.holdings", laid_loop_example_g00342_impl_holdings)] }
def FnBegunSaid : Prop := fnBegunRow.holds Tryz.pinned (OpenSpec.ofChange fnBegunSpec)

/-- ITS FALSE NEIGHBOUR: 'it returns false'. Refute it at one input. -/
def fnBegunWrong : ChangeSpec := { name := "fnBegun", vars := ["loop.example/g00342/impl.holdings"], fn := fun _ => fun
  | [d, g1] => { results := [.lit (.bool false)], args := [d], vars := [g1] }
  | _ => none }
def FnBegunWrongFalsely : Prop := fnBegunRow.holds Tryz.pinned (OpenSpec.ofChange fnBegunWrong)

/-- 'laws.FnGot': WHATEVER THE INPUT: true; the input reads as it did. -/
def fnGotSpec : ChangeSpec := { name := "fnGot", vars := ["loop.example/g00342/impl.holdings"], fn := fun _ => fun
  | [d, g1] => { results := [.lit (.bool true)], args := [d], vars := [g1] }
  | _ => none }
def fnGotRow : OpenClaim := { program := "ythbclkpmgcfdnaagreatdoor", sum := "3807218991b7ad657ab8872b1070c005de88a0d79ffe9769f46daa02afa2331d", func := "loop.example/g00342/laws.FnGot", spec := "fnGot", unfollowed := true, recurses := true, named := ["loop.example/g00342/impl.holdings"], plainKeys := false, apart := false, laid := [("loop.example/g00342/impl.holdings", laid_loop_example_g00342_impl_holdings)] }
def FnGotSaid : Prop := fnGotRow.holds Tryz.pinned (OpenSpec.ofChange fnGotSpec)

/-- ITS FALSE NEIGHBOUR: 'it returns false'. Refute it at one input. -/
def fnGotWrong : ChangeSpec := { name := "fnGot", vars := ["loop.example/g00342/impl.holdings"], fn := fun _ => fun
  | [d, g1] => { results := [.lit (.bool false)], args := [d], vars := [g1] }
  | _ => none }
def FnGotWrongFalsely : Prop := fnGotRow.holds Tryz.pinned (OpenSpec.ofChange fnGotWrong)

/-- 'laws.FnExactBegun': WHATEVER THE INPUT: true; the input reads as it did. -/
def fnExactBegunSpec : ChangeSpec := { name := "fnExactBegun", vars := ["loop.example/g00342/impl.holdings"], fn := fun _ => fun
  | [d1, d2, g1] => { results := [.lit (.bool true)], args := [d1, d2], vars := [g1] }
  | _ => none }
def fnExactBegunRow : OpenClaim := { program := "ythbclkpmgcfdnaagreatdoor", sum := "3807218991b7ad657ab8872b1070c005de88a0d79ffe9769f46daa02afa2331d", func := "loop.example/g00342/laws.FnExactBegun", spec := "fnExactBegun", unfollowed := true, recurses := true, named := ["loop.example/g00342/impl.holdings"], plainKeys := false, apart := false, laid := [("loop.example/g00342/impl.holdings", laid_loop_example_g00342_impl_holdings)] }
def FnExactBegunSaid : Prop := fnExactBegunRow.holds Tryz.pinned (OpenSpec.ofChange fnExactBegunSpec)

/-- ITS FALSE NEIGHBOUR: 'it returns false'. Refute it at one input. -/
def fnExactBegunWrong : ChangeSpec := { name := "fnExactBegun", vars := ["loop.example/g00342/impl.holdings"], fn := fun _ => fun
  | [d1, d2, g1] => { results := [.lit (.bool false)], args := [d1, d2], vars := [g1] }
  | _ => none }
def FnExactBegunWrongFalsely : Prop := fnExactBegunRow.holds Tryz.pinned (OpenSpec.ofChange fnExactBegunWrong)

/-- 'laws.FnExactGot': WHATEVER THE INPUT: true; the input reads as it did. -/
def fnExactGotSpec : ChangeSpec := { name := "fnExactGot", vars := ["loop.example/g00342/impl.holdings"], fn := fun _ => fun
  | [d1, d2, d3, g1] => { results := [.lit (.bool true)], args := [d1, d2, d3], vars := [g1] }
  | _ => none }
def fnExactGotRow : OpenClaim := { program := "ythbclkpmgcfdnaagreatdoor", sum := "3807218991b7ad657ab8872b1070c005de88a0d79ffe9769f46daa02afa2331d", func := "loop.example/g00342/laws.FnExactGot", spec := "fnExactGot", unfollowed := true, recurses := true, named := ["loop.example/g00342/impl.holdings"], plainKeys := false, apart := false, laid := [("loop.example/g00342/impl.holdings", laid_loop_example_g00342_impl_holdings)] }
def FnExactGotSaid : Prop := fnExactGotRow.holds Tryz.pinned (OpenSpec.ofChange fnExactGotSpec)

/-- ITS FALSE NEIGHBOUR: 'it returns false'. Refute it at one input. -/
def fnExactGotWrong : ChangeSpec := { name := "fnExactGot", vars := ["loop.example/g00342/impl.holdings"], fn := fun _ => fun
  | [d1, d2, d3, g1] => { results := [.lit (.bool false)], args := [d1, d2, d3], vars := [g1] }
  | _ => none }
def FnExactGotWrongFalsely : Prop := fnExactGotRow.holds Tryz.pinned (OpenSpec.ofChange fnExactGotWrong)

/- THE SECOND FORM. 'bulk': how many values and letters a reading holds, each counted each time it is reached (what is shared counts as often as it is met; a slice's spare places count too). A statement '..UptoSaid' is the law's where the arguments, and the package variables that the reading takes, are together of bulk at most 1048576: NARROWER than '..Said'. Prove '..Said' where nothing that the law and all that it calls make is longer than what came in: it says more and counts as full. Else prove '..UptoSaid'. A law counts once. -/
mutual
def uptoBulk {H : Type} : DataW H → Nat
  | .lit (.string bytes) => bytes.length + 1
  | .lit _ => 1
  | .nil => 1
  | .ptr d => uptoBulk d + 1
  | .slice elems spare => uptoBulkAll elems + uptoBulkAll spare + 1
  | .agg parts => uptoBulkAll parts + 1
  | .iface _ d => uptoBulk d + 1
  | .map entries => uptoBulkEntries entries + 1
  | .held _ => 1
def uptoBulkAll {H : Type} : List (DataW H) → Nat
  | [] => 0
  | d :: r => uptoBulk d + uptoBulkAll r
def uptoBulkEntries {H : Type} : List (Lit × DataW H) → Nat
  | [] => 0
  | x :: r => uptoBulkEntry x + uptoBulkEntries r
def uptoBulkEntry {H : Type} : Lit × DataW H → Nat
  | (.string bytes, d) => bytes.length + uptoBulk d + 1
  | (_, d) => uptoBulk d + 1
 end
def uptoSmall : (H : Type) → List (DataW H) → Bool := fun _ ds => decide (uptoBulkAll ds ≤ 1048576)
def OpenSpec.upto (s : _root_.Go.ChangeSpec) : _root_.Go.OpenSpec := { _root_.Go.OpenSpec.ofChange s with cond := some uptoSmall }

/-- 'laws.FnBegun', WHERE WHAT IT READS IS OF BULK AT MOST 1048576: true; the input reads as it did. -/
def fnBegunUptoRow : OpenClaim := { program := "ythbclkpmgcfdnaagreatdoor", sum := "3807218991b7ad657ab8872b1070c005de88a0d79ffe9769f46daa02afa2331d", func := "loop.example/g00342/laws.FnBegun", spec := "fnBegun", unfollowed := true, recurses := true, named := ["loop.example/g00342/impl.holdings"], plainKeys := false, apart := false, laid := [("loop.example/g00342/impl.holdings", laid_loop_example_g00342_impl_holdings)], narrowed := true }
def FnBegunUptoSaid : Prop := fnBegunUptoRow.holds Tryz.pinned (OpenSpec.upto fnBegunSpec)

/-- 'laws.FnGot', WHERE WHAT IT READS IS OF BULK AT MOST 1048576: true; the input reads as it did. -/
def fnGotUptoRow : OpenClaim := { program := "ythbclkpmgcfdnaagreatdoor", sum := "3807218991b7ad657ab8872b1070c005de88a0d79ffe9769f46daa02afa2331d", func := "loop.example/g00342/laws.FnGot", spec := "fnGot", unfollowed := true, recurses := true, named := ["loop.example/g00342/impl.holdings"], plainKeys := false, apart := false, laid := [("loop.example/g00342/impl.holdings", laid_loop_example_g00342_impl_holdings)], narrowed := true }
def FnGotUptoSaid : Prop := fnGotUptoRow.holds Tryz.pinned (OpenSpec.upto fnGotSpec)

/-- 'laws.FnExactBegun', WHERE WHAT IT READS IS OF BULK AT MOST 1048576: true; the input reads as it did. -/
def fnExactBegunUptoRow : OpenClaim := { program := "ythbclkpmgcfdnaagreatdoor", sum := "3807218991b7ad657ab8872b1070c005de88a0d79ffe9769f46daa02afa2331d", func := "loop.example/g00342/laws.FnExactBegun", spec := "fnExactBegun", unfollowed := true, recurses := true, named := ["loop.example/g00342/impl.holdings"], plainKeys := false, apart := false, laid := [("loop.example/g00342/impl.holdings", laid_loop_example_g00342_impl_holdings)], narrowed := true }
def FnExactBegunUptoSaid : Prop := fnExactBegunUptoRow.holds Tryz.pinned (OpenSpec.upto fnExactBegunSpec)

/-- 'laws.FnExactGot', WHERE WHAT IT READS IS OF BULK AT MOST 1048576: true; the input reads as it did. -/
def fnExactGotUptoRow : OpenClaim := { program := "ythbclkpmgcfdnaagreatdoor", sum := "3807218991b7ad657ab8872b1070c005de88a0d79ffe9769f46daa02afa2331d", func := "loop.example/g00342/laws.FnExactGot", spec := "fnExactGot", unfollowed := true, recurses := true, named := ["loop.example/g00342/impl.holdings"], plainKeys := false, apart := false, laid := [("loop.example/g00342/impl.holdings", laid_loop_example_g00342_impl_holdings)], narrowed := true }
def FnExactGotUptoSaid : Prop := fnExactGotUptoRow.holds Tryz.pinned (OpenSpec.upto fnExactGotSpec)

end Rows
end Go.Proofs.YthbclkpmgcfdnaaGreatDoor
