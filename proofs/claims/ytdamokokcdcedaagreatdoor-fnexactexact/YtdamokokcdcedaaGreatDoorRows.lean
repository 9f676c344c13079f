/-
  NARROWER THAN 'FOR EVERY INPUT', by the rows' own cells (each row's printed sentence says how): FnExactFlushed: laid · FnExactExact: laid · FnExactFree: laid.
  DERIVED. THE GIVEN ROWS OF THIS SEAT. 3 by the template 'for every input the law returns true; each argument reads behind the call as it read before'; 0 by the template 'total and deterministic' (their statements: YtdamokokcdcedaaGreatDoorTotals.lean).
  GIVEN WITH THE SEED: the statements are not yours to turn. If you find one false, say at which input.
  Laid BY PROGRAM, IN A SANDBOX (cutbox-rows.mjs): the forced cells as the released guide's own fill.sh prints them over the translation ac80db06c81fd283… (all of the seat's roots in one cut). By AI agents, Wed Nov 11 2026. No macro, syntax, notation, axiom, sorry.
-/
import Derived.Test.YtdamokokcdcedaaGreatDoorChecked
import GoSem.Claim
import GoSem.ClaimJoined
import GoSem.ClaimMapViews
import Derived.JoinedTies
import Derived.KernelRfl
namespace Go.Proofs.YtdamokokcdcedaaGreatDoor
/- THE CELL 'sum', in the pinned program and in every row, IS THE sha256 OF THE DUMP (.gsa) THAT YtdamokokcdcedaaGreatDoorProg.lean LOADS. Nothing in Lean hashes anything: it is a label: what it is worth is what the hold of that sum in a sandbox is worth. -/
noncomputable def Tryz.pinned : Pinned := { name := "ytdamokokcdcedaagreatdoor", sum := "ac80db06c81fd28360f5d1dc40d5c2ac139469f053de45a3a7e4478666b0af71", checked := Tryz.checked }
namespace Rows
def none {H : Type} : Left H := { results := [], args := [] }

/- WHAT THE LISTED PACKAGE-LEVEL VARIABLES READ AS WHEN THE CALL BEGINS. Each datum BY PROGRAM (the guide's laid-datum.mjs) off the statement by which the dump's own 'gosem.cut.vars' lays the variable. In a bare row this is a premise. The card (YtdamokokcdcedaaGreatDoorCards.lean) ties it to the program's text. -/
def laid_errors_errorType {H : Type} : DataW H := .iface "internal/reflectlite.rtype" (.agg [.ptr (.lit (.string [101, 114, 114, 111, 114]))])
def laid_loop_example_g00342_impl_holdings {H : Type} : DataW H := .agg [.agg [.lit (.bool false), .lit (.bool false), .lit (.bool false)], .agg [.lit (.bool true), .lit (.bool false), .lit (.bool false)], .agg [.lit (.bool true), .lit (.bool true), .lit (.bool false)], .agg [.lit (.bool true), .lit (.bool true), .lit (.bool true)]]

/-- 'laws.FnExactFlushed': WHATEVER THE INPUT: true; the input reads as it did. -/
def fnExactFlushedSpec : ChangeSpec := { name := "fnExactFlushed", vars := ["loop.example/g00342/impl.holdings"], fn := fun _ => fun
  | [d, g1] => { results := [.lit (.bool true)], args := [d], vars := [g1] }
  | _ => none }
def fnExactFlushedRow : OpenClaim := { program := "ytdamokokcdcedaagreatdoor", sum := "ac80db06c81fd28360f5d1dc40d5c2ac139469f053de45a3a7e4478666b0af71", func := "loop.example/g00342/laws.FnExactFlushed", spec := "fnExactFlushed", inPlace := ["internal/reflectlite.TypeOf", "internal/reflectlite.ValueOf", "(internal/reflectlite.Value).Type", "(internal/reflectlite.Value).IsNil", "(internal/reflectlite.Value).Elem", "(internal/reflectlite.Value).Set"], unfollowed := true, recurses := true, named := ["errors.errorType", "loop.example/g00342/impl.holdings"], plainKeys := false, apart := false, laid := [("errors.errorType", laid_errors_errorType), ("loop.example/g00342/impl.holdings", laid_loop_example_g00342_impl_holdings)] }
def FnExactFlushedSaid : Prop := fnExactFlushedRow.holds Tryz.pinned (OpenSpec.ofChange fnExactFlushedSpec)

/-- ITS FALSE NEIGHBOUR: 'it returns false'. Refute it at one input. -/
def fnExactFlushedWrong : ChangeSpec := { name := "fnExactFlushed", vars := ["loop.example/g00342/impl.holdings"], fn := fun _ => fun
  | [d, g1] => { results := [.lit (.bool false)], args := [d], vars := [g1] }
  | _ => none }
def FnExactFlushedWrongFalsely : Prop := fnExactFlushedRow.holds Tryz.pinned (OpenSpec.ofChange fnExactFlushedWrong)

/-- 'laws.FnExactExact': WHATEVER THE INPUT: true; the input reads as it did. -/
def fnExactExactSpec : ChangeSpec := { name := "fnExactExact", vars := ["loop.example/g00342/impl.holdings"], fn := fun _ => fun
  | [d, g1] => { results := [.lit (.bool true)], args := [d], vars := [g1] }
  | _ => none }
def fnExactExactRow : OpenClaim := { program := "ytdamokokcdcedaagreatdoor", sum := "ac80db06c81fd28360f5d1dc40d5c2ac139469f053de45a3a7e4478666b0af71", func := "loop.example/g00342/laws.FnExactExact", spec := "fnExactExact", inPlace := ["internal/reflectlite.TypeOf", "internal/reflectlite.ValueOf", "(internal/reflectlite.Value).Type", "(internal/reflectlite.Value).IsNil", "(internal/reflectlite.Value).Elem", "(internal/reflectlite.Value).Set"], unfollowed := true, recurses := true, named := ["errors.errorType", "loop.example/g00342/impl.holdings"], plainKeys := false, apart := false, laid := [("errors.errorType", laid_errors_errorType), ("loop.example/g00342/impl.holdings", laid_loop_example_g00342_impl_holdings)] }
def FnExactExactSaid : Prop := fnExactExactRow.holds Tryz.pinned (OpenSpec.ofChange fnExactExactSpec)

/-- ITS FALSE NEIGHBOUR: 'it returns false'. Refute it at one input. -/
def fnExactExactWrong : ChangeSpec := { name := "fnExactExact", vars := ["loop.example/g00342/impl.holdings"], fn := fun _ => fun
  | [d, g1] => { results := [.lit (.bool false)], args := [d], vars := [g1] }
  | _ => none }
def FnExactExactWrongFalsely : Prop := fnExactExactRow.holds Tryz.pinned (OpenSpec.ofChange fnExactExactWrong)

/-- 'laws.FnExactFree': WHATEVER THE INPUT: true; the input reads as it did. -/
def fnExactFreeSpec : ChangeSpec := { name := "fnExactFree", fn := fun _ => fun
  | [d] => { results := [.lit (.bool true)], args := [d] }
  | _ => none }
def fnExactFreeRow : OpenClaim := { program := "ytdamokokcdcedaagreatdoor", sum := "ac80db06c81fd28360f5d1dc40d5c2ac139469f053de45a3a7e4478666b0af71", func := "loop.example/g00342/laws.FnExactFree", spec := "fnExactFree", inPlace := ["internal/reflectlite.TypeOf", "internal/reflectlite.ValueOf", "(internal/reflectlite.Value).Type", "(internal/reflectlite.Value).IsNil", "(internal/reflectlite.Value).Elem", "(internal/reflectlite.Value).Set"], unfollowed := true, recurses := true, named := ["errors.errorType"], plainKeys := false, apart := false, laid := [("errors.errorType", laid_errors_errorType)] }
def FnExactFreeSaid : Prop := fnExactFreeRow.holds Tryz.pinned (OpenSpec.ofChange fnExactFreeSpec)

/-- ITS FALSE NEIGHBOUR: 'it returns false'. Refute it at one input. -/
def fnExactFreeWrong : ChangeSpec := { name := "fnExactFree", fn := fun _ => fun
  | [d] => { results := [.lit (.bool false)], args := [d] }
  | _ => none }
def FnExactFreeWrongFalsely : Prop := fnExactFreeRow.holds Tryz.pinned (OpenSpec.ofChange fnExactFreeWrong)

/- THE SECOND FORM. 'bulk': how many values and letters a reading holds, each counted each time it is reached (what is shared counts as often as it is met; a slice's spare places count too). A statement '..UptoSaid' is the law's where the arguments, and the package variables that the reading takes, are together of bulk at most 1048576: NARROWER than '..Said'. Prove '..Said' where nothing that the law and all that it calls make is longer than what came in: it says more and counts as full. Else prove '..UptoSaid'. A law counts once. -/
mutual
def uptoBulk {H : Type} : DataW H → Nat
  | .lit (.string bytes) => bytes.length + 1
  | .lit _ => 1
  | .nil => 1
  | .ptr d => uptoBulk d + 1
  | .slice elems spare => uptoBulkAll elems + uptoBulkAll spare + 1
  | .agg parts => uptoBulkAll parts + 1
  | .iface _ d => uptoBulk d + 1
  | .map entries => uptoBulkEntries entries + 1
  | .held _ => 1
def uptoBulkAll {H : Type} : List (DataW H) → Nat
  | [] => 0
  | d :: r => uptoBulk d + uptoBulkAll r
def uptoBulkEntries {H : Type} : List (Lit × DataW H) → Nat
  | [] => 0
  | x :: r => uptoBulkEntry x + uptoBulkEntries r
def uptoBulkEntry {H : Type} : Lit × DataW H → Nat
  | (.string bytes, d) => bytes.length + uptoBulk d + 1
  | (_, d) => uptoBulk d + 1
 end
def uptoSmall : (H : Type) → List (DataW H) → Bool := fun _ ds => decide (uptoBulkAll ds ≤ 1048576)
def OpenSpec.upto (s : _root_.Go.ChangeSpec) : _root_.Go.OpenSpec := { _root_.Go.OpenSpec.ofChange s with cond := some uptoSmall }

/-- 'laws.FnExactFlushed', WHERE WHAT IT READS IS OF BULK AT MOST 1048576: true; the input reads as it did. -/
def fnExactFlushedUptoRow : OpenClaim := { program := "ytdamokokcdcedaagreatdoor", sum := "ac80db06c81fd28360f5d1dc40d5c2ac139469f053de45a3a7e4478666b0af71", func := "loop.example/g00342/laws.FnExactFlushed", spec := "fnExactFlushed", inPlace := ["internal/reflectlite.TypeOf", "internal/reflectlite.ValueOf", "(internal/reflectlite.Value).Type", "(internal/reflectlite.Value).IsNil", "(internal/reflectlite.Value).Elem", "(internal/reflectlite.Value).Set"], unfollowed := true, recurses := true, named := ["errors.errorType", "loop.example/g00342/impl.holdings"], plainKeys := false, apart := false, laid := [("errors.errorType", laid_errors_errorType), ("loop.example/g00342/impl.holdings", laid_loop_example_g00342_impl_holdings)], narrowed := true }
def FnExactFlushedUptoSaid : Prop := fnExactFlushedUptoRow.holds Tryz.pinned (OpenSpec.upto fnExactFlushedSpec)

/-- 'laws.FnExactExact', WHERE WHAT IT READS IS OF BULK AT MOST 1048576: true; the input reads as it did. -/
def fnExactExactUptoRow : OpenClaim := { program := "ytdamokokcdcedaagreatdoor", sum := "ac80db06c81fd28360f5d1dc40d5c2ac139469f053de45a3a7e4478666b0af71", func := "loop.example/g00342/laws.FnExactExact", spec := "fnExactExact", inPlace := ["internal/reflectlite.TypeOf", "internal/reflectlite.ValueOf", "(internal/reflectlite.Value).Type", "(internal/reflectlite.Value).IsNil", "(internal/reflectlite.Value).Elem", "(internal/reflectlite.Value).Set"], unfollowed := true, recurses := true, named := ["errors.errorType", "loop.example/g00342/impl.holdings"], plainKeys := false, apart := false, laid := [("errors.errorType", laid_errors_errorType), ("loop.example/g00342/impl.holdings", laid_loop_example_g00342_impl_holdings)], narrowed := true }
def FnExactExactUptoSaid : Prop := fnExactExactUptoRow.holds Tryz.pinned (OpenSpec.upto fnExactExactSpec)

/-- 'laws.FnExactFree', WHERE WHAT IT READS IS OF BULK AT MOST 1048576: true; the input reads as it did. -/
def fnExactFreeUptoRow : OpenClaim := { program := "ytdamokokcdcedaagreatdoor", sum := "ac80db06c81fd28360f5d1dc40d5c2ac139469f053de45a3a7e4478666b0af71", func := "loop.example/g00342/laws.FnExactFree", spec := "fnExactFree", inPlace := ["internal/reflectlite.TypeOf", "internal/reflectlite.ValueOf", "(internal/reflectlite.Value).Type", "(internal/reflectlite.Value).IsNil", "(internal/reflectlite.Value).Elem", "(internal/reflectlite.Value).Set"], unfollowed := true, recurses := true, named := ["errors.errorType"], plainKeys := false, apart := false, laid := [("errors.errorType", laid_errors_errorType)], narrowed := true }
def FnExactFreeUptoSaid : Prop := fnExactFreeUptoRow.holds Tryz.pinned (OpenSpec.upto fnExactFreeSpec)

end Rows
end Go.Proofs.YtdamokokcdcedaaGreatDoor
