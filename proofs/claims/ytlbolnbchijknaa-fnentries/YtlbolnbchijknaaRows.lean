/-
  No cell of these rows narrows 'for every input' (looked for: loops, veiled, ifaces, maps, wideKeys, modest, calm, conditions, laid).
  DERIVED. THE GIVEN ROWS OF THIS SEAT. 5 by the template 'for every input the law returns true; each argument reads behind the call as it read before'; 0 by the template 'total and deterministic' (their statements: YtlbolnbchijknaaTotals.lean).
  GIVEN WITH THE SEED: the statements are not yours to turn. If you find one false, say at which input.
  Laid BY PROGRAM, IN A SANDBOX (cutbox-rows.mjs): the forced cells as the released guide's own fill.sh prints them over the translation 10abed80297bd824… (all of the seat's roots in one cut). By AI agents, Wed Nov 11 2026. No macro, syntax, notation, axiom, sorry.
-/
import Derived.Test.YtlbolnbchijknaaChecked
import GoSem.Claim
import GoSem.ClaimJoined
import GoSem.ClaimMapViews
import Derived.JoinedTies
import Derived.KernelRfl
namespace Go.Proofs.Ytlbolnbchijknaa
/- THE CELL 'sum', in the pinned program and in every row, IS THE sha256 OF THE DUMP (.gsa) THAT YtlbolnbchijknaaProg.lean LOADS. Nothing in Lean hashes anything: it is a label: what it is worth is what the hold of that sum in a sandbox is worth. -/
noncomputable def Try.pinned : Pinned := { name := "ytlbolnbchijknaa", sum := "10abed80297bd824fb3a931d03c727556b00e9880faae34c56966b21e1a084c3", checked := Try.checked }
namespace Rows
def none {H : Type} : Left H := { results := [], args := [] }

/-- 'laws.FnEntries': WHATEVER THE INPUT: true; the input reads as it did. -/
def fnEntriesSpec : ChangeSpec := { name := "fnEntries", fn := fun _ => fun
  | [d] => { results := [.lit (.bool true)], args := [d] }
  | _ => none }
def fnEntriesRow : OpenClaim := { program := "ytlbolnbchijknaa", sum := "10abed80297bd824fb3a931d03c727556b00e9880faae34c56966b21e1a084c3", func := "loop.example/g00342/laws.FnEntries", spec := "fnEntries", unfollowed := true, recurses := true, apart := false }
def FnEntriesSaid : Prop := fnEntriesRow.holds Try.pinned (OpenSpec.ofChange fnEntriesSpec)

/-- ITS FALSE NEIGHBOUR: 'it returns false'. Refute it at one input. -/
def fnEntriesWrong : ChangeSpec := { name := "fnEntries", fn := fun _ => fun
  | [d] => { results := [.lit (.bool false)], args := [d] }
  | _ => none }
def FnEntriesWrongFalsely : Prop := fnEntriesRow.holds Try.pinned (OpenSpec.ofChange fnEntriesWrong)

/-- 'laws.FnExactEntryOk': WHATEVER THE INPUT: true; the input reads as it did. -/
def fnExactEntryOkSpec : ChangeSpec := { name := "fnExactEntryOk", fn := fun _ => fun
  | [d] => { results := [.lit (.bool true)], args := [d] }
  | _ => none }
def fnExactEntryOkRow : OpenClaim := { program := "ytlbolnbchijknaa", sum := "10abed80297bd824fb3a931d03c727556b00e9880faae34c56966b21e1a084c3", func := "loop.example/g00342/laws.FnExactEntryOk", spec := "fnExactEntryOk", apart := false }
def FnExactEntryOkSaid : Prop := fnExactEntryOkRow.holds Try.pinned (OpenSpec.ofChange fnExactEntryOkSpec)

/-- ITS FALSE NEIGHBOUR: 'it returns false'. Refute it at one input. -/
def fnExactEntryOkWrong : ChangeSpec := { name := "fnExactEntryOk", fn := fun _ => fun
  | [d] => { results := [.lit (.bool false)], args := [d] }
  | _ => none }
def FnExactEntryOkWrongFalsely : Prop := fnExactEntryOkRow.holds Try.pinned (OpenSpec.ofChange fnExactEntryOkWrong)

/-- 'laws.FnExactNewEntry': WHATEVER THE INPUT: true; the input reads as it did. -/
def fnExactNewEntrySpec : ChangeSpec := { name := "fnExactNewEntry", fn := fun _ => fun
  | [] => { results := [.lit (.bool true)], args := [] }
  | _ => none }
def fnExactNewEntryRow : OpenClaim := { program := "ytlbolnbchijknaa", sum := "10abed80297bd824fb3a931d03c727556b00e9880faae34c56966b21e1a084c3", func := "loop.example/g00342/laws.FnExactNewEntry", spec := "fnExactNewEntry", apart := false }
def FnExactNewEntrySaid : Prop := fnExactNewEntryRow.holds Try.pinned (OpenSpec.ofChange fnExactNewEntrySpec)

/-- ITS FALSE NEIGHBOUR: 'it returns false'. Refute it at one input. -/
def fnExactNewEntryWrong : ChangeSpec := { name := "fnExactNewEntry", fn := fun _ => fun
  | [] => { results := [.lit (.bool false)], args := [] }
  | _ => none }
def FnExactNewEntryWrongFalsely : Prop := fnExactNewEntryRow.holds Try.pinned (OpenSpec.ofChange fnExactNewEntryWrong)

/-- 'laws.FnExactHolders': WHATEVER THE INPUT: true; the input reads as it did. -/
def fnExactHoldersSpec : ChangeSpec := { name := "fnExactHolders", fn := fun _ => fun
  | [d] => { results := [.lit (.bool true)], args := [d] }
  | _ => none }
def fnExactHoldersRow : OpenClaim := { program := "ytlbolnbchijknaa", sum := "10abed80297bd824fb3a931d03c727556b00e9880faae34c56966b21e1a084c3", func := "loop.example/g00342/laws.FnExactHolders", spec := "fnExactHolders", unfollowed := true, recurses := true, apart := false }
def FnExactHoldersSaid : Prop := fnExactHoldersRow.holds Try.pinned (OpenSpec.ofChange fnExactHoldersSpec)

/-- ITS FALSE NEIGHBOUR: 'it returns false'. Refute it at one input. -/
def fnExactHoldersWrong : ChangeSpec := { name := "fnExactHolders", fn := fun _ => fun
  | [d] => { results := [.lit (.bool false)], args := [d] }
  | _ => none }
def FnExactHoldersWrongFalsely : Prop := fnExactHoldersRow.holds Try.pinned (OpenSpec.ofChange fnExactHoldersWrong)

/-- 'laws.FnExactForgot': WHATEVER THE INPUT: true; the input reads as it did. -/
def fnExactForgotSpec : ChangeSpec := { name := "fnExactForgot", fn := fun _ => fun
  | [d1, d2] => { results := [.lit (.bool true)], args := [d1, d2] }
  | _ => none }
def fnExactForgotRow : OpenClaim := { program := "ytlbolnbchijknaa", sum := "10abed80297bd824fb3a931d03c727556b00e9880faae34c56966b21e1a084c3", func := "loop.example/g00342/laws.FnExactForgot", spec := "fnExactForgot", apart := false }
def FnExactForgotSaid : Prop := fnExactForgotRow.holds Try.pinned (OpenSpec.ofChange fnExactForgotSpec)

/-- ITS FALSE NEIGHBOUR: 'it returns false'. Refute it at one input. -/
def fnExactForgotWrong : ChangeSpec := { name := "fnExactForgot", fn := fun _ => fun
  | [d1, d2] => { results := [.lit (.bool false)], args := [d1, d2] }
  | _ => none }
def FnExactForgotWrongFalsely : Prop := fnExactForgotRow.holds Try.pinned (OpenSpec.ofChange fnExactForgotWrong)

/- THE SECOND FORM. 'bulk': how many values and letters a reading holds, each counted each time it is reached (what is shared counts as often as it is met; a slice's spare places count too). A statement '..UptoSaid' is the law's where the arguments, and the package variables that the reading takes, are together of bulk at most 1048576: NARROWER than '..Said'. Prove '..Said' where nothing that the law and all that it calls make is longer than what came in: it says more and counts as full. Else prove '..UptoSaid'. A law counts once. -/
mutual
def uptoBulk {H : Type} : DataW H → Nat
  | .lit (.string bytes) => bytes.length + 1
  | .lit _ => 1
  | .nil => 1
  | .ptr d => uptoBulk d + 1
  | .slice elems spare => uptoBulkAll elems + uptoBulkAll spare + 1
  | .agg parts => uptoBulkAll parts + 1
  | .iface _ d => uptoBulk d + 1
  | .map entries => uptoBulkEntries entries + 1
  | .held _ => 1
def uptoBulkAll {H : Type} : List (DataW H) → Nat
  | [] => 0
  | d :: r => uptoBulk d + uptoBulkAll r
def uptoBulkEntries {H : Type} : List (Lit × DataW H) → Nat
  | [] => 0
  | x :: r => uptoBulkEntry x + uptoBulkEntries r
def uptoBulkEntry {H : Type} : Lit × DataW H → Nat
  | (.string bytes, d) => bytes.length + uptoBulk d + 1
  | (_, d) => uptoBulk d + 1
 end
def uptoSmall : (H : Type) → List (DataW H) → Bool := fun _ ds => decide (uptoBulkAll ds ≤ 1048576)
def OpenSpec.upto (s : _root_.Go.ChangeSpec) : _root_.Go.OpenSpec := { _root_.Go.OpenSpec.ofChange s with cond := some uptoSmall }

/-- 'laws.FnEntries', WHERE WHAT IT READS IS OF BULK AT MOST 1048576: true; the input reads as it did. -/
def fnEntriesUptoRow : OpenClaim := { program := "ytlbolnbchijknaa", sum := "10abed80297bd824fb3a931d03c727556b00e9880faae34c56966b21e1a084c3", func := "loop.example/g00342/laws.FnEntries", spec := "fnEntries", unfollowed := true, recurses := true, apart := false, narrowed := true }
def FnEntriesUptoSaid : Prop := fnEntriesUptoRow.holds Try.pinned (OpenSpec.upto fnEntriesSpec)

/-- 'laws.FnExactEntryOk', WHERE WHAT IT READS IS OF BULK AT MOST 1048576: true; the input reads as it did. -/
def fnExactEntryOkUptoRow : OpenClaim := { program := "ytlbolnbchijknaa", sum := "10abed80297bd824fb3a931d03c727556b00e9880faae34c56966b21e1a084c3", func := "loop.example/g00342/laws.FnExactEntryOk", spec := "fnExactEntryOk", apart := false, narrowed := true }
def FnExactEntryOkUptoSaid : Prop := fnExactEntryOkUptoRow.holds Try.pinned (OpenSpec.upto fnExactEntryOkSpec)

/-- 'laws.FnExactNewEntry', WHERE WHAT IT READS IS OF BULK AT MOST 1048576: true; the input reads as it did. -/
def fnExactNewEntryUptoRow : OpenClaim := { program := "ytlbolnbchijknaa", sum := "10abed80297bd824fb3a931d03c727556b00e9880faae34c56966b21e1a084c3", func := "loop.example/g00342/laws.FnExactNewEntry", spec := "fnExactNewEntry", apart := false, narrowed := true }
def FnExactNewEntryUptoSaid : Prop := fnExactNewEntryUptoRow.holds Try.pinned (OpenSpec.upto fnExactNewEntrySpec)

/-- 'laws.FnExactHolders', WHERE WHAT IT READS IS OF BULK AT MOST 1048576: true; the input reads as it did. -/
def fnExactHoldersUptoRow : OpenClaim := { program := "ytlbolnbchijknaa", sum := "10abed80297bd824fb3a931d03c727556b00e9880faae34c56966b21e1a084c3", func := "loop.example/g00342/laws.FnExactHolders", spec := "fnExactHolders", unfollowed := true, recurses := true, apart := false, narrowed := true }
def FnExactHoldersUptoSaid : Prop := fnExactHoldersUptoRow.holds Try.pinned (OpenSpec.upto fnExactHoldersSpec)

/-- 'laws.FnExactForgot', WHERE WHAT IT READS IS OF BULK AT MOST 1048576: true; the input reads as it did. -/
def fnExactForgotUptoRow : OpenClaim := { program := "ytlbolnbchijknaa", sum := "10abed80297bd824fb3a931d03c727556b00e9880faae34c56966b21e1a084c3", func := "loop.example/g00342/laws.FnExactForgot", spec := "fnExactForgot", apart := false, narrowed := true }
def FnExactForgotUptoSaid : Prop := fnExactForgotUptoRow.holds Try.pinned (OpenSpec.upto fnExactForgotSpec)

end Rows
end Go.Proofs.Ytlbolnbchijknaa
