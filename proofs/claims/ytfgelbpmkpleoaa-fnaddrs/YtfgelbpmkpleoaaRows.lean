/-
  No cell of these rows narrows 'for every input' (looked for: loops, veiled, ifaces, maps, wideKeys, modest, calm, conditions, laid).
  DERIVED. THE GIVEN ROWS OF THIS SEAT. 6 by the template 'for every input the law returns true; each argument reads behind the call as it read before'; 0 by the template 'total and deterministic' (their statements: YtfgelbpmkpleoaaTotals.lean).
  GIVEN WITH THE SEED: the statements are not yours to turn. If you find one false, say at which input.
  Laid BY PROGRAM, IN A SANDBOX (cutbox-rows.mjs): the forced cells as the released guide's own fill.sh prints them over the translation ebb20058124d1c0f… (all of the seat's roots in one cut). By AI agents, Wed Nov 11 2026. No macro, syntax, notation, axiom, sorry.
-/
import Derived.Test.YtfgelbpmkpleoaaChecked
import GoSem.Claim
import GoSem.ClaimJoined
import GoSem.ClaimMapViews
import Derived.JoinedTies
import Derived.KernelRfl
namespace Go.Proofs.Ytfgelbpmkpleoaa
/- THE CELL 'sum', in the pinned program and in every row, IS THE sha256 OF THE DUMP (.gsa) THAT YtfgelbpmkpleoaaProg.lean LOADS. Nothing in Lean hashes anything: it is a label: what it is worth is what the hold of that sum in a sandbox is worth. -/
noncomputable def Try.pinned : Pinned := { name := "ytfgelbpmkpleoaa", sum := "ebb20058124d1c0f5e4f926b383bccb9cf764c9f591d09b3c1e00d7eef4c64a4", checked := Try.checked }
namespace Rows
def none {H : Type} : Left H := { results := [], args := [] }

/-- 'laws.FnAddrs': WHATEVER THE INPUT: true; the input reads as it did. -/
def fnAddrsSpec : ChangeSpec := { name := "fnAddrs", fn := fun _ => fun
  | [d] => { results := [.lit (.bool true)], args := [d] }
  | _ => none }
def fnAddrsRow : OpenClaim := { program := "ytfgelbpmkpleoaa", sum := "ebb20058124d1c0f5e4f926b383bccb9cf764c9f591d09b3c1e00d7eef4c64a4", func := "loop.example/g00342/laws.FnAddrs", spec := "fnAddrs", apart := false }
def FnAddrsSaid : Prop := fnAddrsRow.holds Try.pinned (OpenSpec.ofChange fnAddrsSpec)

/-- ITS FALSE NEIGHBOUR: 'it returns false'. Refute it at one input. -/
def fnAddrsWrong : ChangeSpec := { name := "fnAddrs", fn := fun _ => fun
  | [d] => { results := [.lit (.bool false)], args := [d] }
  | _ => none }
def FnAddrsWrongFalsely : Prop := fnAddrsRow.holds Try.pinned (OpenSpec.ofChange fnAddrsWrong)

/-- 'laws.FnExactConfigCode': WHATEVER THE INPUT: true; the input reads as it did. -/
def fnExactConfigCodeSpec : ChangeSpec := { name := "fnExactConfigCode", fn := fun _ => fun
  | [d] => { results := [.lit (.bool true)], args := [d] }
  | _ => none }
def fnExactConfigCodeRow : OpenClaim := { program := "ytfgelbpmkpleoaa", sum := "ebb20058124d1c0f5e4f926b383bccb9cf764c9f591d09b3c1e00d7eef4c64a4", func := "loop.example/g00342/laws.FnExactConfigCode", spec := "fnExactConfigCode", apart := false }
def FnExactConfigCodeSaid : Prop := fnExactConfigCodeRow.holds Try.pinned (OpenSpec.ofChange fnExactConfigCodeSpec)

/-- ITS FALSE NEIGHBOUR: 'it returns false'. Refute it at one input. -/
def fnExactConfigCodeWrong : ChangeSpec := { name := "fnExactConfigCode", fn := fun _ => fun
  | [d] => { results := [.lit (.bool false)], args := [d] }
  | _ => none }
def FnExactConfigCodeWrongFalsely : Prop := fnExactConfigCodeRow.holds Try.pinned (OpenSpec.ofChange fnExactConfigCodeWrong)

/-- 'laws.FnExactLineOf': WHATEVER THE INPUT: true; the input reads as it did. -/
def fnExactLineOfSpec : ChangeSpec := { name := "fnExactLineOf", fn := fun _ => fun
  | [d1, d2] => { results := [.lit (.bool true)], args := [d1, d2] }
  | _ => none }
def fnExactLineOfRow : OpenClaim := { program := "ytfgelbpmkpleoaa", sum := "ebb20058124d1c0f5e4f926b383bccb9cf764c9f591d09b3c1e00d7eef4c64a4", func := "loop.example/g00342/laws.FnExactLineOf", spec := "fnExactLineOf", apart := false }
def FnExactLineOfSaid : Prop := fnExactLineOfRow.holds Try.pinned (OpenSpec.ofChange fnExactLineOfSpec)

/-- ITS FALSE NEIGHBOUR: 'it returns false'. Refute it at one input. -/
def fnExactLineOfWrong : ChangeSpec := { name := "fnExactLineOf", fn := fun _ => fun
  | [d1, d2] => { results := [.lit (.bool false)], args := [d1, d2] }
  | _ => none }
def FnExactLineOfWrongFalsely : Prop := fnExactLineOfRow.holds Try.pinned (OpenSpec.ofChange fnExactLineOfWrong)

/-- 'laws.FnExactWordOf': WHATEVER THE INPUT: true; the input reads as it did. -/
def fnExactWordOfSpec : ChangeSpec := { name := "fnExactWordOf", fn := fun _ => fun
  | [d1, d2] => { results := [.lit (.bool true)], args := [d1, d2] }
  | _ => none }
def fnExactWordOfRow : OpenClaim := { program := "ytfgelbpmkpleoaa", sum := "ebb20058124d1c0f5e4f926b383bccb9cf764c9f591d09b3c1e00d7eef4c64a4", func := "loop.example/g00342/laws.FnExactWordOf", spec := "fnExactWordOf", apart := false }
def FnExactWordOfSaid : Prop := fnExactWordOfRow.holds Try.pinned (OpenSpec.ofChange fnExactWordOfSpec)

/-- ITS FALSE NEIGHBOUR: 'it returns false'. Refute it at one input. -/
def fnExactWordOfWrong : ChangeSpec := { name := "fnExactWordOf", fn := fun _ => fun
  | [d1, d2] => { results := [.lit (.bool false)], args := [d1, d2] }
  | _ => none }
def FnExactWordOfWrongFalsely : Prop := fnExactWordOfRow.holds Try.pinned (OpenSpec.ofChange fnExactWordOfWrong)

/-- 'laws.FnExactSetOf': WHATEVER THE INPUT: true; the input reads as it did. -/
def fnExactSetOfSpec : ChangeSpec := { name := "fnExactSetOf", fn := fun _ => fun
  | [d1, d2] => { results := [.lit (.bool true)], args := [d1, d2] }
  | _ => none }
def fnExactSetOfRow : OpenClaim := { program := "ytfgelbpmkpleoaa", sum := "ebb20058124d1c0f5e4f926b383bccb9cf764c9f591d09b3c1e00d7eef4c64a4", func := "loop.example/g00342/laws.FnExactSetOf", spec := "fnExactSetOf", apart := false }
def FnExactSetOfSaid : Prop := fnExactSetOfRow.holds Try.pinned (OpenSpec.ofChange fnExactSetOfSpec)

/-- ITS FALSE NEIGHBOUR: 'it returns false'. Refute it at one input. -/
def fnExactSetOfWrong : ChangeSpec := { name := "fnExactSetOf", fn := fun _ => fun
  | [d1, d2] => { results := [.lit (.bool false)], args := [d1, d2] }
  | _ => none }
def FnExactSetOfWrongFalsely : Prop := fnExactSetOfRow.holds Try.pinned (OpenSpec.ofChange fnExactSetOfWrong)

/-- 'laws.FnExactAddrOf': WHATEVER THE INPUT: true; the input reads as it did. -/
def fnExactAddrOfSpec : ChangeSpec := { name := "fnExactAddrOf", fn := fun _ => fun
  | [d1, d2, d3] => { results := [.lit (.bool true)], args := [d1, d2, d3] }
  | _ => none }
def fnExactAddrOfRow : OpenClaim := { program := "ytfgelbpmkpleoaa", sum := "ebb20058124d1c0f5e4f926b383bccb9cf764c9f591d09b3c1e00d7eef4c64a4", func := "loop.example/g00342/laws.FnExactAddrOf", spec := "fnExactAddrOf", apart := false }
def FnExactAddrOfSaid : Prop := fnExactAddrOfRow.holds Try.pinned (OpenSpec.ofChange fnExactAddrOfSpec)

/-- ITS FALSE NEIGHBOUR: 'it returns false'. Refute it at one input. -/
def fnExactAddrOfWrong : ChangeSpec := { name := "fnExactAddrOf", fn := fun _ => fun
  | [d1, d2, d3] => { results := [.lit (.bool false)], args := [d1, d2, d3] }
  | _ => none }
def FnExactAddrOfWrongFalsely : Prop := fnExactAddrOfRow.holds Try.pinned (OpenSpec.ofChange fnExactAddrOfWrong)

/- THE SECOND FORM. 'bulk': how many values and letters a reading holds, each counted each time it is reached (what is shared counts as often as it is met; a slice's spare places count too). A statement '..UptoSaid' is the law's where the arguments, and the package variables that the reading takes, are together of bulk at most 1048576: NARROWER than '..Said'. Prove '..Said' where nothing that the law and all that it calls make is longer than what came in: it says more and counts as full. Else prove '..UptoSaid'. A law counts once. -/
mutual
def uptoBulk {H : Type} : DataW H → Nat
  | .lit (.string bytes) => bytes.length + 1
  | .lit _ => 1
  | .nil => 1
  | .ptr d => uptoBulk d + 1
  | .slice elems spare => uptoBulkAll elems + uptoBulkAll spare + 1
  | .agg parts => uptoBulkAll parts + 1
  | .iface _ d => uptoBulk d + 1
  | .map entries => uptoBulkEntries entries + 1
  | .held _ => 1
def uptoBulkAll {H : Type} : List (DataW H) → Nat
  | [] => 0
  | d :: r => uptoBulk d + uptoBulkAll r
def uptoBulkEntries {H : Type} : List (Lit × DataW H) → Nat
  | [] => 0
  | x :: r => uptoBulkEntry x + uptoBulkEntries r
def uptoBulkEntry {H : Type} : Lit × DataW H → Nat
  | (.string bytes, d) => bytes.length + uptoBulk d + 1
  | (_, d) => uptoBulk d + 1
 end
def uptoSmall : (H : Type) → List (DataW H) → Bool := fun _ ds => decide (uptoBulkAll ds ≤ 1048576)
def OpenSpec.upto (s : _root_.Go.ChangeSpec) : _root_.Go.OpenSpec := { _root_.Go.OpenSpec.ofChange s with cond := some uptoSmall }

/-- 'laws.FnAddrs', WHERE WHAT IT READS IS OF BULK AT MOST 1048576: true; the input reads as it did. -/
def fnAddrsUptoRow : OpenClaim := { program := "ytfgelbpmkpleoaa", sum := "ebb20058124d1c0f5e4f926b383bccb9cf764c9f591d09b3c1e00d7eef4c64a4", func := "loop.example/g00342/laws.FnAddrs", spec := "fnAddrs", apart := false, narrowed := true }
def FnAddrsUptoSaid : Prop := fnAddrsUptoRow.holds Try.pinned (OpenSpec.upto fnAddrsSpec)

/-- 'laws.FnExactConfigCode', WHERE WHAT IT READS IS OF BULK AT MOST 1048576: true; the input reads as it did. -/
def fnExactConfigCodeUptoRow : OpenClaim := { program := "ytfgelbpmkpleoaa", sum := "ebb20058124d1c0f5e4f926b383bccb9cf764c9f591d09b3c1e00d7eef4c64a4", func := "loop.example/g00342/laws.FnExactConfigCode", spec := "fnExactConfigCode", apart := false, narrowed := true }
def FnExactConfigCodeUptoSaid : Prop := fnExactConfigCodeUptoRow.holds Try.pinned (OpenSpec.upto fnExactConfigCodeSpec)

/-- 'laws.FnExactLineOf', WHERE WHAT IT READS IS OF BULK AT MOST 1048576: true; the input reads as it did. -/
def fnExactLineOfUptoRow : OpenClaim := { program := "ytfgelbpmkpleoaa", sum := "ebb20058124d1c0f5e4f926b383bccb9cf764c9f591d09b3c1e00d7eef4c64a4", func := "loop.example/g00342/laws.FnExactLineOf", spec := "fnExactLineOf", apart := false, narrowed := true }
def FnExactLineOfUptoSaid : Prop := fnExactLineOfUptoRow.holds Try.pinned (OpenSpec.upto fnExactLineOfSpec)

/-- 'laws.FnExactWordOf', WHERE WHAT IT READS IS OF BULK AT MOST 1048576: true; the input reads as it did. -/
def fnExactWordOfUptoRow : OpenClaim := { program := "ytfgelbpmkpleoaa", sum := "ebb20058124d1c0f5e4f926b383bccb9cf764c9f591d09b3c1e00d7eef4c64a4", func := "loop.example/g00342/laws.FnExactWordOf", spec := "fnExactWordOf", apart := false, narrowed := true }
def FnExactWordOfUptoSaid : Prop := fnExactWordOfUptoRow.holds Try.pinned (OpenSpec.upto fnExactWordOfSpec)

/-- 'laws.FnExactSetOf', WHERE WHAT IT READS IS OF BULK AT MOST 1048576: true; the input reads as it did. -/
def fnExactSetOfUptoRow : OpenClaim := { program := "ytfgelbpmkpleoaa", sum := "ebb20058124d1c0f5e4f926b383bccb9cf764c9f591d09b3c1e00d7eef4c64a4", func := "loop.example/g00342/laws.FnExactSetOf", spec := "fnExactSetOf", apart := false, narrowed := true }
def FnExactSetOfUptoSaid : Prop := fnExactSetOfUptoRow.holds Try.pinned (OpenSpec.upto fnExactSetOfSpec)

/-- 'laws.FnExactAddrOf', WHERE WHAT IT READS IS OF BULK AT MOST 1048576: true; the input reads as it did. -/
def fnExactAddrOfUptoRow : OpenClaim := { program := "ytfgelbpmkpleoaa", sum := "ebb20058124d1c0f5e4f926b383bccb9cf764c9f591d09b3c1e00d7eef4c64a4", func := "loop.example/g00342/laws.FnExactAddrOf", spec := "fnExactAddrOf", apart := false, narrowed := true }
def FnExactAddrOfUptoSaid : Prop := fnExactAddrOfUptoRow.holds Try.pinned (OpenSpec.upto fnExactAddrOfSpec)

end Rows
end Go.Proofs.Ytfgelbpmkpleoaa
