
/- Structs of numbers alone (an op, a layout), in the one form. -/
import Derived.Test.YtpfgggjcaogkkaaUBase
import Derived.Test.YtpfgggjcaogkkaaOpL
import Derived.Test.YtpfgggjcaogkkaaCfgR
namespace Go.Proofs.Ytpfgggjcaogkkaa
open Go.ChangeShapes Go.WideShapes Go.ChangeAt Go.RowKit
set_option linter.unusedVariables false
abbrev cfgM : Mk CfgD := prodM intM (prodM intM (prodM intM intM))
theorem op_rd4 {w : World} {cs : List Value} {u : OpD} (h : opR.rd w cs u) : cs = [.int .i64 u.1, .int .i64 u.2.1, .int .i64 u.2.2.1, .int .i64 u.2.2.2] ∧ True := ⟨(op_rd h).1, trivial⟩
theorem cfg_rd4 {w : World} {cs : List Value} {u : CfgD} (h : cfgR.rd w cs u) : cs = [.int .i64 u.1, .int .i64 u.2.1, .int .i64 u.2.2.1, .int .i64 u.2.2.2] ∧ True := ⟨(cfg_rd h).1, trivial⟩
theorem own_cfg {w : World} {S : Foot} {u : CfgD} (i0 : In64 u.1) (i1 : In64 u.2.1) (i2 : In64 u.2.2.1) (i3 : In64 u.2.2.2) : cfgR.own w S [.int .i64 u.1, .int .i64 u.2.1, .int .i64 u.2.2.1, .int .i64 u.2.2.2] u := own_op (u := u) ⟨i0, i1, i2, i3⟩
theorem toOp_u : ToC 19 opR opM aggV := by
  intro cs x w h hm
  obtain ⟨rfl, h4⟩ := op_rd h
  refine (toOp_rep x.1 x.2.1 x.2.2.1 x.2.2.2 w).mono ?_
  rintro e w' ⟨rfl, b⟩
  exact ⟨[_, _, _, _], rfl, own_op h4, b⟩
theorem eqOp_u : EqC 22 opR opM aggV := by
  intro cs ds x w h k hm
  obtain ⟨rfl, -⟩ := op_rd h
  obtain ⟨rfl, -⟩ := op_rd k
  exact eqOp_rep x.1 x.2.1 x.2.2.1 x.2.2.2 w
end Go.Proofs.Ytpfgggjcaogkkaa
