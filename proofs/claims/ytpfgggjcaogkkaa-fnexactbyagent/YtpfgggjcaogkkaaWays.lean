
/- Ways (a number, a state, a list) as they lie in memory; the contracts of the laws' own helpers over one Way. Conditions: lengths that a machine can hold. -/
import Derived.Test.YtpfgggjcaogkkaaBoxes
import Derived.Test.YtpfgggjcaogkkaaOpensBase

namespace Go.Proofs.Ytpfgggjcaogkkaa
open Go.ChangeShapes Go.WideShapes Go.ChangeAt Go.RowKit
set_option linter.unusedVariables false

abbrev wayR : Rep (Int × Int × List Int) := prodR intR (prodR intR intsR)
abbrev wayM : Mk (Int × Int × List Int) := prodM intM (prodM intM intsM)
abbrev waysM : Mk (List (Int × Int × List Int)) := slM wayM
abbrev setsM : Mk (List (List (Int × Int × List Int))) := slM waysM
abbrev cacheM : Mk (List (List (Int × Int × List Int)) × List Int) := prodM setsM intsM

theorem way_rd {w : World} {cs : List Value} {u : Int × Int × List Int} (h : wayR.rd w cs u) :
    ∃ a cap, cs = [.int .i64 u.1, .int .i64 u.2.1, .slice a u.2.2.length cap] ∧ In64 u.1 ∧ In64 u.2.1 ∧ u.2.2.length ≤ cap ∧ cap ≤ maxLen ∧ SlRd intR w a u.2.2 := by
  obtain ⟨c1, c2, rfl, ⟨rfl, i1⟩, c3, c4, rfl, ⟨rfl, i2⟩, a, cap, rfl, h1, h2, h3⟩ := h
  exact ⟨a, cap, rfl, i1, i2, h1, h2, h3⟩
theorem rd_way {w : World} {l s : Int} {d : List Int} {a : Option Addr} {cap : Nat} (i1 : In64 l) (i2 : In64 s) (h1 : d.length ≤ cap) (h2 : cap ≤ maxLen) (h3 : SlRd intR w a d) :
    wayR.rd w [.int .i64 l, .int .i64 s, .slice a d.length cap] (l, s, d) := ⟨[_], [_, _], rfl, ⟨rfl, i1⟩, [_], [_], rfl, ⟨rfl, i2⟩, a, cap, rfl, h1, h2, h3⟩
theorem way_own {w : World} {S : Foot} {cs : List Value} {u : Int × Int × List Int} (h : wayR.own w S cs u) :
    ∃ v, cs = [.int .i64 u.1, .int .i64 u.2.1, v] ∧ In64 u.1 ∧ In64 u.2.1 ∧ intsR.own w S [v] u.2.2 := by
  obtain ⟨c1, c2, S1, S2, rfl, ⟨rfl, i1⟩, ⟨c3, c4, S3, S4, rfl, ⟨rfl, i2⟩, h3, a3, a4, d2⟩, a1, a2, d⟩ := h
  have hl := intsR.rd_len (intsR.own_rd h3)
  obtain ⟨v, rfl⟩ : ∃ v, c4 = [v] := List.length_eq_one_iff.1 hl
  exact ⟨v, rfl, i1, i2, intsR.own_mono h3 (a4.trans a2)⟩
theorem own_way {w : World} {S : Foot} {l s : Int} {d : List Int} {v : Value} (i1 : In64 l) (i2 : In64 s) (h : intsR.own w S [v] d) : wayR.own w S [.int .i64 l, .int .i64 s, v] (l, s, d) :=
  ⟨[_], [_, _], fun _ => False, S, rfl, ⟨rfl, i1⟩, ⟨[_], [_], fun _ => False, S, rfl, ⟨rfl, i2⟩, h, fun _ h => h.elim, Sub.refl _, fun _ h _ => h⟩, fun _ h => h.elim, Sub.refl _, fun _ h _ => h⟩


end Go.Proofs.Ytpfgggjcaogkkaa
