/- What a law owns of the book's entries while it walks. No program here. -/
import Derived.Test.YtlbolnbchijknaaOwned
import Derived.Test.YtlbolnbchijknaaEntMark
import Derived.Deep.DeepCutAuto
import Derived.Deep.RegionWith
namespace Go.Proofs.Ytlbolnbchijknaa
open Go.ChangeShapes Go.WideShapes Go.ChangeAt Go.RowKit
set_option linter.unusedVariables false

theorem ent_intsd {S : Foot} {w : World} {f0 f1 f3 f4 f5 f6 : Int} {f2 : Bool} {v : Value} {u : EntryD} (h : entR.own w S [.int .i64 f0, .int .i64 f1, .bool f2, .int .i64 f3, .int .i64 f4, .int .i64 f5, .int .i64 f6, v] u) : intsR.own w S [v] u.2.2.2.2.2.2.2 := by
  obtain ⟨v', e, _, _, _, _, _, _, ho⟩ := ent_own h
  simp only [List.cons.injEq, and_true] at e
  rw [e.2.2.2.2.2.2.2]
  exact ho
theorem owned_entd {lo hi : Nat} {w : World} {f0 f1 f3 f4 f5 f6 g0 g1 g3 g4 g5 g6 : Int} {f2 g2 : Bool} {a : Option Addr} {cap : Nat} {d : List Int} (h : Owned entR lo hi w [.int .i64 f0, .int .i64 f1, .bool f2, .int .i64 f3, .int .i64 f4, .int .i64 f5, .int .i64 f6, .slice a d.length cap] (g0, g1, g2, g3, g4, g5, g6, d)) : SlRd intR w a d := ints_rd7 (ent_intsd h.1)
theorem owned_ints {lo hi : Nat} {w : World} {a : Option Addr} {cap : Nat} {d : List Int} (h : Owned intsR lo hi w [.slice a d.length cap] d) : SlRd intR w a d := ints_rd7 h.1
end Go.Proofs.Ytlbolnbchijknaa
