
/- Ways (a number, a state, a list) as they lie in memory; the contracts of the laws' own helpers over one Way. Conditions: lengths that a machine can hold. -/
import Derived.Test.YtbcggkfbahmpoaaJLinesBoxesAppGenOwned
import Derived.Test.YtbcggkfbahmpoaaJOwn5OpensBaseClassesBits

namespace Go.Proofs.Ytbcggkfbahmpoaa
open Go.ChangeShapes Go.WideShapes Go.ChangeAt Go.RowKit
set_option linter.unusedVariables false

abbrev wayR : Rep (Int × Int × List Int) := prodR intR (prodR intR intsR)
abbrev wayM : Mk (Int × Int × List Int) := prodM intM (prodM intM intsM)
abbrev waysR : Rep (List (Int × Int × List Int)) := slR 37 wayR
abbrev waysM : Mk (List (Int × Int × List Int)) := slM wayM
abbrev setsR : Rep (List (List (Int × Int × List Int))) := slR 80 waysR
abbrev setsM : Mk (List (List (Int × Int × List Int))) := slM waysM
abbrev cacheR : Rep (List (List (Int × Int × List Int)) × List Int) := prodR setsR intsR
abbrev cacheM : Mk (List (List (Int × Int × List Int)) × List Int) := prodM setsM intsM

theorem opens_way : Opens Try.prog 28 wayR :=
  opens_struct Try.underlying28 (by kernel_rfl) (opensF_cons rfl (by kernel_rfl) opens_i64 (opensF_cons rfl (by kernel_rfl) opens_i64 (opensF_one rfl (by kernel_rfl) opens_ints)))
theorem opens_ways : Opens Try.prog 92 waysR := opens_slice Try.underlying92 (by kernel_rfl) (by decide) opens_way
theorem opens_sets : Opens Try.prog 22 setsR := opens_slice Try.underlying22 (by kernel_rfl) (by decide) opens_ways
theorem opens_cache : Opens Try.prog 25 cacheR :=
  opens_struct Try.underlying25 (by kernel_rfl) (opensF_cons rfl (by kernel_rfl) opens_sets (opensF_one rfl (by kernel_rfl) opens_ints))

theorem way_rd {w : World} {cs : List Value} {u : Int × Int × List Int} (h : wayR.rd w cs u) :
    ∃ a cap, cs = [.int .i64 u.1, .int .i64 u.2.1, .slice a u.2.2.length cap] ∧ In64 u.1 ∧ In64 u.2.1 ∧ u.2.2.length ≤ cap ∧ cap ≤ maxLen ∧ SlRd intR w a u.2.2 := by
  obtain ⟨c1, c2, rfl, ⟨rfl, i1⟩, c3, c4, rfl, ⟨rfl, i2⟩, a, cap, rfl, h1, h2, h3⟩ := h
  exact ⟨a, cap, rfl, i1, i2, h1, h2, h3⟩
theorem rd_way {w : World} {l s : Int} {d : List Int} {a : Option Addr} {cap : Nat} (i1 : In64 l) (i2 : In64 s) (h1 : d.length ≤ cap) (h2 : cap ≤ maxLen) (h3 : SlRd intR w a d) :
    wayR.rd w [.int .i64 l, .int .i64 s, .slice a d.length cap] (l, s, d) := ⟨[_], [_, _], rfl, ⟨rfl, i1⟩, [_], [_], rfl, ⟨rfl, i2⟩, a, cap, rfl, h1, h2, h3⟩
theorem cache_rd {w : World} {cs : List Value} {c : List (List (Int × Int × List Int)) × List Int} (h : cacheR.rd w cs c) :
    ∃ a cap b cp, cs = [.slice a c.1.length cap, .slice b c.2.length cp] ∧ c.1.length ≤ cap ∧ cap ≤ maxLen ∧ c.2.length ≤ cp ∧ cp ≤ maxLen ∧ SlRd waysR w a c.1 ∧ SlRd intR w b c.2 := by
  obtain ⟨c1, c2, rfl, ⟨a, cap, rfl, h1, h2, h3⟩, b, cp, rfl, k1, k2, k3⟩ := h
  exact ⟨a, cap, b, cp, rfl, h1, h2, k1, k2, h3, k3⟩
theorem rd_cache {w : World} {c : List (List (Int × Int × List Int)) × List Int} {a b : Option Addr} {cap cp : Nat} (h1 : c.1.length ≤ cap) (h2 : cap ≤ maxLen) (k1 : c.2.length ≤ cp) (k2 : cp ≤ maxLen) (h3 : SlRd waysR w a c.1) (k3 : SlRd intR w b c.2) :
    cacheR.rd w [.slice a c.1.length cap, .slice b c.2.length cp] c := ⟨[_], [_], rfl, ⟨a, cap, rfl, h1, h2, h3⟩, b, cp, rfl, k1, k2, k3⟩

theorem way_own {w : World} {S : Foot} {cs : List Value} {u : Int × Int × List Int} (h : wayR.own w S cs u) :
    ∃ v, cs = [.int .i64 u.1, .int .i64 u.2.1, v] ∧ In64 u.1 ∧ In64 u.2.1 ∧ intsR.own w S [v] u.2.2 := by
  obtain ⟨c1, c2, S1, S2, rfl, ⟨rfl, i1⟩, ⟨c3, c4, S3, S4, rfl, ⟨rfl, i2⟩, h3, a3, a4, d2⟩, a1, a2, d⟩ := h
  have hl := intsR.rd_len (intsR.own_rd h3)
  obtain ⟨v, rfl⟩ : ∃ v, c4 = [v] := List.length_eq_one_iff.1 hl
  exact ⟨v, rfl, i1, i2, intsR.own_mono h3 (a4.trans a2)⟩
theorem own_way {w : World} {S : Foot} {l s : Int} {d : List Int} {v : Value} (i1 : In64 l) (i2 : In64 s) (h : intsR.own w S [v] d) : wayR.own w S [.int .i64 l, .int .i64 s, v] (l, s, d) :=
  ⟨[_], [_, _], fun _ => False, S, rfl, ⟨rfl, i1⟩, ⟨[_], [_], fun _ => False, S, rfl, ⟨rfl, i2⟩, h, fun _ h => h.elim, Sub.refl _, fun _ h _ => h⟩, fun _ h => h.elim, Sub.refl _, fun _ h _ => h⟩

set_option maxHeartbeats 400000 in
theorem szWay_rep (l s : Int) (d : List Int) (a : Option Addr) (cap : Nat) (left : Int) (w : World) (h0 : 0 ≤ left) (h1 : left ≤ 1048576) (hm : d.length ≤ maxLen) :
    Calls Try.prog 19 #[.agg #[.int .i64 l, .int .i64 s, .slice a d.length cap], .int .i64 left] w fun e w' => e = .returned (.int .i64 (szI (wayM.bk (l, s, d)) left)) ∧ Below w.heap.size w w' := by
  have hb : wayM.bk (l, s, d) = intsM.bk d := by show 0 + (0 + intsM.bk d) = _; omega
  rw [hb]
  by_cases hl : (intsM.bk d : Int) ≤ left
  · have HS : Hid (szI (intsM.bk d) left = _) := szI_yes hl
    have hl' : ¬ (left - (intsM.bk d : Int) < 0) := by omega
    go_enter Try.func19, Try.ntmps19
    go_wp2_with (go_at_call 20; refine (szInt64S_rep _ d _ _ _ h0 h1 hm).mono ?_; rintro e w' ⟨rfl, rfl⟩; rw [HS.out])
    go_ret
    exact ⟨ret_int HS.out.symm, box_below w _⟩
  · have HS : Hid (szI (intsM.bk d) left = _) := szI_no hl
    go_enter Try.func19, Try.ntmps19
    go_wp2_with (go_at_call 20; refine (szInt64S_rep _ d _ _ _ h0 h1 hm).mono ?_; rintro e w' ⟨rfl, rfl⟩; rw [HS.out])
    go_ret
    exact ⟨ret_int HS.out.symm, box_below w _⟩

end Go.Proofs.Ytbcggkfbahmpoaa
