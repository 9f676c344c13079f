
import Derived.Test.YtpfgggjcaogkkaaOwned
import Derived.Test.YtpfgggjcaogkkaaAppGen
import Derived.Test.YtpfgggjcaogkkaaWays2
import Derived.Test.YtpfgggjcaogkkaaIters
import Derived.Test.YtpfgggjcaogkkaaStoreEnd
/- The contracts of the laws' own helpers over ways, sets and stores: marks, and whether they are held. Conditions: lengths that a machine can hold. -/
namespace Go.Proofs.Ytpfgggjcaogkkaa
open Go.ChangeShapes Go.WideShapes Go.ChangeAt Go.RowKit
set_option linter.unusedVariables false

theorem in64_w {k : Int} (h0 : 0 ≤ k) (h1 : k ≤ 1152921504606846976) : In64 k := by constructor <;> omega

theorem cnt_len (xs : List (Int × Int × List Int)) : xs.length ≤ slcnt wayM xs := by
  induction xs with
  | nil => exact Nat.zero_le _
  | cons x xs ih =>
    simp only [slcnt, List.map_cons, List.sum_cons, List.length_cons] at ih ⊢
    have : 1 ≤ wayM.cE x := by show 1 ≤ 1 + _; omega
    omega
theorem cnt_len2 (xs : List (List (Int × Int × List Int))) {K : Nat} (h : xs.length ≤ K) : xs.length ≤ K := h





end Go.Proofs.Ytpfgggjcaogkkaa

/- The contracts of the laws' own helpers: marks of a store and of a way that come by value, and whether they are held. Conditions: lengths that a machine can hold. -/
namespace Go.Proofs.Ytpfgggjcaogkkaa
open Go.ChangeShapes Go.WideShapes Go.ChangeAt Go.RowKit
set_option linter.unusedVariables false

def markC (k : Int) (c : List (List (Int × Int × List Int)) × List Int) : List (List (Int × Int × List Int)) × List Int := (slmark waysM k c.1, slmark intM (k + slcnt waysM c.1) c.2)
def cntC (c : List (List (Int × Int × List Int)) × List Int) : Nat := slcnt waysM c.1 + slcnt intM c.2





end Go.Proofs.Ytpfgggjcaogkkaa

/- What a walk of a law owns, range by range. No program here. -/
namespace Go.Proofs.Ytpfgggjcaogkkaa
open Go.ChangeShapes Go.WideShapes Go.ChangeAt Go.RowKit
set_option linter.unusedVariables false

section
variable {α : Type}
end
theorem way_ints {S : Foot} {w : World} {l s : Int} {v : Value} {u : WayD} (h : wayR.own w S [.int .i64 l, .int .i64 s, v] u) : intsR.own w S [v] u.2.2 := by
  obtain ⟨v', e, _, _, ho⟩ := way_own h
  simp only [List.cons.injEq, and_true] at e
  rw [e.2.2]
  exact ho
theorem ints_rd {S : Foot} {w : World} {a : Option Addr} {cap : Nat} {d : List Int} (h : intsR.own w S [.slice a d.length cap] d) : SlRd intR w a d := by
  obtain ⟨a', cap', e, _, _, hr⟩ := intsR.own_rd h
  simp only [List.cons.injEq, Value.slice.injEq, and_true, true_and] at e
  obtain ⟨rfl, rfl⟩ := e
  exact hr
theorem owned_way {lo hi : Nat} {w : World} {l s : Int} {a : Option Addr} {cap : Nat} {u : WayD} (h : Owned wayR lo hi w [.int .i64 l, .int .i64 s, .slice a u.2.2.length cap] u) : SlRd intR w a u.2.2 := ints_rd (way_ints h.1)
theorem owned_wayd {lo hi : Nat} {w : World} {l s l' s' : Int} {a : Option Addr} {cap : Nat} {d : List Int} (h : Owned wayR lo hi w [.int .i64 l, .int .i64 s, .slice a d.length cap] (l', s', d)) : SlRd intR w a d := owned_way (u := (l', s', d)) h
theorem way_intsd {S : Foot} {w : World} {l s l' s' : Int} {v : Value} {d : List Int} (h : wayR.own w S [.int .i64 l, .int .i64 s, v] (l', s', d)) : intsR.own w S [v] d := way_ints (u := (l', s', d)) h
theorem bd_way : Bd wayM 3 := bd_prod bd_int (bd_prod bd_int (bd_sl bd_int))
theorem cnt_small {c : CacheD} (h : cacheM.bk c ≤ 1048576) : cntC c ≤ 4194304 ∧ c.1.length ≤ 1048576 := by
  have hbk : cacheM.bk c = setsM.bk c.1 + intsM.bk c.2 := rfl
  have h1 := slcnt_bd (bd_sl bd_way) c.1
  have h2 := slcnt_bd bd_int c.2
  have h3 : cntC c = slcnt waysM c.1 + slcnt intM c.2 := rfl
  have h4 : (slM (slM wayM)).bk c.1 = setsM.bk c.1 := rfl
  have h5 : (slM intM).bk c.2 = intsM.bk c.2 := rfl
  have h6 : setsM.bk c.1 = c.1.length + sumbk waysM c.1 := rfl
  have h7 : slcnt (slM wayM) c.1 = slcnt waysM c.1 := rfl
  constructor
  · omega
  · omega
end Go.Proofs.Ytpfgggjcaogkkaa
