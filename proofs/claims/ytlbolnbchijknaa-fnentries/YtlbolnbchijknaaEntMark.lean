/- Marks of one entry of the book, and whether they are held: the laws' own helpers. Conditions: lengths that a machine can hold. -/
import Derived.Test.YtlbolnbchijknaaAppGen
import Derived.Test.YtlbolnbchijknaaEntries
namespace Go.Proofs.Ytlbolnbchijknaa
open Go.ChangeShapes Go.WideShapes Go.ChangeAt Go.RowKit
set_option linter.unusedVariables false

set_option maxHeartbeats 1000000 in
theorem markEntry_rep (S : Foot) (f0 f1 f3 f4 f5 f6 : Int) (f2 : Bool) (v : Value) (k : Int) (d : List Int) (w : World) (h0 : 0 ≤ k) (h1 : k ≤ 288230376151711744) (hm : slcnt intM d ≤ 288230376151711744) (h : intsR.own w S [v] d) :
    Calls Try.prog 26 #[.agg #[.int .i64 f0, .int .i64 f1, .bool f2, .int .i64 f3, .int .i64 f4, .int .i64 f5, .int .i64 f6, v], .int .i64 k] w fun e' w' => e' = .returned (.int .i64 (k + slcnt intM d)) ∧ intsR.own w' S [v] (slmark intM k d) ∧ Chg S w w' := by
  obtain ⟨av, cv, rfl⟩ := slown_val h
  have h' := own_box (.cells #[.int .i64 f0, .int .i64 f1, .bool f2, .int .i64 f3, .int .i64 f4, .int .i64 f5, .int .i64 f6, .slice av d.length cv] 26) (own_old h)
  have B0 := box_below w (.cells #[.int .i64 f0, .int .i64 f1, .bool f2, .int .i64 f3, .int .i64 f4, .int .i64 f5, .int .i64 f6, .slice av d.length cv] 26)
  have HC := markInt64S_rep (Old w S) (.slice av d.length cv) k d _ h0 (by omega) (by omega) h'
  have HB : Hid _ := B0
  clear h h' B0
  go_enter Try.func26, Try.ntmps26
  go_wp2_with fail
  refine HC.mono ?_
  rintro e w' ⟨rfl, o2, c2⟩
  have HX : Hid _ := And.intro o2 c2
  clear o2 c2 HC
  go_wp2
  go_ret
  exact ⟨rfl, intsR.own_mono HX.out.1 old_sub, ((chg_below HB.out).trans HX.out.2).mono old_sub⟩

set_option maxHeartbeats 1000000 in
theorem heldEntry_rep (f0 f1 f3 f4 f5 f6 : Int) (f2 : Bool) (a : Option Addr) (cap : Nat) (k : Int) (d : List Int) (w : World) (h0 : 0 ≤ k) (h1 : k ≤ 288230376151711744) (hm : slcnt intM d ≤ 288230376151711744) (h : SlRd intR w a (slmark intM k d)) :
    Calls Try.prog 27 #[.agg #[.int .i64 f0, .int .i64 f1, .bool f2, .int .i64 f3, .int .i64 f4, .int .i64 f5, .int .i64 f6, .slice a d.length cap], .int .i64 k] w fun e' w' => e' = .returned (.int .i64 (k + slcnt intM d)) ∧ Below w.heap.size w w' := by
  have B0 := box_below w (.cells #[.int .i64 f0, .int .i64 f1, .bool f2, .int .i64 f3, .int .i64 f4, .int .i64 f5, .int .i64 f6, .slice a d.length cap] 26)
  have HC := heldInt64S_rep a cap k d _ h0 (by omega) (by omega) (slrd_next h B0)
  have HB : Hid _ := B0
  have hn : ¬ (k + ((slcnt intM d : Nat) : Int) < 0) := by omega
  clear h B0
  go_enter Try.func27, Try.ntmps27
  go_wp2_with fail
  refine HC.mono ?_
  rintro e w' ⟨rfl, rfl⟩
  go_wp2
  go_ret
  exact ⟨rfl, HB.out⟩
end Go.Proofs.Ytlbolnbchijknaa
