
/- The contracts of the draws of a line: some list of at most three numbers is drawn, in new memory, and nothing that was there turns but the cursor. Conditions: the bytes are at most 2^61. -/
import Derived.Test.YtpfgggjcaogkkaaDraw
import Derived.Test.YtpfgggjcaogkkaaCopies
import Derived.Deep.RegionWith
import Derived.BigRegion
namespace Go.Proofs.Ytpfgggjcaogkkaa
open Go.ChangeShapes Go.WideShapes Go.ChangeAt Go.RowKit

theorem owni_mono {B B' g cap : Nat} {w : World} {zs : List Int} (h : OwnI B w g cap zs) (hb : B' ≤ B) : OwnI B' w g cap zs := by
  refine ⟨h.1, ?_⟩
  rcases h.2 with h' | ⟨g', cap', cur, h', hg, rest⟩
  · exact .inl h'
  · exact .inr ⟨g', cap', cur, h', Nat.le_trans hb hg, rest⟩

theorem owni_one {B g cap : Nat} {w : World} {x y : Int} (h : OwnI B w g cap [x, y]) : OwnI B w g cap [x] := by
  refine ⟨rfl, ?_⟩
  rcases h.2 with ⟨h', _⟩ | ⟨g', cap', cur, h', hg, hh, h1, h2, h3, h4⟩
  · simp at h'
  · simp only [Value.slice.injEq, Option.some.injEq, Addr.mk.injEq, and_true, true_and] at h'
    obtain ⟨rfl, rfl⟩ := h'
    refine .inr ⟨g, cap, cur, rfl, hg, hh, by simp at h1 ⊢; omega, h2, h3, ?_⟩
    have := congrArg (List.take 1) h4
    rw [List.take_take] at this
    simpa using this

theorem grown_new {w a b : World} {g r : Nat} (h : w.grownBy a (some g)) (k : a.grownBy b (some r)) (hr : w.heap.size ≤ r) : w.grownBy b (some g) :=
  ⟨k.os.trans h.os, k.tape.trans h.tape, k.output.trans h.output, Nat.le_trans h.size k.size, fun j hj hne => (k.block j (Nat.lt_of_lt_of_le hj h.size) (by simp; omega)).trans (h.block j hj hne)⟩

theorem owni_alloc {B g cap : Nat} {w : World} {zs : List Int} (h : OwnI B w g cap zs) (o : Obj) : OwnI B (w.alloc o) g cap zs := World.ownsRow.alloc h o

end Go.Proofs.Ytpfgggjcaogkkaa
