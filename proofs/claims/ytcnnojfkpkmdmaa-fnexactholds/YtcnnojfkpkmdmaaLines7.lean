
/- The contract of Masked, of the specification: what it answers, in new memory. No condition. -/
import Derived.Test.YtcnnojfkpkmdmaaLines5
import Derived.Test.YtcnnojfkpkmdmaaLines6
namespace Go.Proofs.Ytcnnojfkpkmdmaa
open Go.ChangeShapes Go.WideShapes Go.ChangeAt Go.RowKit

theorem made_put2 {w w1 : World} {g cap : Nat} {zs : List Int} (h : OwnI w.heap.size w1 g cap zs) (hb : Below w.heap.size w w1) (k k2 : Nat) (u u2 : Int) :
    Made w ((w1.setCell ⟨g, k, none⟩ (.int .i64 u)).setCell ⟨g, k2, none⟩ (.int .i64 u2)) (.slice (some ⟨g, 0, none⟩) zs.length cap) ((zs.set k u).set k2 u2) := by
  obtain ⟨g1, c1, e1, _, _, o1, b1⟩ := made_put h hb k u
  simp only [List.length_set, Value.slice.injEq, Option.some.injEq, Addr.mk.injEq, and_true, true_and] at e1
  obtain ⟨rfl, rfl⟩ := e1
  have M := made_put o1 b1 k2 u2
  rw [List.length_set] at M
  exact M

end Go.Proofs.Ytcnnojfkpkmdmaa
