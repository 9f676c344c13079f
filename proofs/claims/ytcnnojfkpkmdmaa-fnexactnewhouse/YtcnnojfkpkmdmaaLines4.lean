
/- The contracts of Put and Masked, of the program: what they answer, in new memory. No condition. -/
import Derived.Test.YtcnnojfkpkmdmaaLines
namespace Go.Proofs.Ytcnnojfkpkmdmaa
open Go.ChangeShapes Go.WideShapes Go.ChangeAt Go.RowKit

theorem made_none3 (w : World) (k : Nat) (h : k = w.heap.size) : Made w (w.alloc (.cells #[] 2)) (.slice (some ⟨k, 0, none⟩) 0 0) [] := by
  subst h
  exact made_lit w #[] [] rfl (Nat.zero_le _)


end Go.Proofs.Ytcnnojfkpkmdmaa
