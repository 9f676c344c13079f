/- The contracts of Put and Masked, of the program: what they answer, in new memory. No condition. -/
import Derived.Test.YteepmhcpjjgihaaLines3
namespace Go.Proofs.Yteepmhcpjjgihaa
open Go.ChangeShapes Go.WideShapes Go.ChangeAt Go.RowKit

theorem made_none (w : World) (k : Nat) (h : k = w.heap.size) : Made w (w.alloc (.cells #[] 2)) (.slice (some ⟨k, 0, none⟩) 0 0) [] := by
  subst h
  exact made_lit w #[] [] rfl (Nat.zero_le _)


end Go.Proofs.Yteepmhcpjjgihaa
