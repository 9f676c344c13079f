import Derived.Test.YthnfkacboijneaaGreatDoorP04Mems
import Derived.Test.YthnfkacboijneaaGreatDoorP39CopyImpl
namespace Go.Proofs.YthnfkacboijneaaGreatDoor
open Go.ChangeShapes Go.WideShapes Go.ChangeAt Go.RowKit
set_option linter.unusedVariables false
theorem sp_new2 {V w : World} {e : TypeId} {size b : Nat} (hb : Below V.heap.size V w) (o : Obj) (h : b = w.heap.size + 1) : SP V ((w.alloc o).alloc (.cells #[] e)) e size (.slice (some ⟨b, 0, none⟩) 0 0) 0 [] := by
 have := sp_new (e := e) (size := size) (hb.alloc hb.size o)
 rw [show (w.alloc o).heap.size = b from by rw [h]; simp] at this
 exact this
end Go.Proofs.YthnfkacboijneaaGreatDoor
