
/- A struct that is being drawn, in a box, of any shape: fields set one by one, the cursor turned, in the end laid into the result. No program here. -/
import Derived.Test.YtpfgggjcaogkkaaDrawLn
namespace Go.Proofs.Ytpfgggjcaogkkaa
open Go.ChangeShapes Go.WideShapes Go.ChangeAt Go.RowKit
set_option linter.unusedVariables false
variable {α : Type}

theorem chg_set {w : World} {g i : Nat} {v : Value} : Chg (fun b => b = g) w (w.setCell ⟨g, i, none⟩ v) := ⟨rfl, rfl, rfl, by simp, fun j _ hj => heap_setCell_other w ⟨g, i, none⟩ j v hj⟩
theorem chg_via {g rb : Nat} {w wr W : World} (h : Chg (fun b => b = g) w wr) (c : Chg (fun b => b = rb) wr W) (hl : w.heap.size ≤ rb) : Chg (fun b => b = g) w W :=
  ⟨c.os.trans h.os, c.tape.trans h.tape, c.output.trans h.output, Nat.le_trans h.size c.size, fun j hj hn => (c.block j (by have := h.size; omega) (by omega)).trans (h.block j hj hn)⟩

end Go.Proofs.Ytpfgggjcaogkkaa
