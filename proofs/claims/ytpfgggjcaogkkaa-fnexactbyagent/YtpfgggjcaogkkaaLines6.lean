
/- The contracts of lines, of the specification: what LineOk, WordAt, Put and Masked answer; lists are new memory. Conditions: lists of at most 2^20 numbers. -/
import Derived.Test.YtpfgggjcaogkkaaLines
namespace Go.Proofs.Ytpfgggjcaogkkaa
open Go.ChangeShapes Go.WideShapes Go.ChangeAt Go.RowKit







theorem made_put {w w1 : World} {g cap : Nat} {zs : List Int} (h : OwnI w.heap.size w1 g cap zs) (hb : Below w.heap.size w w1) (k : Nat) (u : Int) :
    Made w (w1.setCell ⟨g, k, none⟩ (.int .i64 u)) (.slice (some ⟨g, 0, none⟩) zs.length cap) (zs.set k u) := by
  have hl := h.lt g rfl
  have S := World.ownsRow.stored h k (.int .i64 u)
  refine ⟨g, cap, by simp, hl.1, by simpa using hl.2, ?_, hb.grown S.2 hb.size (by intro j hj; cases hj; exact hl.1)⟩
  have := S.1
  unfold OwnI
  rw [List.length_set, List.map_set]
  exact this

theorem owni_cells {B g cap : Nat} {w : World} {x y : Int} (h : OwnI B w g cap [x, y]) :
    w.cell? ⟨g, 0, none⟩ = some (.int .i64 x) ∧ w.cell? ⟨g, 1, none⟩ = some (.int .i64 y) ∧ w.frozen? ⟨g, 0, none⟩ = false ∧ w.frozen? ⟨g, 1, none⟩ = false :=
  ⟨by rw [World.ownsRow.cellAt h 0 (by simp)]; rfl, by rw [World.ownsRow.cellAt h 1 (by simp)]; rfl, World.ownsRow.frozenAt h 0, World.ownsRow.frozenAt h 1⟩


end Go.Proofs.Ytpfgggjcaogkkaa
