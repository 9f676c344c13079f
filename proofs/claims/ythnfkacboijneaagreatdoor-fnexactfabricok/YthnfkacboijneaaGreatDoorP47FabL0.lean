import Derived.Test.YthnfkacboijneaaGreatDoorP44FabDefs
import Derived.Test.YthnfkacboijneaaGreatDoorP02Nums
import Derived.Test.YthnfkacboijneaaGreatDoorP14Lines6
namespace Go.Proofs.YthnfkacboijneaaGreatDoor
open Go.ChangeShapes Go.WideShapes Go.ChangeAt Go.RowKit
set_option linter.unusedVariables false
set_option linter.unusedSimpArgs false
def loopsOf : Code → List Code
 | .loop c => [c]
 | .seq a b => loopsOf a ++ loopsOf b
 | .block _ c => loopsOf c
 | .scope c => loopsOf c
 | .cond _ a b => loopsOf a ++ loopsOf b
 | _ => []
noncomputable def fabCode (n : Nat) : Code := ((Tryz.f6.body.map loopsOf).getD []).getD n .skip
theorem all_upto {α : Type} {p : α → Bool} {xs : List α} (h : ∀ (j : Nat) v, xs[j]? = some v → p v = true) : xs.all p = true := List.all_eq_true.2 fun v hv => by
 obtain ⟨j, hj⟩ := List.getElem?_of_mem hv
 exact h j v hj
structure UptoF (w : World) (x : FabricD) (a1 b1 a2 a3 b3 a4 a5 : Option Addr) (c1 d1 c2 c3 d3 c4 c5 : Nat) (n : Nat) (p : Nat → Prop) (i : Value) (wr : World) : Prop where
 ex : ∃ k : Nat, k ≤ n ∧ i = .int .i64 k ∧ (∀ j, j < k → p j) ∧ Below w.heap.size w wr ∧ wr.heap[w.heap.size]? = some (.cells #[.int .i64 x.1.1, .int .i64 x.1.2.1, .int .i64 x.1.2.2.1, .int .i64 x.1.2.2.2, .slice a1 x.2.1.1.length c1, .slice b1 x.2.1.2.length d1, .slice a2 x.2.2.1.length c2, .slice a3 x.2.2.2.1.1.length c3, .int .i64 x.2.2.2.1.2.1, .bool x.2.2.2.1.2.2.1, .slice b3 x.2.2.2.1.2.2.2.length d3, .slice a4 x.2.2.2.2.1.length c4, .slice a5 x.2.2.2.2.2.length c5] 49 (0, 0))
theorem wrap_u64c {c : Int} (h0 : 0 ≤ c) (h4 : c ≤ 4) : IntKind.u64.wrap c = c := by
 rcases (by omega : c = 0 ∨ c = 1 ∨ c = 2 ∨ c = 3 ∨ c = 4) with rfl | rfl | rfl | rfl | rfl <;> rfl
end Go.Proofs.YthnfkacboijneaaGreatDoor
