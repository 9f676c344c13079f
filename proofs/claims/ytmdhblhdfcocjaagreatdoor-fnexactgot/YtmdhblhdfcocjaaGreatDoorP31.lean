import Derived.Test.YtmdhblhdfcocjaaGreatDoorP00Box
import Derived.Test.YtmdhblhdfcocjaaGreatDoorP27
namespace Go.Proofs.YtmdhblhdfcocjaaGreatDoor
open Go.ChangeShapes Go.WideShapes Go.ChangeAt Go.RowKit
set_option linter.unusedVariables false
theorem zLt {w : World} {g : Nat} {cs : Array Value} {t : TypeId} (h : w.heap[g]? = some (.cells cs t (0, 0))) : w.frozen? ⟨g, 0, none⟩ = false ∧ w.frozen? ⟨g, 1, none⟩ = false ∧ w.frozen? ⟨g, 2, none⟩ = false :=
 ⟨frozen_of_row w g 0 _ _ h, frozen_of_row w g 1 _ _ h, frozen_of_row w g 2 _ _ h⟩
set_option maxHeartbeats 1000000 in
theorem zMn (k a x y z : Int) (w : World) (hk : zAP k 1 5 = true) (hx : okW x = true) (hz : okW z = true) :
    Calls Tryz.prog 86 #[.agg #[nI k, nI a, nI x, nI y], nI z] w fun e w' => e = .returned (.tuple #[nI (zC0 k x y z), nI (zCt k z)]) ∧ Bl w w' := by
 have B := (Below.refl w.heap.size w).alloc (Nat.le_refl _);obtain ⟨⟨f, c⟩, b, d⟩ := op_sum hx hz;rcases zLm hk with rfl | rfl | rfl | rfl | rfl
 ·have H : Hid (zC0 1 x y z = z ∧ zCt 1 z = z) := by unfold Hid zC0 zCt; exact ⟨rfl, rfl⟩
  generalize zC0 1 x y z = q at H ⊢;generalize zCt 1 z = q2 at H ⊢;go_enter Tryz.func86, Tryz.ntmps86;go_wp2;go_ret2
  exact ⟨by rw [H.out.1, H.out.2]; first | rfl | skip, B _⟩
 ·have H : Hid (zC0 2 x y z = x ∧ zCt 2 z = 0) := by unfold Hid zC0 zCt; exact ⟨rfl, rfl⟩
  generalize zC0 2 x y z = q at H ⊢;generalize zCt 2 z = q2 at H ⊢;go_enter Tryz.func86, Tryz.ntmps86;go_wp2;go_ret2
  exact ⟨by rw [H.out.1, H.out.2]; first | rfl | skip, B _⟩
 ·have H : Hid (zC0 3 x y z = ((z + x) % 10000) ∧ zCt 3 z = z) := by unfold Hid zC0 zCt; exact ⟨rfl, rfl⟩
  generalize zC0 3 x y z = q at H ⊢;generalize zCt 3 z = q2 at H ⊢;go_enter Tryz.func86, Tryz.ntmps86;go_wp2;go_ret2
  exact ⟨by rw [H.out.1, H.out.2]; first | rfl | skip, B _⟩
 ·have H : Hid (zC0 4 x y z = x ∧ zCt 4 z = z) := by unfold Hid zC0 zCt; exact ⟨rfl, rfl⟩
  generalize zC0 4 x y z = q at H ⊢;generalize zCt 4 z = q2 at H ⊢;go_enter Tryz.func86, Tryz.ntmps86;go_wp2;go_ret2
  exact ⟨by rw [H.out.1, H.out.2]; first | rfl | skip, B _⟩
 ·by_cases h : z = x
  ·have H : Hid (zC0 5 x y z = y ∧ zCt 5 z = z) := by unfold Hid zC0 zCt; simp [h]
   subst h;generalize zC0 5 z y z = q at H ⊢;generalize zCt 5 z = q2 at H ⊢;go_enter Tryz.func86, Tryz.ntmps86;go_wp2;go_ret2
   exact ⟨by rw [H.out.1, H.out.2]; first | rfl | skip, B _⟩
  ·have H : Hid (zC0 5 x y z = z ∧ zCt 5 z = z) := by unfold Hid zC0 zCt; simp [h]
   generalize zC0 5 x y z = q at H ⊢;generalize zCt 5 z = q2 at H ⊢;go_enter Tryz.func86, Tryz.ntmps86;go_wp2;go_ret2
   exact ⟨by rw [H.out.1, H.out.2]; first | rfl | skip, B _⟩
end Go.Proofs.YtmdhblhdfcocjaaGreatDoor
