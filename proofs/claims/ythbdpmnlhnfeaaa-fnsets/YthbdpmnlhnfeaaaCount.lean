/- The contracts of Count, of the program and of the specification: both answer countI at every set. No condition. -/
import Derived.Test.YthbdpmnlhnfeaaaMembers
namespace Go.Proofs.Ythbdpmnlhnfeaaa
open Go.ChangeShapes Go.WideShapes Go.ChangeAt Go.RowKit

def countI (s : Int) : Int := if setB s then ((mems s 8).length : Int) else -1

set_option maxHeartbeats 400000 in
theorem implCount_any (s : Int) (w : World) :
    Calls Try.prog 21 #[.int .i64 s] w fun e w' => e = .returned (.int .i64 (countI s)) ∧ Below w.heap.size w w' := by
  cases h1 : setB s
  · have H : Hid (countI s = -1) := by unfold Hid; simp [countI, h1]
    go_enter Try.func21, Try.ntmps21
    go_wp2_with (go_at_call 37; refine (ok_any _ _).mono ?_; rintro e w' ⟨rfl, rfl⟩)
    go_ret
    exact ⟨ret_int H.out.symm, Below.refl _ _⟩
  · have H : Hid (countI s = ((mems s 8).length : Int)) := by unfold Hid; simp [countI, h1]
    go_enter Try.func21, Try.ntmps21
    go_wp2_with (first
      | (go_at_call 37; refine (ok_any _ _).mono ?_; rintro e w' ⟨rfl, rfl⟩)
      | (go_at_call 14; refine (implMembers_any _ _).mono ?_; rintro e w' ⟨g, cap, rfl, h1, h2, h3, h4⟩))
    go_ret
    exact ⟨ret_int H.out.symm, h4⟩

set_option maxHeartbeats 400000 in
theorem specCount_any (s : Int) (w : World) :
    Calls Try.prog 22 #[.int .i64 s] w fun e w' => e = .returned (.int .i64 (countI s)) ∧ Below w.heap.size w w' := by
  cases h1 : setB s
  · have H : Hid (countI s = -1) := by unfold Hid; simp [countI, h1]
    go_enter Try.func22, Try.ntmps22
    go_wp2_with (go_at_call 35; refine (l1Set_any _ _).mono ?_; rintro e w' ⟨rfl, rfl⟩)
    go_ret
    exact ⟨ret_int H.out.symm, Below.refl _ _⟩
  · have H : Hid (countI s = ((mems s 8).length : Int)) := by unfold Hid; simp [countI, h1]
    go_enter Try.func22, Try.ntmps22
    go_wp2_with (first
      | (go_at_call 35; refine (l1Set_any _ _).mono ?_; rintro e w' ⟨rfl, rfl⟩)
      | (go_at_call 20; refine (specMembers_any _ _).mono ?_; rintro e w' ⟨g, cap, rfl, h1, h2, h3, h4⟩))
    go_ret
    exact ⟨ret_int H.out.symm, h4⟩

end Go.Proofs.Ythbdpmnlhnfeaaa
