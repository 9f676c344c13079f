/- The contracts of With and Without, of the program and of the specification: both answer withI and withoutI at every set and number. No condition. -/
import Derived.Test.YtlbolnbchijknaaBits
namespace Go.Proofs.Ytlbolnbchijknaa
open Go.ChangeShapes Go.WideShapes Go.ChangeAt Go.RowKit

def orI (s i : Int) : Int := bits BinOp.or IntKind.i64 s (2 ^ i.toNat)
def andNotI (s i : Int) : Int := bits BinOp.andNot IntKind.i64 s (2 ^ i.toNat)
def withI (s i : Int) : Int := if setB s then (if itemB i then orI s i else s) else -1
def withoutI (s i : Int) : Int := if setB s then (if itemB i then andNotI s i else s) else -1


set_option maxHeartbeats 400000 in
theorem without_in (s i : Int) (w : World) (h5 : 0 ≤ i) (h6 : i ≤ 7) :
    Calls Try.prog 58 #[.int .i64 s, .int .i64 i] w fun e w' => e = .returned (.int .i64 (andNotI s i)) ∧ w' = w := by
  go_enter Try.func58, Try.ntmps58
  go_wp2_with (go_at_call 73; refine (bitOf_any _ _ h5 h6).mono ?_; rintro e w' ⟨rfl, rfl⟩)
  go_ret
  exact ⟨rfl, rfl⟩




set_option maxHeartbeats 400000 in
theorem specWithout_any (s i : Int) (w : World) :
    Calls Try.prog 59 #[.int .i64 s, .int .i64 i] w fun e w' => e = .returned (.int .i64 (withoutI s i)) ∧ w' = w := by
  cases h1 : setB s
  · have H : Hid (withoutI s i = -1) := by unfold Hid; simp [withoutI, h1]
    go_enter Try.func59, Try.ntmps59
    go_wp2_with (go_at_call 48; refine (l1Set_any _ _).mono ?_; rintro e w' ⟨rfl, rfl⟩)
    go_ret
    exact ⟨ret_int H.out.symm, rfl⟩
  · cases h2 : itemB i
    · have H : Hid (withoutI s i = s) := by unfold Hid; simp [withoutI, h1, h2]
      go_enter Try.func59, Try.ntmps59
      go_wp2_with (first
        | (go_at_call 48; refine (l1Set_any _ _).mono ?_; rintro e w' ⟨rfl, rfl⟩)
        | (go_at_call 49; refine (l1Item_any _ _).mono ?_; rintro e w' ⟨rfl, rfl⟩))
      go_ret
      exact ⟨ret_int H.out.symm, rfl⟩
    · obtain ⟨h5, h6⟩ := itemB_bd h2
      have H : Hid (withoutI s i = andNotI s i) := by unfold Hid; simp [withoutI, h1, h2]
      have P : Hid (wrap64 (2 ^ i.toNat) = 2 ^ i.toNat) := pow_small i h5 h6
      go_enter Try.func59, Try.ntmps59
      go_wp2_with (first
        | (go_at_call 48; refine (l1Set_any _ _).mono ?_; rintro e w' ⟨rfl, rfl⟩)
        | (go_at_call 49; refine (l1Item_any _ _).mono ?_; rintro e w' ⟨rfl, rfl⟩))
      go_ret
      exact ⟨ret_int (by rw [H.out, P.out]; rfl), rfl⟩

end Go.Proofs.Ytlbolnbchijknaa
