/- The contract of a number that is picked: within its bounds. Conditions: the bytes are at most 4096, each from 0 to 255. -/
import Derived.Test.YtapooehfoihdlaaDoorDraw
import Derived.Deep.Cut
import Derived.BigRegion
namespace Go.Proofs.YtapooehfoihdlaaDoor
open Go.ChangeShapes Go.WideShapes Go.ChangeAt Go.RowKit

set_option maxHeartbeats 2000000 in
theorem pick_small (a : Option Addr) (len cap : Nat) (zs : List Int) (s n : Int) (w : World) (hr : Row8 w a len zs) (hb : ∀ j, j < len → 0 ≤ zs.getD j 0 ∧ zs.getD j 0 ≤ 255) (hs : len ≤ 4096) (hn : 0 < n) (hn2 : n ≤ 1000000) (hs0 : 0 ≤ s) (hs1 : s ≤ 100) :
    Calls Tryd.prog 18 #[.slice a len cap, .int .i64 s, .int .i64 n] w fun e w' => (∃ k : Int, e = .returned (.int .i64 k) ∧ 0 ≤ k ∧ k < n) ∧ w' = w := by
  have hl := hr.1
  have hn0 : ¬ n = 0 := by omega
  have hn1 : (n == 0) = false := by simp; omega
  go_enter Tryd.func18, Tryd.ntmps18
  go_wp2
  go_loop [7, 8] (fun q i => ∃ (j : Nat) (x : Int), j ≤ len ∧ i = .int .i64 j ∧ q = .int .i64 x ∧ 0 ≤ x ∧ x ≤ 2000000) (fun _ i => len - (intOf i).toNat)
  case atStart => exact ⟨0, _, Nat.zero_le _, rfl, rfl, by omega, by omega⟩
  case round =>
    obtain ⟨j, x, hj, rfl, rfl, hx0, hx1⟩ := hrel
    by_cases hlt : j < len
    · have hlt' : (j : Int) < (len : Int) := by omega
      rcases hr.2 with h0 | ⟨b, off, rfl, hbb, hc⟩
      · omega
      · have hcj := hc j hlt
        obtain ⟨hz0, hz1⟩ := hb j hlt
        clear hc
        generalize zs.getD j 0 = zj at hcj hz0 hz1
        go_wp2
        go_round
        case rel => exact ⟨j + 1, _, by omega, by go_num, rfl, Int.emod_nonneg _ (by omega), by have := Int.emod_lt_of_pos (x * 199 + zj + s) (show (0 : Int) < 1000003 by omega); omega⟩
        case measure => simp [intOf]; omega
    · have hjn : j = len := by omega
      subst hjn
      clear hr
      go_wp2
      go_ret
      exact ⟨⟨_, rfl, Int.emod_nonneg _ (by omega), Int.emod_lt_of_pos _ (by omega)⟩, rfl⟩

end Go.Proofs.YtapooehfoihdlaaDoor
