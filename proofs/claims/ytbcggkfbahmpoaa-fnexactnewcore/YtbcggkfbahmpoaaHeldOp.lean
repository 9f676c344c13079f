
/- A list of ops is held as it was marked. -/
import Derived.Test.YtbcggkfbahmpoaaMarkOp
namespace Go.Proofs.Ytbcggkfbahmpoaa
open Go.ChangeShapes Go.WideShapes Go.ChangeAt Go.RowKit
set_option linter.unusedVariables false
set_option maxHeartbeats 2000000 in
theorem heldOpS_rep (a : Option Addr) (cap : Nat) (k : Int) (xs : List OpD) (w : World) (h0 : 0 ≤ k) (h1 : k ≤ 288230376151711744) (hm : slcnt opM xs ≤ 288230376151711744) (h : SlRd opR w a (slmark opM k xs)) :
    Calls Try.prog 48 #[.slice a xs.length cap, .int .i64 k] w fun e' w' => e' = .returned (.int .i64 (k + slcnt opM xs)) ∧ w' = w := by
  have hln := cnt_ops xs
  go_enter Try.func48, Try.ntmps48
  go_wp2
  go_loop [1, 5] (fun q i => ∃ j : Nat, j ≤ xs.length ∧ i = .int .i64 j ∧ q = .int .i64 (k + slcnt opM (xs.take j))) (fun _ i => xs.length - (intOf i).toNat)
  case atStart => exact ⟨0, Nat.zero_le _, rfl, by simp [slcnt]⟩
  case round =>
    obtain ⟨j, hj, rfl, rfl⟩ := hrel
    by_cases hlt : j < xs.length
    · have hlt' : (j : Int) < (xs.length : Int) := by omega
      obtain ⟨x, hx⟩ : ∃ x, xs[j]? = some x := ⟨_, List.getElem?_eq_getElem hlt⟩
      obtain ⟨b, off, rfl, x0, x1, x2, x3, -⟩ := op_at h (slmark_at (M := opM) (k := k) hx)
      have y0 : w.cell? ⟨b, off + j * 4, none⟩ = some (.int .i64 (k + slcnt opM (xs.take j))) := x0
      have y1 : w.cell? ⟨b, off + j * 4 + 1, none⟩ = some (.int .i64 (k + slcnt opM (xs.take j) + 1)) := x1
      have y2 : w.cell? ⟨b, off + j * 4 + 2, none⟩ = some (.int .i64 (k + slcnt opM (xs.take j) + 1 + 1)) := x2
      have y3 : w.cell? ⟨b, off + j * 4 + 3, none⟩ = some (.int .i64 (k + slcnt opM (xs.take j) + 1 + 1 + 1)) := x3
      have HT : Hid (slcnt opM (xs.take (j + 1)) = slcnt opM (xs.take j) + 4) := slcnt_step (M := opM) hx
      have hT : slcnt opM (xs.take j) + 4 ≤ slcnt opM xs := slcnt_get (M := opM) hx
      clear hx h x0 x1 x2 x3
      generalize hkk : k + (slcnt opM (xs.take j) : Int) = kk at y0 y1 y2 y3 ⊢
      generalize slcnt opM (xs.take j) = TT at HT hT hkk
      have hk0 : 0 ≤ kk ∧ kk ≤ 576460752303423488 := by omega
      go_wp2
      go_round
      case rel => exact ⟨j + 1, by omega, by go_num, by rw [HT.out]; congr 1; omega⟩
      case measure => simp [intOf]; omega
    · have hjn : j = xs.length := by omega
      subst hjn
      rw [List.take_length]
      go_wp2
      go_ret
      exact ⟨rfl, rfl⟩
end Go.Proofs.Ytbcggkfbahmpoaa
