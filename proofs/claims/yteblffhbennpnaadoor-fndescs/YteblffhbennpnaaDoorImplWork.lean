
/- How much work there is, of the program. Conditions: lists that read as told, of lengths that a machine can hold. -/
import Derived.Test.YteblffhbennpnaaDoorProg11
import Derived.Test.YteblffhbennpnaaDoorOpSS
namespace Go.Proofs.YteblffhbennpnaaDoor
open Go.ChangeShapes Go.WideShapes Go.ChangeAt Go.RowKit
set_option linter.unusedVariables false
set_option maxHeartbeats 2000000 in
theorem implWork_any (a : Option Addr) (ps : List (List OpD)) (cap : Nat) (b : Option Addr) (n cp : Nat) (w : World) (h : SlRd opsR w a ps) (hm : n + lensI ps ≤ 4611686018427387904) (hl : ps.length ≤ 4611686018427387904) :
    Calls Tryd.prog 11 #[.slice a ps.length cap, .slice b n cp] w fun e w' => e = .returned (.int .i64 ((n + lensI ps : Nat) : Int)) ∧ Below w.heap.size w w' := by
  go_enter Tryd.func11, Tryd.ntmps11
  go_wp2
  go_loop [5, 12] (fun q i => ∃ k : Nat, k ≤ ps.length ∧ i = .int .i64 k ∧ q = .int .i64 ((n + lensI (ps.take k) : Nat) : Int)) (fun _ i => ps.length - (intOf i).toNat)
  case atStart => exact ⟨0, Nat.zero_le _, rfl, by simp [lensI]⟩
  case round =>
    obtain ⟨k, hk, rfl, rfl⟩ := hrel
    by_cases hlt : k < ps.length
    · have hlt' : (k : Int) < (ps.length : Int) := by omega
      obtain ⟨x, hx⟩ : ∃ x, ps[k]? = some x := ⟨_, List.getElem?_eq_getElem hlt⟩
      obtain ⟨b1, off, cs, rfl, ⟨aj, cj, rfl, -, -, -⟩, hcell⟩ := slrd_at h hx
      have g1 := hcell 0 _ rfl
      rw [show k * opsR.size + 0 = k from Nat.mul_one k] at g1
      have HT : Hid (lensI (ps.take (k + 1)) = _) := lens_step hx
      have hg := lens_get hx
      clear hcell hx
      generalize lensI (ps.take k) = t at HT hg ⊢
      go_wp2
      go_round
      case rel => exact ⟨k + 1, by omega, by go_num, by rw [HT.out]; go_num⟩
      case measure => simp [intOf]; omega
    · have hkl : k = ps.length := by omega
      subst hkl
      rw [List.take_length]
      go_wp2
      go_ret
      exact ⟨rfl, Below.refl _ _⟩
end Go.Proofs.YteblffhbennpnaaDoor
