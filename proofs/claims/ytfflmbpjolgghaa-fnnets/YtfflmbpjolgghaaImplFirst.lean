/- Which letter is the first of its road, of the program. No condition but a list that reads as told, of a length that a machine can hold. -/
import Derived.Test.YtfflmbpjolgghaaFirstOf
namespace Go.Proofs.Ytfflmbpjolgghaa
open Go.ChangeShapes Go.WideShapes Go.ChangeAt Go.RowKit
set_option linter.unusedVariables false

theorem same_self (v : MsgD) : sameB v v = true := by simp [sameB]
theorem first_of {xs : List MsgD} {n j : Nat} {u v : MsgD} (hv : xs[n]? = some v) (hu : xs[j]? = some u) (hs : sameB u v = true) (hno : NoneOf xs v j) : firstB xs (n : Int) = decide (j = n) := by
  by_cases h : j = n
  · subst h
    rw [first_yes hv hno]
    simp
  · have hl : ¬ n < j := fun hl => by
      have := hno n v hl hv
      rw [same_self] at this
      cases this
    rw [first_no hv (by omega) hu hs]
    simp [h]

set_option maxRecDepth 8000 in
set_option maxHeartbeats 4000000 in
theorem implFirst_any (a : Option Addr) (xs : List MsgD) (cap : Nat) (k : Int) (w : World) (h : SlRd msgR w a xs) (hm : xs.length ≤ maxLen) :
    Calls Try.prog 20 #[.slice a xs.length cap, .int .i64 k] w fun e w' => e = .returned (.bool (netB xs && firstB xs k)) ∧ Below w.heap.size w w' := by
  have HN := implNetOk_any a xs cap w h hm
  have hm' : xs.length ≤ 9223372036854775807 := hm
  cases hn : netB xs
  · rw [hn] at HN
    clear h hm
    go_enter Try.func20, Try.ntmps20
    go_wp2_with fail
    refine HN.mono ?_
    rintro e w1 ⟨rfl, b1⟩
    go_wp2
    go_ret
    exact ⟨rfl, b1⟩
  · rw [hn] at HN
    have hl60 : xs.length ≤ 60 := by
      unfold netB at hn
      simp only [Bool.and_eq_true, decide_eq_true_eq] at hn
      exact hn.1
    have hsub : True := trivial
    cases hb : betw k 0 ((xs.length : Int) - 1)
    · have HF : Hid (firstB xs k = false) := first_out (by simp [betw] at hb; omega)
      clear h hm
      go_enter Try.func20, Try.ntmps20
      go_wp2_with fail
      refine HN.mono ?_
      rintro e w1 ⟨rfl, b1⟩
      go_wp2_with (go_at_call 51; refine (between_any _ _ _ _).mono ?_; rintro e w' ⟨rfl, rfl⟩; rw [hb])
      go_ret
      exact ⟨by rw [HF.out]; rfl, b1⟩
    · have hk : 0 ≤ k ∧ k < (xs.length : Int) := by simp [betw] at hb; omega
      obtain ⟨n, rfl⟩ : ∃ n : Nat, k = (n : Int) := ⟨k.toNat, by omega⟩
      have hnl : n < xs.length := by omega
      have hnl' : (n : Int) < (xs.length : Int) := by omega
      obtain ⟨v, hv⟩ : ∃ v, xs[n]? = some v := ⟨_, List.getElem?_eq_getElem hnl⟩
      have H0 : Hid (∀ W, Below w.heap.size w W → SlRd msgR W a xs) := fun W hb => slrd_keep h fun k hk => hb.block k hk
      have HV : Hid (xs[n]? = some v) := hv
      have HFO : Hid (∀ W, Below w.heap.size w W → Calls Try.prog 52 #[.slice a xs.length cap, .agg #[.int .i64 v.1, .int .i64 v.2.1, .int .i64 v.2.2.1]] W fun e w' => (∃ (j : Nat) (u : MsgD), e = .returned (.int .i64 (j : Int)) ∧ xs[j]? = some u ∧ sameB u v = true ∧ NoneOf xs v j) ∧ Below W.heap.size W w') := fun W hb => firstOf_any a xs cap v W (slrd_keep h fun k hk => hb.block k hk) (by omega) ⟨n, v, hv, same_self v⟩
      clear h hm hv hk hsub
      go_enter Try.func20, Try.ntmps20
      go_wp2_with fail
      refine HN.mono ?_
      rintro e w1 ⟨rfl, b1⟩
      obtain ⟨b, off, cs, rfl, hrd, hcell⟩ := slrd_at (H0.out _ b1) HV.out
      obtain ⟨ad, cpw, rfl, -⟩ := msg_rd hrd
      have x0 := hcell 0 _ rfl
      have x1 := hcell 1 _ rfl
      have x2 := hcell 2 _ rfl
      have x3 := hcell 3 _ rfl
      have x4 := hcell 4 _ rfl
      have x5 := hcell 5 _ rfl
      have x6 := hcell 6 _ rfl
      rw [show off + (n * msgR.size + 0) = off + n * 7 from rfl] at x0
      rw [show off + (n * msgR.size + 1) = off + n * 7 + 1 from rfl] at x1
      rw [show off + (n * msgR.size + 2) = off + n * 7 + 2 from rfl] at x2
      rw [show off + (n * msgR.size + 3) = off + n * 7 + 3 from rfl] at x3
      rw [show off + (n * msgR.size + 4) = off + n * 7 + 4 from rfl] at x4
      rw [show off + (n * msgR.size + 5) = off + n * 7 + 5 from rfl] at x5
      rw [show off + (n * msgR.size + 6) = off + n * 7 + 6 from rfl] at x6
      clear hcell hrd
      go_wp2_with (go_at_call 51; refine (between_any _ _ _ _).mono ?_; rintro e w' ⟨rfl, rfl⟩; rw [hb])
      clear x0 x1 x2 x3 x4 x5 x6 HN
      refine (route_any _ _ _ _ _ _ _ _ _ _).mono ?_
      rintro e w2 ⟨rfl, b2⟩
      have B2 := below_step b1 b2
      clear b1 b2
      go_wp2_with fail
      refine (HFO.out _ B2).mono ?_
      rintro e w3 ⟨⟨j, u, rfl, g1, g2, g3⟩, b3⟩
      have HF : Hid (firstB xs (n : Int) = decide (j = n)) := first_of HV.out g1 g2 g3
      have B3 := below_step B2 b3
      clear B2 b3 g1 g2 g3 HFO
      by_cases hj : j = n
      · subst hj
        go_wp2
        go_ret
        exact ⟨by rw [HF.out]; simp, B3⟩
      · have hj2 : ¬ ((j : Int) = (n : Int)) := by omega
        have hj3 : ((j : Int) == (n : Int)) = false := beq_false_of_ne hj2
        go_wp2
        go_ret
        exact ⟨by rw [HF.out]; simp [hj], B3⟩
end Go.Proofs.Ytfflmbpjolgghaa
