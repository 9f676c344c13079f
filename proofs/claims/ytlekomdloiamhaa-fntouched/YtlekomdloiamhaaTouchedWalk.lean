/- The law FnTouched returns true at every code of at most 4096 bytes, and nothing that was there turns. -/
import Derived.Test.YtlekomdloiamhaaDrawTree
import Derived.Test.YtlekomdloiamhaaTreeFacts
import Derived.LoopN
namespace Go.Proofs.Ytlekomdloiamhaa
open Go.ChangeShapes Go.WideShapes Go.ChangeAt Go.RowKit

set_option maxHeartbeats 2000000 in
set_option maxRecDepth 100000 in
theorem touched_law (a : Option Addr) (len cap : Nat) (zs : List Int) (w : World) (hr : Row8 w a len zs) (hs : len ≤ 4096) :
    Calls Try.prog 3 #[.slice a len cap] w fun e w' => e = .returned (.bool true) ∧ Below w.heap.size w w' := by
  have hbig : decide ((4096 : Int) < len) = false := by simp; omega
  go_enter Try.func3, Try.ntmps3
  go_wp2_with fail
  refine (big_any _ _ _ _).mono ?_
  rintro e w1 ⟨rfl, h⟩
  rw [h]
  clear h w1
  go_wp2_with fail
  refine (drawTouched_any _ _ _ zs _ hr).mono ?_
  rintro e w2 ⟨t, n, y, rfl, b2⟩
  clear hr hs hbig
  have HB : Hid _ := b2
  clear b2
  cases h1 : treeB t n && betw y 0 (n - 1)
  · have hx : tuI t n y = -1 := by simp only [tuI, h1]; rfl
    have HX : Hid _ := hx
    clear hx h1
    go_wp2_with (first
      | (go_at_call 11; refine (implTouched_any _ _ _ _).mono ?_; rintro e w' ⟨rfl, h⟩; rw [h, HX.out]; clear h w')
      | (go_at_call 12; refine (specTouched_any _ _ _ _).mono ?_; rintro e w' ⟨rfl, h⟩; rw [h, HX.out]; clear h w')
      | (go_at_call 13; refine (implTreeOk_any _ _ _).mono ?_; rintro e w' ⟨rfl, h⟩; rw [h]; clear h w')
      | (go_at_call 14; refine (specTreeOk_any _ _ _).mono ?_; rintro e w' ⟨rfl, h⟩; rw [h]; clear h w'))
    go_ret
    exact ⟨rfl, HB.out⟩
  · have h2 : treeB t n = true ∧ betw y 0 (n - 1) = true := by simpa using h1
    have HX : Hid (tuI t n y = touI t n y) := by unfold Hid; simp only [tuI, h1]; rfl
    obtain ⟨f1, f2, f3, f4, f5⟩ := touch_facts h2.1 h2.2
    have HP : Hid _ := tree_pow h2.1
    have hx0 := tree_lo f1
    have h6 : 0 ≤ y ∧ y ≤ n - 1 := by simpa [betw] using h2.2
    obtain ⟨y0, y1⟩ := h6
    clear h1 h2
    generalize touI t n y = x at HX f1 f2 f3 f4 f5 hx0
    have F2 : Hid _ := f2
    have F4 : Hid _ := f4
    have F5 : Hid _ := f5
    clear f2 f4 f5
    go_wp2_with fail
    refine (implTouched_any _ _ _ _).mono ?_
    rintro e w' ⟨rfl, h⟩
    rw [h, HX.out]
    clear h w'
    go_wp2_with fail
    refine (specTouched_any _ _ _ _).mono ?_
    rintro e w' ⟨rfl, h⟩
    rw [h, HX.out]
    clear h w'
    go_wp2_with fail
    refine (implTreeOk_any _ _ _).mono ?_
    rintro e w' ⟨rfl, h⟩
    rw [h]
    clear h w'
    go_wp2_with fail
    refine (specTreeOk_any _ _ _).mono ?_
    rintro e w' ⟨rfl, h⟩
    rw [h]
    clear h w'
    by_cases hn : 1 < n
    · have hn4 : n ≤ 4 := by have := HP.out; omega
      have hv : (viI x n == y) = false := by simpa using f3 hn
      clear f3
      go_wp2_with fail
      refine (implVictim_any _ _ _).mono ?_
      rintro e w' ⟨rfl, h⟩
      rw [h]
      clear h w'
      go_wp2_with fail
      refine (implTreeOk_any _ _ _).mono ?_
      rintro e w' ⟨rfl, h⟩
      rw [h]
      clear h w'
      go_wp2_with fail
      refine (implTouched_any _ _ _ _).mono ?_
      rintro e w' ⟨rfl, h⟩
      rw [h, F2.out]
      clear h w'
      go_wp2_with fail
      go_loop [7, 8] (fun q i => ∃ j : Nat, (j : Int) + 1 ≤ n ∧ i = .int .i64 ((j : Int) + 1) ∧ q = .int .i64 (gI x n j)) (fun _ i => (n - intOf i).toNat)
      case atStart => exact ⟨0, by omega, rfl, rfl⟩
      case round =>
        obtain ⟨j, hj, rfl, rfl⟩ := hrel
        by_cases hlt : (j : Int) + 1 < n
        · obtain ⟨v0, v1, v2⟩ := F4.out j hlt
          have HG : Hid (gI x n (j + 1) = bits BinOp.or IntKind.i64 (gI x n j) (2 ^ (vbI x n (gI x n j)).toNat)) := rfl
          have HW : Hid _ := pow_small _ v0 (by omega)
          generalize hE : vbI x n (gI x n j) = v at v0 v1 v2 HG HW
          have HV : Hid _ := hE
          have hvy : (v == y) = false := by simpa using v2
          clear hE v2
          go_wp2_with (go_at_call 16; refine (implBut_any _ _ _ _).mono ?_; rintro e w' ⟨rfl, h⟩; rw [h, HV.out]; clear h w')
          go_round
          case rel => exact ⟨j + 1, by omega, by go_num, by rw [HG.out]; rw [show wrap64 (2 ^ v.toNat) = 2 ^ v.toNat from HW.out]⟩
          case measure => simp [intOf]; omega
        · have HY : Hid _ := F5.out hn j (by omega)
          go_wp2_with (go_at_call 16; refine (implBut_any _ _ _ _).mono ?_; rintro e w' ⟨rfl, h⟩; rw [h, HY.out]; clear h w')
          go_ret
          exact ⟨rfl, HB.out⟩
    · have hn1 : n = 1 := by have := HP.out; omega
      subst hn1
      clear f3
      go_wp2_with fail
      refine (implTreeOk_any _ _ _).mono ?_
      rintro e w' ⟨rfl, h⟩
      rw [h]
      clear h w'
      go_wp2_with fail
      refine (implTouched_any _ _ _ _).mono ?_
      rintro e w' ⟨rfl, h⟩
      rw [h, F2.out]
      clear h w'
      go_wp2_with fail
      refine wp_loop_rounds 1 ?_
      rw [rounds_succ]
      go_wp2_with fail
      go_ret
      exact ⟨rfl, HB.out⟩

end Go.Proofs.Ytlekomdloiamhaa
