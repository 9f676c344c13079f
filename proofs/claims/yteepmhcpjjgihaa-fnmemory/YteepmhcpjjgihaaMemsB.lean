/- The contract of WriteLine, of the specification. Conditions: lengths that a machine can hold. -/
import Derived.Test.YteepmhcpjjgihaaMemsA
namespace Go.Proofs.Yteepmhcpjjgihaa
open Go.ChangeShapes Go.WideShapes Go.ChangeAt Go.RowKit

theorem ownM_mono {lo hi hi' G cap : Nat} {w : World} {xss : List (List Int)} (h : OwnM lo hi w G cap xss) (hh : hi ≤ hi') : OwnM lo hi' w G cap xss := by
  obtain ⟨rs, h1, h2, h3, h4⟩ := h
  exact ⟨rs, h1, h2, by omega, inn_mono h4 hh⟩

set_option maxHeartbeats 1000000 in
theorem specWriteLine_no (a a2 : Option Addr) (xss : List (List Int)) (ys : List Int) (cap cap2 : Nat) (k m : Int) (w : World) (h : ReadsM w a xss) (hm : xss.length ≤ 2305843009213693952) (hk : memOk xss = false) :
    Calls Try.prog 14 #[.slice a xss.length cap, .int .i64 k, .slice a2 ys.length cap2, .int .i64 m] w fun e w' => ∃ v, e = .returned (.tuple #[v, .bool false]) ∧ MadeM w w' v [] := by
  go_enter Try.func14, Try.ntmps14
  go_wp2_with (go_at_call 21; refine (specMemoryOk_any _ xss _ _ h hm).mono ?_; rintro e w' ⟨rfl, hw'⟩; rw [hw', hk]; clear hw' w')
  go_ret2
  exact ⟨_, rfl, madeM_none _ _ rfl⟩

set_option maxHeartbeats 1000000 in
theorem specWriteLine_off (a a2 : Option Addr) (xss : List (List Int)) (ys : List Int) (cap cap2 : Nat) (k m : Int) (w : World) (h : ReadsM w a xss) (h2 : Reads w a2 ys) (hm : xss.length ≤ 2305843009213693952) (hk : memOk xss = true) (hc : wrC xss k ys m = false) :
    Calls Try.prog 14 #[.slice a xss.length cap, .int .i64 k, .slice a2 ys.length cap2, .int .i64 m] w fun e w' => ∃ v, e = .returned (.tuple #[v, .bool false]) ∧ MadeM w w' v xss := by
  have HH : Hid (ReadsM w a xss) := h
  have hl := memOk_len hk
  unfold wrC at hc
  have cs : k < 0 ∨ (¬ k < 0 ∧ (xss.length : Int) ≤ k) ∨ (¬ k < 0 ∧ ¬ (xss.length : Int) ≤ k ∧ isL ys = false) ∨ (¬ k < 0 ∧ ¬ (xss.length : Int) ≤ k ∧ isL ys = true ∧ betw m 0 3 = false) := by
    by_cases c0 : k < 0
    · exact .inl c0
    by_cases c1 : (xss.length : Int) ≤ k
    · exact .inr (.inl ⟨c0, c1⟩)
    have hb : betw k 0 ((xss.length : Int) - 1) = true := by simp [betw]; omega
    rw [hb, Bool.true_and] at hc
    cases h1 : isL ys
    · exact .inr (.inr (.inl ⟨c0, c1, rfl⟩))
    rw [h1, Bool.true_and] at hc
    exact .inr (.inr (.inr ⟨c0, c1, rfl, hc⟩))
  clear hc h
  rcases cs with c0 | ⟨c0, c1⟩ | ⟨c0, c1, c2⟩ | ⟨c0, c1, c2, c3⟩
  all_goals
    go_enter Try.func14, Try.ntmps14
    go_wp2_with (go_at_call 21; refine (specMemoryOk_any _ xss _ _ HH.out hm).mono ?_; rintro e w' ⟨rfl, hw'⟩; rw [hw', hk]; clear hw' w')
    refine (l4Copy_any _ xss _ _ HH.out hk).mono ?_
    rintro e w1 ⟨v, rfl, mm⟩
    have HM : Hid (MadeM w w1 v xss) := mm
    have HR : Hid (Reads w1 a2 ys) := by
      obtain ⟨G, c, _, _, _, _, b1⟩ := mm
      exact reads_below h2 b1
    clear mm
    go_wp2_with (first
      | (go_at_call 44; refine (specLineOk_any _ ys _ _ HR.out).mono ?_; rintro e w' ⟨rfl, hw'⟩; rw [hw', c2]; clear hw' w')
      | (go_at_call 45; refine (l1In_any _ _ _ _).mono ?_; rintro e w' ⟨rfl, hw'⟩; rw [hw', c3]; clear hw' w'))
    go_ret2
    exact ⟨_, rfl, HM.out⟩

set_option maxHeartbeats 1000000 in
theorem specWriteLine_yes (a a2 : Option Addr) (xss : List (List Int)) (cap cap2 j : Nat) (x y x2 y2 m : Int) (w : World) (h : ReadsM w a xss) (h2 : Reads w a2 [x2, y2]) (hm : xss.length ≤ 2305843009213693952) (hk : memOk xss = true)
    (hj : j < xss.length) (hx : xss[j]? = some [x, y]) (ox : okW x = true) (oy : okW y = true) (ox2 : okW x2 = true) (oy2 : okW y2 = true) (h3 : betw m 0 3 = true) :
    Calls Try.prog 14 #[.slice a xss.length cap, .int .i64 j, .slice a2 2 cap2, .int .i64 m] w fun e w' => ∃ v, e = .returned (.tuple #[v, .bool true]) ∧ MadeM w w' v (xss.set j (maskL [x, y] [x2, y2] m)) := by
  have HH : Hid (ReadsM w a xss) := h
  have HX : Hid _ := hx
  have hl := memOk_len hk
  have hj' : (j : Int) < (xss.length : Int) := by omega
  have hls : (xss.set j (maskL [x, y] [x2, y2] m)).length = xss.length := List.length_set
  obtain ⟨b, off, aj, cj, rfl, g1, hr⟩ := readsM_at h hx
  clear h hx
  go_enter Try.func14, Try.ntmps14
  go_wp2_with (go_at_call 21; refine (specMemoryOk_any _ xss _ _ HH.out hm).mono ?_; rintro e w' ⟨rfl, hw'⟩; rw [hw', hk]; clear hw' w')
  refine (l4Copy_any _ xss _ _ HH.out hk).mono ?_
  rintro e w1 ⟨v, rfl, G, c, rfl, l1, l1', o1, b1⟩
  have R1 : Hid _ := reads_below hr b1
  have R2 : Hid _ := reads_below h2 b1
  have q1 := (b1.cell (World.block_lt_of_cell? w ⟨b, off + j, none⟩ g1)).trans g1
  clear g1 hr h2
  go_wp2_with (first
    | (go_at_call 44; refine (specLineOk_yes _ x2 y2 _ _ R2.out ox2 oy2).mono ?_; rintro e w' ⟨rfl, hw'⟩; rw [hw']; clear hw' w')
    | (go_at_call 45; refine (l1In_any _ _ _ _).mono ?_; rintro e w' ⟨rfl, hw'⟩; rw [hw', h3]; clear hw' w'))
  refine (l3Masked_any _ _ x y x2 y2 _ _ m _ R1.out R2.out ox oy ox2 oy2 h3).mono ?_
  rintro e w2 ⟨v2, rfl, g2, c2, rfl, l2, l2', o2, b2⟩
  have hs := b1.size
  have M2 := ownM_set (ownM_below o1 b2 (Nat.le_refl _)) (owni_less o2 hs) l2 l2' hj
  obtain ⟨⟨v0, hv0⟩, hfz, M3, M4⟩ := M2
  have HM3 : Hid _ := M3
  have HM4 : Hid _ := M4
  have B2 := below_step b1 b2
  clear M3 M4 o1 o2 b1 b2 q1 R1 R2
  go_wp2
  go_ret2
  refine ⟨_, rfl, G, c, ?_, l1, ?_, ?_, ?_⟩
  · first | rfl | rw [hls]; rfl
  · exact (ownM_lt HM3.out).2.1
  · exact ownM_mono HM3.out HM4.out.size
  · exact B2.grown HM4.out B2.size (by intro k hk; cases hk; exact l1)

theorem specWriteLine_any (a a2 : Option Addr) (xss : List (List Int)) (ys : List Int) (cap cap2 : Nat) (k m : Int) (w : World) (h : ReadsM w a xss) (h2 : Reads w a2 ys) (hm : xss.length ≤ 2305843009213693952) :
    Calls Try.prog 14 #[.slice a xss.length cap, .int .i64 k, .slice a2 ys.length cap2, .int .i64 m] w fun e w' => ∃ v, e = .returned (.tuple #[v, .bool (wrB xss k ys m)]) ∧ MadeM w w' v (wrM xss k ys m) := by
  unfold wrB wrM wrX
  cases hk : memOk xss
  · exact specWriteLine_no a a2 xss ys cap cap2 k m w h hm hk
  · cases hc : wrC xss k ys m
    · exact specWriteLine_off a a2 xss ys cap cap2 k m w h h2 hm hk hc
    · unfold wrC at hc
      rw [Bool.and_eq_true, Bool.and_eq_true] at hc
      obtain ⟨hb, hy, h3⟩ := hc
      obtain ⟨j, rfl, hj⟩ := betw_nat hb
      obtain ⟨xs, hx⟩ := get_of_lt hj
      rcases isL_cases xs with hn | ⟨x, y, rfl, ox, oy⟩
      · rw [memOk_get hk hx] at hn; cases hn
      rcases isL_cases ys with hn | ⟨x2, y2, rfl, ox2, oy2⟩
      · rw [hy] at hn; cases hn
      have e : xss.getD (j : Int).toNat [] = [x, y] := by rw [Int.toNat_natCast, List.getD_eq_getElem?_getD, hx]; rfl
      rw [e, Int.toNat_natCast]
      exact specWriteLine_yes a a2 xss cap cap2 j x y x2 y2 m w h h2 hm hk hj hx ox oy ox2 oy2 h3

end Go.Proofs.Yteepmhcpjjgihaa
