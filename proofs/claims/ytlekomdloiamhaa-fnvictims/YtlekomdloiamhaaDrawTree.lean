/- The contracts of the draws of a tree, a number of ways, a way and what is kept: some numbers are drawn, and nothing that was there turns. Conditions: the bytes are at most 2^61. -/
import Derived.Test.YtlekomdloiamhaaNums
import Derived.Test.YtlekomdloiamhaaDraw
namespace Go.Proofs.Ytlekomdloiamhaa
open Go.ChangeShapes Go.WideShapes Go.ChangeAt Go.RowKit

def minI (a b : Int) : Int := if a < b then a else b
def maxI (a b : Int) : Int := if a > b then a else b

set_option maxHeartbeats 400000 in
theorem l1Min_any (a b : Int) (w : World) :
    Calls Try.prog 29 #[.int .i64 a, .int .i64 b] w fun e w' => e = .returned (.int .i64 (minI a b)) ∧ w' = w := by
  by_cases h : a < b
  · have H : Hid (minI a b = a) := by unfold Hid; simp [minI, h]
    go_enter Try.func29, Try.ntmps29
    go_wp2
    go_ret
    exact ⟨ret_int H.out.symm, rfl⟩
  · have H : Hid (minI a b = b) := by unfold Hid; simp [minI, h]
    go_enter Try.func29, Try.ntmps29
    go_wp2
    go_ret
    exact ⟨ret_int H.out.symm, rfl⟩

set_option maxHeartbeats 400000 in
theorem l1Max_any (a b : Int) (w : World) :
    Calls Try.prog 28 #[.int .i64 a, .int .i64 b] w fun e w' => e = .returned (.int .i64 (maxI a b)) ∧ w' = w := by
  by_cases h : a > b
  · have H : Hid (maxI a b = a) := by unfold Hid; simp [maxI, h]
    go_enter Try.func28, Try.ntmps28
    go_wp2
    go_ret
    exact ⟨ret_int H.out.symm, rfl⟩
  · have H : Hid (maxI a b = b) := by unfold Hid; simp [maxI, h]
    go_enter Try.func28, Try.ntmps28
    go_wp2
    go_ret
    exact ⟨ret_int H.out.symm, rfl⟩

set_option maxHeartbeats 400000 in
theorem drawWays_any (B g : Nat) (w : World) (hcur : Cur B w g) :
    Calls Try.prog 43 #[.pointer (some ⟨g, 0, none⟩)] w fun e w' => ∃ x : Int, e = .returned (.int .i64 x) ∧ Cur B w' g ∧ w.grownBy w' (some g) := by
  go_enter Try.func43, Try.ntmps43
  go_wp2_with fail
  refine (l1Once_small B g 12 _ hcur (by omega) (by omega)).mono ?_
  rintro e w1 ⟨x, rfl, hc1, hg1⟩
  have hgs := cur_lt hc1
  cases x
  all_goals
    go_wp2_with fail
    refine (l1Below_small B g _ _ (cur_alloc hc1 _) (by omega) (by omega)).mono ?_
    rintro e w2 ⟨x, rfl, hx0, hx1, hc, hg⟩
    obtain ⟨v, hv⟩ := lit_cell (n := 4) hg hgs x hx0 hx1 (by
      intro j hj
      obtain rfl | rfl | rfl | rfl : j = 0 ∨ j = 1 ∨ j = 2 ∨ j = 3 := by omega
      all_goals exact ⟨_, rfl⟩)
    go_wp2
    go_ret
    exact ⟨_, rfl, hc, grown_trans (grown_trans hg1 (World.grownBy_alloc _ _ _)) hg⟩

theorem clip_bd (a b x : Int) (h : a ≤ b) : a ≤ maxI a (minI b x) ∧ maxI a (minI b x) ≤ b := by
  unfold maxI minI
  split <;> split <;> omega

theorem lit9 {w : World} {t : TypeId} (x : Int) (h0 : 0 ≤ x) (h1 : x ≤ 8) :
    ∃ v : Int, (w.alloc (.cells #[.int .i64 1, .int .i64 1, .int .i64 2, .int .i64 1, .int .i64 8, .int .i64 1, .int .i64 1, .int .i64 1, .int .i64 1] t)).cell? ⟨w.heap.size, x.toNat, none⟩ = some (.int .i64 v) ∧ 0 < v ∧ v ≤ 256 := by
  rw [cell_of_row _ w.heap.size x.toNat _ t (0, 0) (heap_alloc_new w _)]
  obtain rfl | rfl | rfl | rfl | rfl | rfl | rfl | rfl | rfl : x = 0 ∨ x = 1 ∨ x = 2 ∨ x = 3 ∨ x = 4 ∨ x = 5 ∨ x = 6 ∨ x = 7 ∨ x = 8 := by omega
  all_goals exact ⟨_, rfl, by decide, by decide⟩

set_option maxHeartbeats 1000000 in
theorem drawTreeOk_any (a : Option Addr) (len cap : Nat) (zs : List Int) (w : World) (hr : Row8 w a len zs) :
    Calls Try.prog 24 #[.slice a len cap] w fun e w' => ∃ t n : Int, e = .returned (.tuple #[.int .i64 t, .int .i64 n]) ∧ Below w.heap.size w w' := by
  go_enter Try.func24, Try.ntmps24
  go_wp2_with fail
  refine (l1New_any _ _ _ zs _ hr).mono ?_
  rintro e w1 ⟨rfl, hc1, hb1⟩
  go_wp2_with fail
  refine (drawWays_any _ _ _ hc1).mono ?_
  rintro e w2 ⟨n, rfl, hc2, hg2⟩
  go_wp2_with fail
  refine (l1Once_small _ _ 8 _ hc2 (by omega) (by omega)).mono ?_
  rintro e w3 ⟨x, rfl, hc3, hg3⟩
  have hgs := cur_lt hc3
  cases x
  · have hcl := clip_bd 0 8 n (by omega)
    obtain ⟨v, hv, hv0, hv1⟩ := lit9 (w := w3) (t := 2) _ hcl.1 hcl.2
    generalize hm : maxI 0 (minI 8 n) = m at hcl hv
    have hm' : Hid _ := hm
    obtain ⟨m0, m1⟩ := hcl
    clear hm
    go_wp2_with (first
      | (go_at_call 29; refine (l1Min_any _ _ _).mono ?_; rintro e wx ⟨rfl, h⟩; rw [h]; clear h wx)
      | (go_at_call 28; refine (l1Max_any _ _ _).mono ?_; rintro e wx ⟨rfl, h⟩; rw [h, hm'.out]; clear h wx))
    refine (l1Below_small _ _ v _ (cur_alloc hc3 _) hv0 hv1).mono ?_
    rintro e w4 ⟨x, rfl, hx0, hx1, hc, hg⟩
    go_wp2
    go_ret2
    exact ⟨_, _, rfl, below_of_grown hb1 (grown_trans (grown_trans (grown_trans hg2 hg3) (World.grownBy_alloc _ _ _)) hg)⟩
  · go_wp2_with fail
    refine (l1Below_small _ _ _ _ (cur_alloc hc3 _) (by omega) (by omega)).mono ?_
    rintro e w4 ⟨x, rfl, hx0, hx1, hc, hg⟩
    obtain ⟨v, hv⟩ := lit_cell (n := 4) hg hgs x hx0 hx1 (by
      intro j hj
      obtain rfl | rfl | rfl | rfl : j = 0 ∨ j = 1 ∨ j = 2 ∨ j = 3 := by omega
      all_goals exact ⟨_, rfl⟩)
    go_wp2
    go_ret2
    exact ⟨_, _, rfl, below_of_grown hb1 (grown_trans (grown_trans (grown_trans hg2 hg3) (World.grownBy_alloc _ _ _)) hg)⟩

theorem cur_below5 {B g : Nat} {w w' : World} (h : Cur B w g) (hb : Below w.heap.size w w') : Cur B w' g := by
  have hlt := cur_lt h
  obtain ⟨hB, a, len, cap, zs, i, hh, hi, hblk, hby⟩ := h
  refine ⟨hB, a, len, cap, zs, i, hh, hi, (hb.block g hlt).trans hblk, hby.1, ?_⟩
  rcases hby.2 with h | ⟨b, off, ha, hbb, hc⟩
  · exact .inl h
  · exact .inr ⟨b, off, ha, hbb, fun j hj => (hb.cell (by show b < w.heap.size; omega)).trans (hc j hj)⟩

set_option maxHeartbeats 1000000 in
theorem drawTouched_any (a : Option Addr) (len cap : Nat) (zs : List Int) (w : World) (hr : Row8 w a len zs) :
    Calls Try.prog 10 #[.slice a len cap] w fun e w' => ∃ t n y : Int, e = .returned (.tuple #[.int .i64 t, .int .i64 n, .int .i64 y]) ∧ Below w.heap.size w w' := by
  go_enter Try.func10, Try.ntmps10
  go_wp2_with fail
  refine (l1New_any _ _ _ zs _ hr).mono ?_
  rintro e w1 ⟨rfl, hc1, hb1⟩
  have hr1 := row8_below hr hb1
  go_wp2_with fail
  refine (drawTreeOk_any _ _ _ zs _ hr1).mono ?_
  rintro e w2 ⟨t, n, rfl, hb2⟩
  have hc2 := cur_below5 hc1 hb2
  have B2 := below_step hb1 hb2
  clear hb1 hb2 hc1 hr hr1
  go_wp2_with fail
  refine (l1Once_small _ _ 8 _ hc2 (by omega) (by omega)).mono ?_
  rintro e w3 ⟨x, rfl, hc3, hg3⟩
  cases x
  · have hcl := clip_bd 1 4 n (by omega)
    generalize hm : maxI 1 (minI 4 n) = m at hcl
    have hm' : Hid _ := hm
    obtain ⟨m0, m1⟩ := hcl
    clear hm
    go_wp2_with (first
      | (go_at_call 29; refine (l1Min_any _ _ _).mono ?_; rintro e wx ⟨rfl, h⟩; rw [h]; clear h wx)
      | (go_at_call 28; refine (l1Max_any _ _ _).mono ?_; rintro e wx ⟨rfl, h⟩; rw [h, hm'.out]; clear h wx)
      | fail)
    refine (l1Below_small _ _ m _ hc3 (by omega) (by omega)).mono ?_
    rintro e w4 ⟨x, rfl, hx0, hx1, hc, hg⟩
    go_wp2
    refine bodyPost_ret (v := .tuple #[.int .i64 t, .int .i64 n, .int .i64 x]) (by simp [results, Try.results10, go_sem]) rfl ⟨_, _, _, rfl, ?_⟩
    exact below_of_grown B2 (grown_trans hg3 hg)
  · go_wp2_with fail
    refine (l1From_small _ _ _ _ _ hc3 (by omega) (by omega) (by omega) (by omega)).mono ?_
    rintro e w4 ⟨x, rfl, hx0, hx1, hc, hg⟩
    go_wp2
    refine bodyPost_ret (v := .tuple #[.int .i64 t, .int .i64 n, .int .i64 x]) (by simp [results, Try.results10, go_sem]) rfl ⟨_, _, _, rfl, ?_⟩
    exact below_of_grown B2 (grown_trans hg3 hg)

set_option maxHeartbeats 1000000 in
theorem drawVictimBut_any (a : Option Addr) (len cap : Nat) (zs : List Int) (w : World) (hr : Row8 w a len zs) :
    Calls Try.prog 18 #[.slice a len cap] w fun e w' => ∃ t n y : Int, e = .returned (.tuple #[.int .i64 t, .int .i64 n, .int .i64 y]) ∧ Below w.heap.size w w' := by
  go_enter Try.func18, Try.ntmps18
  go_wp2_with fail
  refine (l1New_any _ _ _ zs _ hr).mono ?_
  rintro e w1 ⟨rfl, hc1, hb1⟩
  have hr1 := row8_below hr hb1
  go_wp2_with fail
  refine (drawTreeOk_any _ _ _ zs _ hr1).mono ?_
  rintro e w2 ⟨t, n, rfl, hb2⟩
  have hc2 := cur_below5 hc1 hb2
  have B2 := below_step hb1 hb2
  clear hb1 hb2 hc1 hr hr1
  go_wp2_with fail
  refine (l1Once_small _ _ 10 _ hc2 (by omega) (by omega)).mono ?_
  rintro e w3 ⟨x, rfl, hc3, hg3⟩
  cases x
  · go_wp2_with fail
    refine (l1Below_small _ _ _ _ hc3 (by omega) (by omega)).mono ?_
    rintro e w4 ⟨x, rfl, hx0, hx1, hc, hg⟩
    go_wp2
    refine bodyPost_ret (v := .tuple #[.int .i64 t, .int .i64 n, .int .i64 x]) (by simp [results, Try.results18, go_sem]) rfl ⟨_, _, _, rfl, ?_⟩
    exact below_of_grown B2 (grown_trans hg3 hg)
  · go_wp2_with fail
    refine (l1DrawSet_any _ _ _ hc3).mono ?_
    rintro e w4 ⟨x, rfl, hc, hg⟩
    go_wp2
    refine bodyPost_ret (v := .tuple #[.int .i64 t, .int .i64 n, .int .i64 x]) (by simp [results, Try.results18, go_sem]) rfl ⟨_, _, _, rfl, ?_⟩
    exact below_of_grown B2 (grown_trans hg3 hg)

set_option maxHeartbeats 400000 in
theorem drawVictim_any (a : Option Addr) (len cap : Nat) (zs : List Int) (w : World) (hr : Row8 w a len zs) :
    Calls Try.prog 17 #[.slice a len cap] w fun e w' => ∃ t n : Int, e = .returned (.tuple #[.int .i64 t, .int .i64 n]) ∧ Below w.heap.size w w' := by
  go_enter Try.func17, Try.ntmps17
  go_wp2_with (go_at_call 24; refine (drawTreeOk_any _ _ _ zs _ hr).mono ?_; rintro e w1 ⟨s, i, rfl, hb⟩)
  go_ret2
  exact ⟨_, _, rfl, hb⟩

end Go.Proofs.Ytlekomdloiamhaa
