/- The contracts of the draws for Put, Masked and WordAt: some list of at most three numbers and some numbers are drawn, in new memory, and nothing that was there turns. Conditions: the bytes are at most 2^61. -/
import Derived.Test.YtkiakcmhcjiknaaDrawLine
namespace Go.Proofs.Ytkiakcmhcjiknaa
open Go.ChangeShapes Go.WideShapes Go.ChangeAt Go.RowKit

theorem grown_undrew {w w' : World} {r : Option Nat} (h : w.drew.grownBy w' r) : w.grownBy w' r := ⟨h.os, h.tape, h.output, h.size, h.block⟩

set_option maxHeartbeats 1000000 in
theorem drawWordAt_any (a : Option Addr) (len cap : Nat) (zs : List Int) (w : World) (hr : Row8 w a len zs) :
    Calls Try.prog 13 #[.slice a len cap] w fun e w' => ∃ gl cl xs, ∃ k : Int, e = .returned (.tuple #[.slice (some ⟨gl, 0, none⟩) xs.length cl, .int .i64 k]) ∧ xs.length ≤ 3 ∧ OwnI w.heap.size w' gl cl xs ∧ Below w.heap.size w w' := by
  go_enter Try.func13, Try.ntmps13
  go_wp2_with fail
  refine (l1New_any _ _ _ zs _ hr).mono ?_
  rintro e w1 ⟨rfl, hc1, hb1⟩
  go_wp2_with fail
  refine (l3DrawAny_any _ _ _ hc1).mono ?_
  rintro e w2 ⟨v, xs, rfl, hl, gl, cl, rfl, l2, o2, hc2, hg2⟩
  go_wp2_with fail
  refine (l1From_small _ _ _ _ _ hc2 (by omega) (by omega) (by omega) (by omega)).mono ?_
  rintro e w3 ⟨k, rfl, hk0, hk1, hc3, hg3⟩
  have o3 := owni_grown o2 hg3 (by have := cur_lt hc1; omega)
  go_wp2
  go_ret2
  exact ⟨gl, cl, xs, k, rfl, hl, owni_mono o3 hb1.size, below_of_grown hb1 (grown_trans hg2 hg3)⟩

set_option maxHeartbeats 1000000 in
theorem drawPut_any (a : Option Addr) (len cap : Nat) (zs : List Int) (w : World) (hr : Row8 w a len zs) :
    Calls Try.prog 9 #[.slice a len cap] w fun e w' => ∃ gl cl xs, ∃ k u : Int, e = .returned (.tuple #[.slice (some ⟨gl, 0, none⟩) xs.length cl, .int .i64 k, .int .i64 u]) ∧ xs.length ≤ 3 ∧ OwnI w.heap.size w' gl cl xs ∧ Below w.heap.size w w' := by
  go_enter Try.func9, Try.ntmps9
  go_wp2_with fail
  refine (l1New_any _ _ _ zs _ hr).mono ?_
  rintro e w1 ⟨rfl, hc1, hb1⟩
  go_wp2_with fail
  refine (l3DrawAny_any _ _ _ hc1).mono ?_
  rintro e w2 ⟨v, xs, rfl, hl, gl, cl, rfl, l2, o2, hc2, hg2⟩
  have hne : gl ≠ w.heap.size := by have := cur_lt hc1; omega
  go_wp2_with fail
  refine (l1Below_small _ _ _ _ hc2 (by omega) (by omega)).mono ?_
  rintro e w3 ⟨k, rfl, hk0, hk1, hc3, hg3⟩
  have o3 := owni_grown o2 hg3 hne
  have B3 := below_of_grown hb1 (grown_trans hg2 hg3)
  clear o2 hg2 hg3 hc2
  go_wp2_with fail
  refine (l1Once_small _ _ _ _ hc3 (by omega) (by omega)).mono ?_
  rintro e w4 ⟨b, rfl, hc4, hg4⟩
  have o4 := owni_grown o3 hg4 hne
  have B4 := B3.grown hg4 B3.size (by intro k hk; cases hk; exact Nat.le_refl _)
  clear o3 B3 hc3 hg4
  have lit : ∀ (W W' : World) (x : Int), W.heap.size ≠ w.heap.size → w.heap.size < W.heap.size → 0 ≤ x → x < 5 → (W.alloc (.cells #[.int .i64 0, .int .i64 7, .int .i64 9999, .int .i64 10000, .int .i64 (-1)] 2)).grownBy W' (some w.heap.size) →
      ∃ v, W'.cell? ⟨W.heap.size, x.toNat, none⟩ = some (.int .i64 v) := fun W W' x _ h h0 h1 hg => lit_cell (n := 5) hg h x h0 h1 (by
        intro j hj
        obtain rfl | rfl | rfl | rfl | rfl : j = 0 ∨ j = 1 ∨ j = 2 ∨ j = 3 ∨ j = 4 := by omega
        all_goals exact ⟨_, rfl⟩)
  have LH : Hid _ := lit
  clear lit
  cases b
  · go_wp2_with fail
    go_region_with (go_at_call 27
                    first
                      | (refine (l1Below_small w.heap.size w.heap.size _ _ ?_ (by omega) (by omega)).mono ?_
                         exact hc4
                         rintro e w' ⟨x, rfl, hx0, hx1, hc', hg⟩
                         replace hg := grown_undrew hg
                         replace o4 := owni_grown o4 hg hne
                         replace B4 := B4.grown hg B4.size (by intro k hk; cases hk; exact Nat.le_refl _)
                         obtain ⟨v, hv⟩ := LH.out w' (w'.alloc _) x (by have := cur_lt hc'; omega) (cur_lt hc') hx0 hx1 (World.grownBy.refl _ _)
                         clear hg)
                      | (refine (l1Below_small w.heap.size w.heap.size _ _ ?_ (by omega) (by omega)).mono ?_
                         exact cur_alloc hc4 _
                         rintro e w' ⟨x, rfl, hx0, hx1, hc', hg⟩
                         replace hg := grown_undrew hg
                         replace o4 := owni_grown (owni_alloc o4 _) hg hne
                         replace B4 := (B4.alloc B4.size _).grown hg (Nat.le_trans B4.size (by simp)) (by intro k hk; cases hk; exact Nat.le_refl _)
                         obtain ⟨v, hv⟩ := LH.out _ w' x (by have := cur_lt hc4; omega) (cur_lt hc4) hx0 hx1 hg
                         clear hg))
    all_goals
      go_wp2
      refine bodyPost_ret (v := .tuple #[.slice (some ⟨gl, 0, none⟩) xs.length cl, .int .i64 k, .int .i64 v]) (by simp [results, Try.results9, go_sem]) rfl ⟨gl, cl, xs, k, v, rfl, hl, ?_, ?_⟩
      · first | exact owni_mono o4 hb1.size | exact owni_alloc (owni_mono o4 hb1.size) _
      · first | exact B4 | exact B4.alloc B4.size _
  · go_wp2_with fail
    refine (l1From_small _ _ _ _ _ hc4 (by omega) (by omega) (by omega) (by omega)).mono ?_
    rintro e w5 ⟨k5, rfl, hk50, hk51, hc5, hg5⟩
    replace o4 := owni_grown o4 hg5 hne
    replace B4 := B4.grown hg5 B4.size (by intro k hk; cases hk; exact Nat.le_refl _)
    clear hc4 hg5
    go_wp2_with fail
    go_region_with (go_at_call 27
                    first
                      | (refine (l1Below_small w.heap.size w.heap.size _ _ ?_ (by omega) (by omega)).mono ?_
                         exact hc5
                         rintro e w' ⟨x, rfl, hx0, hx1, hc', hg⟩
                         replace hg := grown_undrew hg
                         replace o4 := owni_grown o4 hg hne
                         replace B4 := B4.grown hg B4.size (by intro k hk; cases hk; exact Nat.le_refl _)
                         obtain ⟨v, hv⟩ := LH.out w' (w'.alloc _) x (by have := cur_lt hc'; omega) (cur_lt hc') hx0 hx1 (World.grownBy.refl _ _)
                         clear hg)
                      | (refine (l1Below_small w.heap.size w.heap.size _ _ ?_ (by omega) (by omega)).mono ?_
                         exact cur_alloc hc5 _
                         rintro e w' ⟨x, rfl, hx0, hx1, hc', hg⟩
                         replace hg := grown_undrew hg
                         replace o4 := owni_grown (owni_alloc o4 _) hg hne
                         replace B4 := (B4.alloc B4.size _).grown hg (Nat.le_trans B4.size (by simp)) (by intro k hk; cases hk; exact Nat.le_refl _)
                         obtain ⟨v, hv⟩ := LH.out _ w' x (by have := cur_lt hc5; omega) (cur_lt hc5) hx0 hx1 hg
                         clear hg))
    all_goals
      go_wp2
      refine bodyPost_ret (v := .tuple #[.slice (some ⟨gl, 0, none⟩) xs.length cl, .int .i64 k5, .int .i64 v]) (by simp [results, Try.results9, go_sem]) rfl ⟨gl, cl, xs, k5, v, rfl, hl, ?_, ?_⟩
      · first | exact owni_mono o4 hb1.size | exact owni_alloc (owni_mono o4 hb1.size) _
      · first | exact B4 | exact B4.alloc B4.size _

end Go.Proofs.Ytkiakcmhcjiknaa
