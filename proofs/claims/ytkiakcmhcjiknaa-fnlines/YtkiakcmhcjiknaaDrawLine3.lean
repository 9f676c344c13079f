/- The contract of the draw for Masked: two lists of at most three numbers and a number are drawn, in new memory, and nothing that was there turns. Conditions: the bytes are at most 2^61. -/
import Derived.Test.YtkiakcmhcjiknaaDrawLine2
namespace Go.Proofs.Ytkiakcmhcjiknaa
open Go.ChangeShapes Go.WideShapes Go.ChangeAt Go.RowKit

set_option maxHeartbeats 1000000 in
theorem drawMasked_any (a : Option Addr) (len cap : Nat) (zs : List Int) (w : World) (hr : Row8 w a len zs) :
    Calls Try.prog 11 #[.slice a len cap] w fun e w' => ∃ ga ca xs gb cb ys, ∃ m : Int, e = .returned (.tuple #[.slice (some ⟨ga, 0, none⟩) xs.length ca, .slice (some ⟨gb, 0, none⟩) ys.length cb, .int .i64 m]) ∧ xs.length ≤ 3 ∧ ys.length ≤ 3 ∧
      OwnI w.heap.size w' ga ca xs ∧ OwnI w.heap.size w' gb cb ys ∧ Below w.heap.size w w' := by
  go_enter Try.func11, Try.ntmps11
  go_wp2_with fail
  refine (l1New_any _ _ _ zs _ hr).mono ?_
  rintro e w1 ⟨rfl, hc1, hb1⟩
  go_wp2_with fail
  refine (l3DrawAny_any _ _ _ hc1).mono ?_
  rintro e w2 ⟨v, xs, rfl, hl, ga, ca, rfl, l2, o2, hc2, hg2⟩
  have hne : ga ≠ w.heap.size := by have := cur_lt hc1; omega
  have B2 := below_of_grown hb1 hg2
  replace o2 := owni_mono o2 hb1.size
  clear hc1 hg2 hb1 l2
  go_wp2_with fail
  refine (l3DrawAny_any _ _ _ hc2).mono ?_
  rintro e w3 ⟨v, ys, rfl, hl2, gb, cb, rfl, l3, o3, hc3, hg3⟩
  have hne2 : gb ≠ w.heap.size := by have := cur_lt hc2; omega
  replace o3 := owni_mono o3 B2.size
  replace o2 := owni_grown o2 hg3 hne
  replace B2 := B2.grown hg3 B2.size (by intro k hk; cases hk; exact Nat.le_refl _)
  clear hc2 hg3 l3
  go_wp2_with fail
  refine (l1Once_small _ _ _ _ hc3 (by omega) (by omega)).mono ?_
  rintro e w4 ⟨b, rfl, hc4, hg4⟩
  replace o2 := owni_grown o2 hg4 hne
  replace o3 := owni_grown o3 hg4 hne2
  replace B2 := B2.grown hg4 B2.size (by intro k hk; cases hk; exact Nat.le_refl _)
  clear hc3 hg4
  cases b
  · go_wp2_with fail
    refine (l1Below_small _ _ _ _ hc4 (by omega) (by omega)).mono ?_
    rintro e w5 ⟨m, rfl, hm0, hm1, hc5, hg5⟩
    replace o2 := owni_grown o2 hg5 hne
    replace o3 := owni_grown o3 hg5 hne2
    replace B2 := B2.grown hg5 B2.size (by intro k hk; cases hk; exact Nat.le_refl _)
    go_wp2
    refine bodyPost_ret (v := .tuple #[.slice (some ⟨ga, 0, none⟩) xs.length ca, .slice (some ⟨gb, 0, none⟩) ys.length cb, .int .i64 m]) (by simp [results, Try.results11, go_sem]) rfl ?_
    exact ⟨ga, ca, xs, gb, cb, ys, m, rfl, hl, hl2, o2, o3, B2⟩
  · have lit : ∀ (W W' : World) (x : Int), w.heap.size < W.heap.size → 0 ≤ x → x < 2 → (W.alloc (.cells #[.int .i64 (-1), .int .i64 4] 2)).grownBy W' (some w.heap.size) →
        ∃ v, W'.cell? ⟨W.heap.size, x.toNat, none⟩ = some (.int .i64 v) := fun W W' x h h0 h1 hg => lit_cell (n := 2) hg h x h0 h1 (by
          intro j hj
          obtain rfl | rfl : j = 0 ∨ j = 1 := by omega
          all_goals exact ⟨_, rfl⟩)
    have LH : Hid _ := lit
    clear lit
    go_wp2_with fail
    go_region_with (go_at_call 27
                    first
                      | (refine (l1Below_small w.heap.size w.heap.size _ _ ?_ (by omega) (by omega)).mono ?_
                         exact hc4
                         rintro e w' ⟨x, rfl, hx0, hx1, hc', hg⟩
                         replace hg := grown_undrew hg
                         replace o2 := owni_grown o2 hg hne
                         replace o3 := owni_grown o3 hg hne2
                         replace B2 := B2.grown hg B2.size (by intro k hk; cases hk; exact Nat.le_refl _)
                         obtain ⟨v, hv⟩ := LH.out w' (w'.alloc _) x (cur_lt hc') hx0 hx1 (World.grownBy.refl _ _)
                         clear hg)
                      | (refine (l1Below_small w.heap.size w.heap.size _ _ ?_ (by omega) (by omega)).mono ?_
                         exact cur_alloc hc4 _
                         rintro e w' ⟨x, rfl, hx0, hx1, hc', hg⟩
                         replace hg := grown_undrew hg
                         replace o2 := owni_grown (owni_alloc o2 _) hg hne
                         replace o3 := owni_grown (owni_alloc o3 _) hg hne2
                         replace B2 := (B2.alloc B2.size _).grown hg (Nat.le_trans B2.size (by simp)) (by intro k hk; cases hk; exact Nat.le_refl _)
                         obtain ⟨v, hv⟩ := LH.out _ w' x (cur_lt hc4) hx0 hx1 hg
                         clear hg))
    all_goals
      go_wp2
      refine bodyPost_ret (v := .tuple #[.slice (some ⟨ga, 0, none⟩) xs.length ca, .slice (some ⟨gb, 0, none⟩) ys.length cb, .int .i64 v]) (by simp [results, Try.results11, go_sem]) rfl ⟨ga, ca, xs, gb, cb, ys, v, rfl, hl, hl2, ?_, ?_, ?_⟩
      · first | exact o2 | exact owni_alloc o2 _
      · first | exact o3 | exact owni_alloc o3 _
      · first | exact B2 | exact B2.alloc B2.size _

end Go.Proofs.Ytkiakcmhcjiknaa
