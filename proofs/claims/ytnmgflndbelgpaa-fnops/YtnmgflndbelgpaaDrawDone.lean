/- The contracts of the draw of an op and a word, and of a number that is picked: within its bounds. Conditions: the bytes are at most 2^61; for the number at most 4096. -/
import Derived.Test.YtnmgflndbelgpaaDrawOps
import Derived.Deep.Cut
import Derived.BigRegion
namespace Go.Proofs.Ytnmgflndbelgpaa
open Go.ChangeShapes Go.WideShapes Go.ChangeAt Go.RowKit

theorem arr_three (a b c x : Int) (h0 : 0 ≤ x) (h1 : x < 3) : ∃ v, (v = a ∨ v = b ∨ v = c) ∧ (#[.int .i64 a, .int .i64 b, .int .i64 c] : Array Value)[x.toNat]? = some (.int .i64 v) := by
  obtain rfl | rfl | rfl : x = 0 ∨ x = 1 ∨ x = 2 := by omega
  · exact ⟨a, .inl rfl, rfl⟩
  · exact ⟨b, .inr (.inl rfl), rfl⟩
  · exact ⟨c, .inr (.inr rfl), rfl⟩

theorem bel_set4 {w w' : World} {v0 v1 v2 v3 : Value} (h : Below w.heap.size w w') : Below w.heap.size w ((((w'.setCell ⟨w.heap.size, 0, none⟩ v0).setCell ⟨w.heap.size, 1, none⟩ v1).setCell ⟨w.heap.size, 2, none⟩ v2).setCell ⟨w.heap.size, 3, none⟩ v3) :=
  Below.setCell (Below.setCell (Below.setCell (Below.setCell h (Nat.le_refl _) _) (Nat.le_refl _) _) (Nat.le_refl _) _) (Nat.le_refl _) _
theorem get_three {a b c v : Value} {n : Nat} (h : (#[a, b, c] : Array Value)[n]? = some v) {hn : n < [a, b, c].length} : [a, b, c][n] = v := by
  rw [List.getElem?_toArray] at h
  exact (List.getElem?_eq_some_iff.1 h).2

set_option maxHeartbeats 2000000 in
theorem drawDone_any (a : Option Addr) (len cap : Nat) (zs : List Int) (w : World) (hr : Row8 w a len zs) :
    Calls Try.prog 9 #[.slice a len cap] w fun e w' => ∃ k l x y z : Int, e = .returned (.tuple #[.agg #[.int .i64 k, .int .i64 l, .int .i64 x, .int .i64 y], .int .i64 z]) ∧ OpSm k l x y ∧ (-1 ≤ z ∧ z ≤ 10000) ∧ Below w.heap.size w w' := by
  go_enter Try.func9, Try.ntmps9
  go_wp2_with fail
  refine (l1New_any _ _ _ zs _ (row8_alloc hr _)).mono ?_
  rintro e w1 ⟨rfl, hc1, hb1⟩
  rw [alloc_size] at hc1 hb1
  have R1 := (hb1.block w.heap.size (by simp)).trans (heap_alloc_new w _)
  have B1 := ((Below.refl w.heap.size w).alloc (Nat.le_refl _) _).trans (hb1.mono (by simp))
  go_wp2_with fail
  refine (l8DrawAny_any _ _ _ hc1).mono ?_
  rintro e w2 ⟨k, l, x, y, rfl, hsm, hc2, hg2⟩
  have HS : Hid (OpSm k l x y) := hsm
  clear hsm
  have R2 := row_grown hg2 (by simp) R1
  have B2 := B1.grown hg2 B1.size (by intro k hk; cases hk; simp)
  have hn2 : w.heap.size < w2.heap.size := row_lt R2
  have hn3 : w.heap.size + 1 < w2.heap.size := cur_lt hc2
  have hz : w.heap.size ≠ w2.heap.size := by omega
  have hne : w.heap.size ≠ w.heap.size + 1 := by omega
  have hnx : w2.heap.size ≠ w.heap.size + 1 := by omega
  clear R1 B1 hb1 hg2 hc1 hr
  go_wp2_with fail
  refine (l1Once_small (w.heap.size + 1) (w.heap.size + 1) 6 _ (cur_alloc hc2 _) (by omega) (by omega)).mono ?_
  rintro e W ⟨b, rfl, hc, hg⟩
  have R := row_grown hg hne (row_alloc R2 _)
  have X := row_grown hg hnx (heap_alloc_new w2 _)
  have BB := (B2.alloc B2.size _).grown hg (by simp; omega) (by intro k hk; cases hk; simp)
  have hW : w2.heap.size < W.heap.size := row_lt X
  have hwW : w.heap.size ≠ W.heap.size := by omega
  have hwW' : W.heap.size ≠ w.heap.size := by omega
  clear hc2 R2 B2 hn2 hn3 hg
  obtain ⟨⟨q0, q1, q2, q3⟩, f0, f1, f2, f3⟩ := cell_four R
  obtain ⟨⟨u0, u1, u2, u3⟩, -⟩ := cell_four X
  have B0 := BB
  replace BB := BB.drew
  cases b
  · go_wp2
    go_region_with (go_at_call 21
                    refine (l1Below_small (w.heap.size + 1) (w.heap.size + 1) _ _ ?_ (by omega) (by omega)).mono ?_
                    exact hc
                    rintro e w' ⟨z, rfl, hx0, hx1, hc', hg⟩
                    replace BB := BB.grown hg BB.size (by intro k hk; cases hk; omega)
                    replace R := row_grown hg hne R
                    replace X := row_grown hg hnx X
                    clear q0 q1 q2 q3 f0 f1 f2 f3 u0 u1 u2 u3 hc hg hc'
                    obtain ⟨⟨q0, q1, q2, q3⟩, f0, f1, f2, f3⟩ := cell_four R
                    obtain ⟨⟨u0, u1, u2, u3⟩, -⟩ := cell_four X)
    all_goals
      go_wp2
      refine bodyPost_ret (v := .tuple #[.agg #[.int .i64 k, .int .i64 l, .int .i64 x, .int .i64 y], .int .i64 z]) (by simp [results, Try.results9, go_sem, q0, q1, q2, q3]) rfl ⟨k, l, x, y, z, rfl, HS.out, by omega, ?_⟩
      exact Below.setCell (Below.setCell (Below.setCell (Below.setCell BB (Nat.le_refl _) _) (Nat.le_refl _) _) (Nat.le_refl _) _) (Nat.le_refl _) _
  · go_wp2
    go_region_with (go_at_call 21
                    first
                    | (refine (l1Below_small (w.heap.size + 1) (w.heap.size + 1) _ _ (cur_drew hc) (by omega) (by omega)).mono ?_
                       rintro e w' ⟨z, rfl, hx0, hx1, hc', hg⟩
                       replace BB := BB.grown hg BB.size (by intro k hk; cases hk; omega)
                       replace R := row_grown hg hne R
                       replace X := row_grown hg hnx X
                       clear q0 q1 q2 q3 f0 f1 f2 f3 u0 u1 u2 u3 hc hg hc'
                       obtain ⟨⟨q0, q1, q2, q3⟩, f0, f1, f2, f3⟩ := cell_four R
                       obtain ⟨⟨u0, u1, u2, u3⟩, -⟩ := cell_four X
                       have hw' : w.heap.size ≠ w'.heap.size := Nat.ne_of_lt (row_lt R)
                       have hw2 : w'.heap.size ≠ w.heap.size := Ne.symm hw'
                       have hw3 : w.heap.size < w'.heap.size := row_lt R
                       have hw4 : w2.heap.size < w'.heap.size := row_lt X
                       obtain ⟨v, hv, hva⟩ := arr_three (-1) 9999 10000 z hx0 hx1
                       have hv0 : -1 ≤ v ∧ v ≤ 10000 := by omega
                       have hvc := (cell_of_row _ w'.heap.size z.toNat _ 2 (0, 0) (heap_alloc_new w' (.cells #[.int .i64 (-1), .int .i64 9999, .int .i64 10000] 2))).trans hva
                       clear hv)
                    | (refine (l1Below_small (w.heap.size + 1) (w.heap.size + 1) _ _ (cur_drew (cur_alloc hc (.cells #[.int .i64 (-1), .int .i64 9999, .int .i64 10000] 2))) (by omega) (by omega)).mono ?_
                       rintro e w' ⟨z, rfl, hx0, hx1, hc', hgd⟩
                       have hg : (W.alloc (.cells #[.int .i64 (-1), .int .i64 9999, .int .i64 10000] 2)).grownBy w' (some (w.heap.size + 1)) := ⟨hgd.os, hgd.tape, hgd.output, hgd.size, hgd.block⟩
                       clear hgd
                       obtain ⟨v, hv, hvc⟩ := lit_three hg (cur_lt hc) z hx0 hx1
                       have hv0 : -1 ≤ v ∧ v ≤ 10000 := by omega
                       have BA : Below w.heap.size w (W.alloc (.cells #[.int .i64 (-1), .int .i64 9999, .int .i64 10000] 2)) := B0.alloc B0.size _
                       replace BB := BA.grown hg BA.size (by intro k hk; cases hk; omega)
                       replace R := row_grown hg hne (row_alloc R _)
                       replace X := row_grown hg hnx (row_alloc X _)
                       clear q0 q1 q2 q3 f0 f1 f2 f3 u0 u1 u2 u3 hc hg hc' hv BA
                       obtain ⟨⟨q0, q1, q2, q3⟩, f0, f1, f2, f3⟩ := cell_four R
                       obtain ⟨⟨u0, u1, u2, u3⟩, -⟩ := cell_four X))
    all_goals
      go_wp2
      refine bodyPost_ret (v := .tuple #[.agg #[.int .i64 k, .int .i64 l, .int .i64 x, .int .i64 y], .int .i64 v]) (by first | (simp [results, Try.results9, go_sem, q0, q1, q2, q3]; done) | (simp [results, Try.results9, go_sem, q0, q1, q2, q3, hw3]; try exact get_three hva)) rfl ⟨k, l, x, y, _, rfl, HS.out, hv0, ?_⟩
      first
        | with_reducible exact bel_set4 BB
        | with_reducible exact bel_set4 (BB.alloc BB.size _)
        | with_reducible exact (bel_set4 BB).alloc (bel_set4 BB).size _

set_option maxHeartbeats 2000000 in
theorem pick_small (a : Option Addr) (len cap : Nat) (zs : List Int) (s n : Int) (w : World) (hr : Row8 w a len zs) (hb : ∀ j, j < len → 0 ≤ zs.getD j 0 ∧ zs.getD j 0 ≤ 255) (hs : len ≤ 4096) (hn : 0 < n) (hn2 : n ≤ 1000000) (hs0 : 0 ≤ s) (hs1 : s ≤ 100) :
    Calls Try.prog 16 #[.slice a len cap, .int .i64 s, .int .i64 n] w fun e w' => (∃ k : Int, e = .returned (.int .i64 k) ∧ 0 ≤ k ∧ k < n) ∧ w' = w := by
  have hl := hr.1
  have hn0 : ¬ n = 0 := by omega
  have hn1 : (n == 0) = false := by simp; omega
  go_enter Try.func16, Try.ntmps16
  go_wp2
  go_loop [7, 8] (fun q i => ∃ (j : Nat) (x : Int), j ≤ len ∧ i = .int .i64 j ∧ q = .int .i64 x ∧ 0 ≤ x ∧ x ≤ 2000000) (fun _ i => len - (intOf i).toNat)
  case atStart => exact ⟨0, _, Nat.zero_le _, rfl, rfl, by omega, by omega⟩
  case round =>
    obtain ⟨j, x, hj, rfl, rfl, hx0, hx1⟩ := hrel
    by_cases hlt : j < len
    · have hlt' : (j : Int) < (len : Int) := by omega
      rcases hr.2 with h0 | ⟨b, off, rfl, hbb, hc⟩
      · omega
      · have hcj := hc j hlt
        obtain ⟨hz0, hz1⟩ := hb j hlt
        clear hc
        generalize zs.getD j 0 = zj at hcj hz0 hz1
        go_wp2
        go_round
        case rel => exact ⟨j + 1, _, by omega, by go_num, rfl, Int.emod_nonneg _ (by omega), by have := Int.emod_lt_of_pos (x * 199 + zj + s) (show (0 : Int) < 1000003 by omega); omega⟩
        case measure => simp [intOf]; omega
    · have hjn : j = len := by omega
      subst hjn
      clear hr
      go_wp2
      go_ret
      exact ⟨⟨_, rfl, Int.emod_nonneg _ (by omega), Int.emod_lt_of_pos _ (by omega)⟩, rfl⟩

end Go.Proofs.Ytnmgflndbelgpaa
