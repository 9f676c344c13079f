/- The contracts of the draws of a layout and a number: some are drawn, and nothing that was there turns. Conditions: the bytes are at most 2^61. -/
import Derived.Test.YtfgelbpmkpleoaaDrawCfg2
namespace Go.Proofs.Ytfgelbpmkpleoaa
open Go.ChangeShapes Go.WideShapes Go.ChangeAt Go.RowKit

theorem alloc_size (w : World) (o : Obj) : (w.alloc o).heap.size = w.heap.size + 1 := by simp
theorem row8_alloc {w : World} {a : Option Addr} {len : Nat} {zs : List Int} (h : Row8 w a len zs) (o : Obj) : Row8 (w.alloc o) a len zs := row8_below h ((Below.refl _ _).alloc (Nat.le_refl _) o)

set_option maxHeartbeats 1000000 in
theorem drawConfigCode_any (a : Option Addr) (len cap : Nat) (zs : List Int) (w : World) (hr : Row8 w a len zs) :
    Calls Try.prog 17 #[.slice a len cap] w fun e w' => ∃ c s y l : Int, e = .returned (.agg #[.int .i64 c, .int .i64 s, .int .i64 y, .int .i64 l]) ∧ Below w.heap.size w w' := by
  go_enter Try.func17, Try.ntmps17
  go_wp2_with fail
  refine (l1New_any _ _ _ zs _ (row8_alloc hr _)).mono ?_
  rintro e w1 ⟨rfl, hc1, hb1⟩
  rw [alloc_size] at hc1 hb1
  have R1 := (hb1.block w.heap.size (by simp)).trans (heap_alloc_new w _)
  have B1 := ((Below.refl w.heap.size w).alloc (Nat.le_refl _) _).trans (hb1.mono (by simp))
  go_wp2_with fail
  refine (l2DrawAny_any _ _ _ hc1).mono ?_
  rintro e w2 ⟨c, s, y, l, rfl, hc2, hg2⟩
  have R2 := row_grown hg2 (by simp) R1
  have B2 := B1.grown hg2 B1.size (by intro k hk; cases hk; simp)
  obtain ⟨⟨q0, q1, q2, q3⟩, f0, f1, f2, f3⟩ := cell_four R2
  clear R1 R2 B1 hb1 hg2 hc1 hc2
  go_wp2
  refine bodyPost_ret (v := .agg #[_, _, _, _]) (by simp [results, Try.results17, go_sem, q0, q1, q2, q3]; first | rfl | exact ⟨rfl, rfl, rfl, rfl⟩) rfl ⟨_, _, _, _, rfl, ?_⟩
  exact Below.setCell (Below.setCell (Below.setCell (Below.setCell B2 (Nat.le_refl _) _) (Nat.le_refl _) _) (Nat.le_refl _) _) (Nat.le_refl _) _

set_option maxHeartbeats 1000000 in
theorem drawLineOf_any (a : Option Addr) (len cap : Nat) (zs : List Int) (w : World) (hr : Row8 w a len zs) :
    Calls Try.prog 10 #[.slice a len cap] w fun e w' => ∃ c s y l x : Int, e = .returned (.tuple #[.agg #[.int .i64 c, .int .i64 s, .int .i64 y, .int .i64 l], .int .i64 x]) ∧ x ≤ 24 ∧ Below w.heap.size w w' := by
  go_enter Try.func10, Try.ntmps10
  go_wp2_with fail
  refine (l1New_any _ _ _ zs _ (row8_alloc hr _)).mono ?_
  rintro e w1 ⟨rfl, hc1, hb1⟩
  rw [alloc_size] at hc1 hb1
  have R1 := (hb1.block w.heap.size (by simp)).trans (heap_alloc_new w _)
  have B1 := ((Below.refl w.heap.size w).alloc (Nat.le_refl _) _).trans (hb1.mono (by simp))
  go_wp2_with fail
  refine (l2DrawAny_any _ _ _ hc1).mono ?_
  rintro e w2 ⟨c, s, y, l, rfl, hc2, hg2⟩
  have R2 := row_grown hg2 (by simp) R1
  have B2 := B1.grown hg2 B1.size (by intro k hk; cases hk; simp)
  have hn2 : w.heap.size < w2.heap.size := row_lt R2
  have hn3 : w.heap.size + 1 < w2.heap.size := cur_lt hc2
  clear R1 B1 hb1 hg2 hc1
  go_wp2
  have hc := cur_alloc hc2 (.cells #[.int .i64 c, .int .i64 s, .int .i64 y, .int .i64 l] 25)
  have R := row_alloc R2 (.cells #[.int .i64 c, .int .i64 s, .int .i64 y, .int .i64 l] 25)
  have X := heap_alloc_new w2 (.cells #[.int .i64 c, .int .i64 s, .int .i64 y, .int .i64 l] 25)
  have BB := (B2.alloc B2.size (.cells #[.int .i64 c, .int .i64 s, .int .i64 y, .int .i64 l] 25)).drew
  have hz : w.heap.size ≠ w2.heap.size := by omega
  have hne : w.heap.size ≠ w.heap.size + 1 := by omega
  have hnx : w2.heap.size ≠ w.heap.size + 1 := by omega
  clear hc2 R2 B2 hn2
  generalize w2.alloc (.cells #[.int .i64 c, .int .i64 s, .int .i64 y, .int .i64 l] 25) = W at hc R X BB ⊢
  obtain ⟨⟨q0, q1, q2, q3⟩, f0, f1, f2, f3⟩ := cell_four R
  obtain ⟨⟨u0, u1, u2, u3⟩, -⟩ := cell_four X
  go_region_with (go_at_call 27
                  refine (l1From_small (w.heap.size + 1) (w.heap.size + 1) _ _ _ ?_ (by omega) (by omega) (by omega) (by omega)).mono ?_
                  exact hc
                  rintro e w' ⟨x, rfl, hx0, hx1, hc', hg⟩
                  replace BB := BB.grown hg BB.size (by intro k hk; cases hk; omega)
                  replace R := row_grown hg hne R
                  replace X := row_grown hg hnx X
                  clear q0 q1 q2 q3 f0 f1 f2 f3 u0 u1 u2 u3 hc hg hc'
                  obtain ⟨⟨q0, q1, q2, q3⟩, f0, f1, f2, f3⟩ := cell_four R
                  obtain ⟨⟨u0, u1, u2, u3⟩, -⟩ := cell_four X)
  all_goals
    go_wp2
    refine bodyPost_ret (v := .tuple #[.agg #[.int .i64 c, .int .i64 s, .int .i64 y, .int .i64 l], .int .i64 x]) (by simp [results, Try.results10, go_sem, q0, q1, q2, q3]) rfl ⟨c, s, y, l, x, rfl, hx1, ?_⟩
    exact Below.setCell (Below.setCell (Below.setCell (Below.setCell BB (Nat.le_refl _) _) (Nat.le_refl _) _) (Nat.le_refl _) _) (Nat.le_refl _) _

set_option maxHeartbeats 1000000 in
theorem drawSetOf_any (a : Option Addr) (len cap : Nat) (zs : List Int) (w : World) (hr : Row8 w a len zs) :
    Calls Try.prog 15 #[.slice a len cap] w fun e w' => ∃ c s y l x : Int, e = .returned (.tuple #[.agg #[.int .i64 c, .int .i64 s, .int .i64 y, .int .i64 l], .int .i64 x]) ∧ x ≤ 24 ∧ Below w.heap.size w w' := by
  go_enter Try.func15, Try.ntmps15
  go_wp2_with fail
  refine (drawLineOf_any _ _ _ zs _ (row8_alloc hr _)).mono ?_
  rintro e w1 ⟨c, s, y, l, x, rfl, hx, hb1⟩
  rw [alloc_size] at hb1
  have R := (hb1.block w.heap.size (by simp)).trans (heap_alloc_new w _)
  have BB := ((Below.refl w.heap.size w).alloc (Nat.le_refl _) _).trans (hb1.mono (by simp))
  obtain ⟨⟨q0, q1, q2, q3⟩, f0, f1, f2, f3⟩ := cell_four R
  clear R hb1
  go_wp2
  refine bodyPost_ret (v := .tuple #[.agg #[.int .i64 c, .int .i64 s, .int .i64 y, .int .i64 l], .int .i64 x]) (by simp [results, Try.results15, go_sem, q0, q1, q2, q3]) rfl ⟨c, s, y, l, x, rfl, hx, ?_⟩
  exact Below.setCell (Below.setCell (Below.setCell (Below.setCell BB (Nat.le_refl _) _) (Nat.le_refl _) _) (Nat.le_refl _) _) (Nat.le_refl _) _

end Go.Proofs.Ytfgelbpmkpleoaa
