
/- The contracts of the draws of a layout and a number: some are drawn, and nothing that was there turns but the cursor. Conditions: the bytes are at most 2^61. -/
import Derived.Test.YteblffhbennpnaaDoorDrawCfg
namespace Go.Proofs.YteblffhbennpnaaDoor
open Go.ChangeShapes Go.WideShapes Go.ChangeAt Go.RowKit

set_option maxHeartbeats 1000000 in
theorem l2DrawAny_any (B g : Nat) (w : World) (hcur : Cur B w g) :
    Calls Tryd.prog 25 #[.pointer (some ⟨g, 0, none⟩)] w fun e w' => ∃ c s y l : Int, e = .returned (.agg #[.int .i64 c, .int .i64 s, .int .i64 y, .int .i64 l]) ∧ Cur B w' g ∧ w.grownBy w' (some g) := by
  have hlt := cur_lt hcur
  have hne : w.heap.size ≠ g := by omega
  have hBw : B ≤ w.heap.size := Nat.le_of_lt (Nat.lt_of_le_of_lt hcur.1 hlt)
  go_enter Tryd.func25, Tryd.ntmps25
  go_wp2_with fail
  refine (l2Draw_any B g _ (cur_alloc hcur _)).mono ?_
  rintro e w1 ⟨c, s, y, l, rfl, hc1, hg1⟩
  have G1 := grown_trans (World.grownBy_alloc _ _ _) hg1
  have R1 := row_grown hg1 hne (heap_alloc_new w _)
  have hn1 : w.heap.size < w1.heap.size := row_lt R1
  clear hcur hg1
  go_wp2_with fail
  refine (l1Once_small B g 5 _ (cur_alloc hc1 _) (by omega) (by omega)).mono ?_
  rintro e w2 ⟨x, rfl, hc2, hg2⟩
  have hn2 : w1.heap.size ≠ g := by have := cur_lt hc1; omega
  have G2 := grown_trans (grown_alloc G1 _) hg2
  have R2 := row_grown hg2 hne (row_alloc R1 _)
  have X2 := row_grown hg2 hn2 (heap_alloc_new w1 _)
  have hB1 : B ≤ w1.heap.size := by omega
  have hle : w.heap.size ≤ w1.heap.size := by omega
  clear G1 R1 hc1 hg2
  cases x
  · obtain ⟨⟨q0, q1, q2, q3⟩, f0, f1, f2, f3⟩ := cell_four R2
    obtain ⟨⟨u0, u1, u2, u3⟩, -⟩ := cell_four X2
    go_wp2
    refine bodyPost_ret (v := .agg #[_, _, _, _]) (by simp [results, Tryd.results25, go_sem, q0, q1, q2, q3]; first | rfl | exact ⟨rfl, rfl, rfl, rfl⟩) rfl ⟨_, _, _, _, rfl, ?_, ?_⟩
    · exact cur_setCell (cur_setCell (cur_setCell (cur_setCell hc2 _ hBw hne) _ hBw hne) _ hBw hne) _ hBw hne
    · exact grown_setCell (grown_setCell (grown_setCell (grown_setCell G2 (Nat.le_refl _)) (Nat.le_refl _)) (Nat.le_refl _)) (Nat.le_refl _)
  · go_wp2_with fail
    have hn3 := cur_lt hc2
    refine (l1Below_small B g _ _ (cur_alloc hc2 _) (by omega) (by omega)).mono ?_
    rintro e w3 ⟨x, rfl, hx0, hx1, hc3, hg3⟩
    obtain ⟨v, hv⟩ := lit_cell (n := 7) hg3 hn3 x hx0 hx1 (by
      intro j hj
      obtain rfl | rfl | rfl | rfl | rfl | rfl | rfl : j = 0 ∨ j = 1 ∨ j = 2 ∨ j = 3 ∨ j = 4 ∨ j = 5 ∨ j = 6 := by omega
      all_goals exact ⟨_, rfl⟩)
    have G3 := grown_trans (grown_alloc G2 _) hg3
    have R3 := row_grown hg3 hne (row_alloc R2 _)
    have X3 := row_grown hg3 hn2 (row_alloc X2 _)
    clear G2 R2 X2 hc2 hg3
    go_wp2_with fail
    refine (l1Below_small B g _ _ hc3 (by omega) (by omega)).mono ?_
    rintro e w4 ⟨k, rfl, hk0, hk1, hc4, hg4⟩
    have G4 := grown_trans G3 hg4
    have R4 := row_grown hg4 hne R3
    have X4 := row_grown hg4 hn2 X3
    clear G3 R3 X3 hc3 hg4 hv
    obtain ⟨⟨q0, q1, q2, q3⟩, f0, f1, f2, f3⟩ := cell_four R4
    obtain ⟨⟨u0, u1, u2, u3⟩, e0, e1, e2, e3⟩ := cell_four X4
    have hz : w.heap.size ≠ w1.heap.size := by omega
    clear R4 X4
    obtain rfl | rfl | rfl | rfl : k = 0 ∨ k = 1 ∨ k = 2 ∨ k = 3 := by omega
    all_goals
      go_wp2
      refine bodyPost_ret (v := .agg #[_, _, _, _]) (by simp [results, Tryd.results25, go_sem, q0, q1, q2, q3]; first | rfl | exact ⟨rfl, rfl, rfl, rfl⟩) rfl ⟨_, _, _, _, rfl, ?_, ?_⟩
      · exact cur_setCell (cur_setCell (cur_setCell (cur_setCell (cur_setCell hc4 _ hB1 hn2) _ hBw hne) _ hBw hne) _ hBw hne) _ hBw hne
      · exact grown_setCell (grown_setCell (grown_setCell (grown_setCell (grown_setCell G4 hle) (Nat.le_refl _)) (Nat.le_refl _)) (Nat.le_refl _)) (Nat.le_refl _)

end Go.Proofs.YteblffhbennpnaaDoor
