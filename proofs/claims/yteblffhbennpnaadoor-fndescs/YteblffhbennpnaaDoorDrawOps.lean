
/- The contracts of the draws of ops: some op of small numbers is drawn, and nothing that was there turns but the cursor. Conditions: the bytes are at most 2^61. -/
import Derived.Test.YteblffhbennpnaaDoorDrawRows
import Derived.Deep.Cut
namespace Go.Proofs.YteblffhbennpnaaDoor
open Go.ChangeShapes Go.WideShapes Go.ChangeAt Go.RowKit

def OpSm (k a x y : Int) : Prop := (-1 ≤ k ∧ k ≤ 10000) ∧ (-1 ≤ a ∧ a ≤ 10000) ∧ (-1 ≤ x ∧ x ≤ 10000) ∧ (-1 ≤ y ∧ y ≤ 10000)
theorem opSm_mk {k a x y : Int} (h1 : -1 ≤ k) (h2 : k ≤ 10000) (h3 : -1 ≤ a) (h4 : a ≤ 10000) (h5 : -1 ≤ x) (h6 : x ≤ 10000) (h7 : -1 ≤ y) (h8 : y ≤ 10000) : OpSm k a x y := ⟨⟨h1, h2⟩, ⟨h3, h4⟩, ⟨h5, h6⟩, h7, h8⟩
theorem four_set2 {w : World} {g : Nat} {v0 v1 v2 v3 u : Value} {t : TypeId} (h : w.heap[g]? = some (.cells #[v0, v1, v2, v3] t (0, 0))) : (w.setCell ⟨g, 2, none⟩ u).heap[g]? = some (.cells #[v0, v1, u, v3] t (0, 0)) := heap_setCell_same w g 2 _ t u h
theorem lit_three {w w2 : World} {g : Nat} {a b c : Int} {t : TypeId} (hg : (w.alloc (.cells #[.int .i64 a, .int .i64 b, .int .i64 c] t)).grownBy w2 (some g)) (hgs : g < w.heap.size) (x : Int) (h0 : 0 ≤ x) (h1 : x < 3) :
    ∃ v, (v = a ∨ v = b ∨ v = c) ∧ w2.cell? ⟨w.heap.size, x.toNat, none⟩ = some (.int .i64 v) := by
  have K : ∀ j : Nat, j < 3 → ∃ v, (v = a ∨ v = b ∨ v = c) ∧ (#[.int .i64 a, .int .i64 b, .int .i64 c] : Array Value)[j]? = some (.int .i64 v) := by
    intro j hj
    obtain rfl | rfl | rfl : j = 0 ∨ j = 1 ∨ j = 2 := by omega
    · exact ⟨a, .inl rfl, rfl⟩
    · exact ⟨b, .inr (.inl rfl), rfl⟩
    · exact ⟨c, .inr (.inr rfl), rfl⟩
  obtain ⟨v, hv, hc⟩ := K x.toNat (by omega)
  refine ⟨v, hv, hg.cell ?_ (by simp; omega)⟩
  rw [cell_of_row _ w.heap.size x.toNat _ t (0, 0) (heap_alloc_new w _)]
  exact hc

set_option maxHeartbeats 1000000 in
theorem l8Draw_any (B g : Nat) (lines : Int) (w : World) (hcur : Cur B w g) (hl : 0 < lines) (hl1 : lines ≤ 128) :
    Calls Tryd.prog 56 #[.pointer (some ⟨g, 0, none⟩), .int .i64 lines] w fun e w' => ∃ k a x y : Int, e = .returned (.agg #[.int .i64 k, .int .i64 a, .int .i64 x, .int .i64 y]) ∧ OpSm k a x y ∧ Cur B w' g ∧ w.grownBy w' (some g) := by
  have hlt := cur_lt hcur
  have hne : w.heap.size ≠ g := by omega
  have hBw : B ≤ w.heap.size := Nat.le_of_lt (Nat.lt_of_le_of_lt hcur.1 hlt)
  go_enter Tryd.func56, Tryd.ntmps56
  go_wp2_with fail
  refine (l1Below_small B g _ _ (cur_alloc hcur _) (by omega) (by omega)).mono ?_
  rintro e w1 ⟨k0, rfl, hk0, hk1, hc1, hg1⟩
  have G1 := grown_trans (World.grownBy_alloc _ _ _) hg1
  have R1 := row_grown hg1 hne (heap_alloc_new w _)
  clear hcur hg1
  go_wp2_with fail
  refine (l1Below_small B g _ _ hc1 (by omega) (by omega)).mono ?_
  rintro e w2 ⟨a0, rfl, ha0, ha1, hc2, hg2⟩
  have G2 := grown_trans G1 hg2
  have R2 := row_grown hg2 hne R1
  clear hc1 hg2 G1 R1
  have hn1 : w2.heap.size ≠ g := by have := cur_lt hc2; omega
  have hz : w.heap.size ≠ w2.heap.size := by have := row_lt R2; omega
  have hle : w.heap.size ≤ w2.heap.size := by have := row_lt R2; omega
  have hB1 : B ≤ w2.heap.size := by omega
  have e0 : 1 + k0 = 1 ∨ 1 + k0 = 2 ∨ 1 + k0 = 3 ∨ 1 + k0 = 4 ∨ 1 + k0 = 5 := by omega
  have hkk : -1 ≤ 1 + k0 ∧ 1 + k0 ≤ 10000 := by omega
  have haa : -1 ≤ a0 ∧ a0 ≤ 10000 := by omega
  clear hk0 hk1 ha0 ha1
  go_upto_region 2 with fail
  obtain ⟨kk, ek⟩ : ∃ kk, kk = 1 + k0 := ⟨_, rfl⟩
  rw [← ek] at e0 hkk ⊢
  clear ek
  have hc3 := cur_alloc hc2 (.cells #[.int .i64 kk, .int .i64 a0, .int .i64 0, .int .i64 0] 73)
  have G3 := grown_alloc G2 (.cells #[.int .i64 kk, .int .i64 a0, .int .i64 0, .int .i64 0] 73)
  have R3 := row_alloc R2 (.cells #[.int .i64 kk, .int .i64 a0, .int .i64 0, .int .i64 0] 73)
  have X3 := heap_alloc_new w2 (.cells #[.int .i64 kk, .int .i64 a0, .int .i64 0, .int .i64 0] 73)
  clear hc2 G2 R2
  generalize w2.alloc (.cells #[.int .i64 kk, .int .i64 a0, .int .i64 0, .int .i64 0] 73) = W at hc3 G3 R3 X3 ⊢
  obtain ⟨⟨q0, q1, q2, q3⟩, f0, f1, f2, f3⟩ := cell_four R3
  obtain ⟨⟨u0, u1, u2, u3⟩, d0, d1, d2, d3⟩ := cell_four X3
  rcases e0 with rfl | rfl | rfl | rfl | rfl
  · clear R3 X3
    go_wp2
    refine bodyPost_ret (v := .agg #[.int .i64 1, .int .i64 a0, .int .i64 0, .int .i64 0]) (by simp [results, Tryd.results56, go_sem, q0, q1, q2, q3]) rfl ⟨_, _, _, _, rfl, (opSm_mk (by omega) (by omega) haa.1 haa.2 (by omega) (by omega) (by omega) (by omega)), ?_, ?_⟩
    · exact (cur_setCell (cur_setCell (cur_setCell (cur_setCell hc3 _ hBw hne) _ hBw hne) _ hBw hne) _ hBw hne)
    · exact (grown_setCell (grown_setCell (grown_setCell (grown_setCell G3 (Nat.le_refl _)) (Nat.le_refl _)) (Nat.le_refl _)) (Nat.le_refl _))
  · go_wp2_with fail
    refine (l1Below_small B g _ _ hc3 (by omega) (by omega)).mono ?_
    rintro e w4 ⟨x0, rfl, hx0, hx1, hc4, hg4⟩
    have G4 := grown_trans G3 hg4
    have R4 := row_grown hg4 hne R3
    have X4 := row_grown hg4 hn1 X3
    clear G3 R3 X3 hc3 hg4 q0 q1 q2 q3 f0 f1 f2 f3 u0 u1 u2 u3 d0 d1 d2 d3
    obtain ⟨⟨q0, q1, q2, q3⟩, f0, f1, f2, f3⟩ := cell_four R4
    obtain ⟨⟨u0, u1, u2, u3⟩, d0, d1, d2, d3⟩ := cell_four X4
    clear R4 X4
    go_wp2
    refine bodyPost_ret (v := .agg #[.int .i64 2, .int .i64 a0, .int .i64 x0, .int .i64 0]) (by simp [results, Tryd.results56, go_sem, q0, q1, q2, q3]) rfl ⟨_, _, _, _, rfl, (opSm_mk (by omega) (by omega) haa.1 haa.2 (by omega) (by omega) (by omega) (by omega)), ?_, ?_⟩
    · exact (cur_setCell (cur_setCell (cur_setCell (cur_setCell (cur_setCell hc4 _ hB1 hn1) _ hBw hne) _ hBw hne) _ hBw hne) _ hBw hne)
    · exact (grown_setCell (grown_setCell (grown_setCell (grown_setCell (grown_setCell G4 hle) (Nat.le_refl _)) (Nat.le_refl _)) (Nat.le_refl _)) (Nat.le_refl _))
  · go_wp2_with fail
    refine (l1Below_small B g _ _ hc3 (by omega) (by omega)).mono ?_
    rintro e w4 ⟨x0, rfl, hx0, hx1, hc4, hg4⟩
    have G4 := grown_trans G3 hg4
    have R4 := row_grown hg4 hne R3
    have X4 := row_grown hg4 hn1 X3
    clear G3 R3 X3 hc3 hg4 q0 q1 q2 q3 f0 f1 f2 f3 u0 u1 u2 u3 d0 d1 d2 d3
    obtain ⟨⟨q0, q1, q2, q3⟩, f0, f1, f2, f3⟩ := cell_four R4
    obtain ⟨⟨u0, u1, u2, u3⟩, d0, d1, d2, d3⟩ := cell_four X4
    clear R4 X4
    go_wp2
    refine bodyPost_ret (v := .agg #[.int .i64 3, .int .i64 a0, .int .i64 x0, .int .i64 0]) (by simp [results, Tryd.results56, go_sem, q0, q1, q2, q3]) rfl ⟨_, _, _, _, rfl, (opSm_mk (by omega) (by omega) haa.1 haa.2 (by omega) (by omega) (by omega) (by omega)), ?_, ?_⟩
    · exact (cur_setCell (cur_setCell (cur_setCell (cur_setCell (cur_setCell hc4 _ hB1 hn1) _ hBw hne) _ hBw hne) _ hBw hne) _ hBw hne)
    · exact (grown_setCell (grown_setCell (grown_setCell (grown_setCell (grown_setCell G4 hle) (Nat.le_refl _)) (Nat.le_refl _)) (Nat.le_refl _)) (Nat.le_refl _))
  · go_wp2_with fail
    refine (l1Below_small B g _ _ hc3 (by omega) (by omega)).mono ?_
    rintro e w4 ⟨x0, rfl, hx0, hx1, hc4, hg4⟩
    have G4 := grown_trans G3 hg4
    have R4 := row_grown hg4 hne R3
    have X4 := row_grown hg4 hn1 X3
    clear G3 R3 X3 hc3 hg4 q0 q1 q2 q3 f0 f1 f2 f3 u0 u1 u2 u3 d0 d1 d2 d3
    obtain ⟨⟨q0, q1, q2, q3⟩, f0, f1, f2, f3⟩ := cell_four R4
    obtain ⟨⟨u0, u1, u2, u3⟩, d0, d1, d2, d3⟩ := cell_four X4
    clear R4 X4
    go_wp2
    refine bodyPost_ret (v := .agg #[.int .i64 4, .int .i64 a0, .int .i64 x0, .int .i64 0]) (by simp [results, Tryd.results56, go_sem, q0, q1, q2, q3]) rfl ⟨_, _, _, _, rfl, (opSm_mk (by omega) (by omega) haa.1 haa.2 (by omega) (by omega) (by omega) (by omega)), ?_, ?_⟩
    · exact (cur_setCell (cur_setCell (cur_setCell (cur_setCell (cur_setCell hc4 _ hB1 hn1) _ hBw hne) _ hBw hne) _ hBw hne) _ hBw hne)
    · exact (grown_setCell (grown_setCell (grown_setCell (grown_setCell (grown_setCell G4 hle) (Nat.le_refl _)) (Nat.le_refl _)) (Nat.le_refl _)) (Nat.le_refl _))
  · go_wp2_with fail
    refine (l1Below_small B g _ _ hc3 (by omega) (by omega)).mono ?_
    rintro e w4 ⟨x0, rfl, hx0, hx1, hc4, hg4⟩
    have G4 := grown_trans G3 hg4
    have R4 := row_grown hg4 hne R3
    have X4 := row_grown hg4 hn1 X3
    clear G3 R3 X3 hc3 hg4 q0 q1 q2 q3 f0 f1 f2 f3 u0 u1 u2 u3 d0 d1 d2 d3
    obtain ⟨⟨q0, q1, q2, q3⟩, f0, f1, f2, f3⟩ := cell_four R4
    obtain ⟨⟨u0, u1, u2, u3⟩, d0, d1, d2, d3⟩ := cell_four X4
    go_wp2_with fail
    refine (l1Below_small B g _ _ (cur_setCell hc4 _ hB1 hn1) (by omega) (by omega)).mono ?_
    rintro e w5 ⟨y0, rfl, hy0, hy1, hc5, hg5⟩
    have G5 := grown_trans (grown_setCell G4 hle) hg5
    have R5 := row_grown hg5 hne (row_setO R4 _ _ hz)
    have X5 := row_grown hg5 hn1 (four_set2 X4)
    clear G4 R4 X4 hc4 hg5 q0 q1 q2 q3 f0 f1 f2 f3 u0 u1 u2 u3 d0 d1 d2 d3
    obtain ⟨⟨q0, q1, q2, q3⟩, f0, f1, f2, f3⟩ := cell_four R5
    obtain ⟨⟨u0, u1, u2, u3⟩, d0, d1, d2, d3⟩ := cell_four X5
    clear R5 X5
    go_wp2
    refine bodyPost_ret (v := .agg #[.int .i64 5, .int .i64 a0, .int .i64 x0, .int .i64 y0]) (by simp [results, Tryd.results56, go_sem, q0, q1, q2, q3]) rfl ⟨_, _, _, _, rfl, (opSm_mk (by omega) (by omega) haa.1 haa.2 (by omega) (by omega) (by omega) (by omega)), ?_, ?_⟩
    · exact (cur_setCell (cur_setCell (cur_setCell (cur_setCell (cur_setCell hc5 _ hB1 hn1) _ hBw hne) _ hBw hne) _ hBw hne) _ hBw hne)
    · exact (grown_setCell (grown_setCell (grown_setCell (grown_setCell (grown_setCell G5 hle) (Nat.le_refl _)) (Nat.le_refl _)) (Nat.le_refl _)) (Nat.le_refl _))


end Go.Proofs.YteblffhbennpnaaDoor
