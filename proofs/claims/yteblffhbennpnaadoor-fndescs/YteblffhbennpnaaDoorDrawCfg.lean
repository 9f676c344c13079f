
/- The contracts of the draws of a layout: some layout is drawn, and nothing that was there turns but the cursor. Conditions: the bytes are at most 2^61. -/
import Derived.Test.YteblffhbennpnaaDoorDrawRows
import Derived.Deep.RegionWith
namespace Go.Proofs.YteblffhbennpnaaDoor
open Go.ChangeShapes Go.WideShapes Go.ChangeAt Go.RowKit

set_option maxHeartbeats 1000000 in
theorem l2Draw_any (B g : Nat) (w : World) (hcur : Cur B w g) :
    Calls Tryd.prog 48 #[.pointer (some ⟨g, 0, none⟩)] w fun e w' => ∃ c s y l : Int, e = .returned (.agg #[.int .i64 c, .int .i64 s, .int .i64 y, .int .i64 l]) ∧ Cur B w' g ∧ w.grownBy w' (some g) := by
  have hlt := cur_lt hcur
  go_enter Tryd.func48, Tryd.ntmps48
  go_wp2
  have hc := cur_alloc (cur_alloc hcur (.cells #[.int .i64 0, .int .i64 0, .int .i64 0, .int .i64 0] 25)) (.cells #[.int .i64 1, .int .i64 2, .int .i64 4] 2)
  have G := grown_trans (World.grownBy_alloc w (.cells #[.int .i64 0, .int .i64 0, .int .i64 0, .int .i64 0] 25) (some g)) (World.grownBy_alloc _ (.cells #[.int .i64 1, .int .i64 2, .int .i64 4] 2) (some g))
  have R : ((w.alloc (.cells #[.int .i64 0, .int .i64 0, .int .i64 0, .int .i64 0] 25)).alloc (.cells #[.int .i64 1, .int .i64 2, .int .i64 4] 2)).heap[w.heap.size]? = some (.cells #[.int .i64 0, .int .i64 0, .int .i64 0, .int .i64 0] 25 (0, 0)) := by
    rw [Below.heap_alloc _ _ _ (by simp)]
    exact heap_alloc_new w _
  have T : ∀ x : Int, 0 ≤ x → x < ([1, 2, 4] : List Int).length → ((w.alloc (.cells #[.int .i64 0, .int .i64 0, .int .i64 0, .int .i64 0] 25)).alloc (.cells #[.int .i64 1, .int .i64 2, .int .i64 4] 2)).cell? ⟨w.heap.size + 1, x.toNat, none⟩ = some (.int .i64 (([1, 2, 4] : List Int).getD x.toNat 0)) := by
    intro x h0 h1
    have e : (w.alloc (.cells #[.int .i64 0, .int .i64 0, .int .i64 0, .int .i64 0] 25)).heap.size = w.heap.size + 1 := by simp
    rw [← e, cell_of_row _ _ x.toNat _ 2 (0, 0) (heap_alloc_new (w.alloc (.cells #[.int .i64 0, .int .i64 0, .int .i64 0, .int .i64 0] 25)) (.cells #[.int .i64 1, .int .i64 2, .int .i64 4] 2))]
    simp at h1
    obtain h | h | h : x = 0 ∨ x = 1 ∨ x = 2 := by omega
    all_goals subst h; rfl
  have hne : w.heap.size ≠ g := by omega
  have hBw : B ≤ w.heap.size := Nat.le_of_lt (Nat.lt_of_le_of_lt hcur.1 hlt)
  have hne1 : w.heap.size + 1 ≠ g := by omega
  generalize (w.alloc (.cells #[.int .i64 0, .int .i64 0, .int .i64 0, .int .i64 0] 25)).alloc (.cells #[.int .i64 1, .int .i64 2, .int .i64 4] 2) = W at hc G R T ⊢
  clear hcur
  replace G := grown_drewN G 1
  go_region_with (go_at_call 28
                  refine (l1Below_small B g _ _ ?_ (by omega) (by omega)).mono ?_
                  exact hc
                  rintro e w' ⟨x, rfl, hx0, hx1, hc', hg⟩
                  replace T := tab_grown hg hne1 T
                  replace G := grown_trans G hg
                  replace R := row_grown hg hne R
                  try clear q0 q1 q2 q3 f0 f1 f2 f3
                  obtain ⟨⟨q0, q1, q2, q3⟩, f0, f1, f2, f3⟩ := cell_four R
                  clear hc hg
                  have hc := hc'
                  clear hc')
  all_goals
    go_wp2
    refine bodyPost_ret (v := .agg #[_, _, _, _]) (by simp [results, Tryd.results48, go_sem, q0, q1, q2, q3]; first | rfl | exact ⟨rfl, rfl, rfl, rfl⟩) rfl ⟨_, _, _, _, rfl, ?_, ?_⟩
    · exact cur_setCell (cur_setCell (cur_setCell (cur_setCell hc _ hBw hne) _ hBw hne) _ hBw hne) _ hBw hne
    · exact grown_setCell (grown_setCell (grown_setCell (grown_setCell G (Nat.le_refl _)) (Nat.le_refl _)) (Nat.le_refl _)) (Nat.le_refl _)

end Go.Proofs.YteblffhbennpnaaDoor
