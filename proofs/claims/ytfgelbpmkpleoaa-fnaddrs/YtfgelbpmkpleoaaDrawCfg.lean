/- The contracts of the draws of a layout: some layout is drawn, and nothing that was there turns but the cursor. Conditions: the bytes are at most 2^61. -/
import Derived.Test.YtfgelbpmkpleoaaDraw
import Derived.Deep.RegionWith
namespace Go.Proofs.Ytfgelbpmkpleoaa
open Go.ChangeShapes Go.WideShapes Go.ChangeAt Go.RowKit

theorem row_grown {w w' : World} {g k : Nat} {cs : Array Value} {t : TypeId} (hg : w.grownBy w' (some g)) (hk : k ≠ g) (h : w.heap[k]? = some (.cells cs t (0, 0))) : w'.heap[k]? = some (.cells cs t (0, 0)) := by
  rw [hg.block k (Array.getElem?_eq_some_iff.1 h).1 (by simp; omega), h]
theorem cell_four {w : World} {g : Nat} {x y z u : Value} {t : TypeId} (h : w.heap[g]? = some (.cells #[x, y, z, u] t (0, 0))) :
    (w.cell? ⟨g, 0, none⟩ = some x ∧ w.cell? ⟨g, 1, none⟩ = some y ∧ w.cell? ⟨g, 2, none⟩ = some z ∧ w.cell? ⟨g, 3, none⟩ = some u) ∧ w.frozen? ⟨g, 0, none⟩ = false ∧ w.frozen? ⟨g, 1, none⟩ = false ∧ w.frozen? ⟨g, 2, none⟩ = false ∧ w.frozen? ⟨g, 3, none⟩ = false := by
  refine ⟨⟨?_, ?_, ?_, ?_⟩, ?_, ?_, ?_, ?_⟩
  · rw [cell_of_row w g 0 _ t (0, 0) h]; rfl
  · rw [cell_of_row w g 1 _ t (0, 0) h]; rfl
  · rw [cell_of_row w g 2 _ t (0, 0) h]; rfl
  · rw [cell_of_row w g 3 _ t (0, 0) h]; rfl
  · exact frozen_of_row w g 0 _ t h
  · exact frozen_of_row w g 1 _ t h
  · exact frozen_of_row w g 2 _ t h
  · exact frozen_of_row w g 3 _ t h

theorem cur_setCell {B g : Nat} {w : World} {a : Addr} (h : Cur B w g) (u : Value) (hB : B ≤ a.block) (hne : a.block ≠ g) : Cur B (w.setCell a u) g := by
  obtain ⟨hBg, b, len, cap, zs, i, hh, hi, hblk, hby⟩ := h
  refine ⟨hBg, b, len, cap, zs, i, hh, hi, (Below.heap_setCell w a u g (by omega)).trans hblk, hby.1, ?_⟩
  rcases hby.2 with h | ⟨x, off, ha, hx, hc⟩
  · exact .inl h
  · refine .inr ⟨x, off, ha, hx, fun j hj => ?_⟩
    rw [World.cell?_of_block (w := w) (Below.heap_setCell w a u x (by omega))]
    exact hc j hj
theorem grown_setCell {w w' : World} {g : Nat} {a : Addr} {u : Value} (G : w.grownBy w' (some g)) (ha : w.heap.size ≤ a.block) : w.grownBy (w'.setCell a u) (some g) :=
  ⟨G.os, G.tape, G.output, by simpa [World.setCell] using G.size, fun i hi hn => (Below.heap_setCell w' a u i (by omega)).trans (G.block i hi hn)⟩

set_option maxHeartbeats 1000000 in
theorem l2Draw_any (B g : Nat) (w : World) (hcur : Cur B w g) :
    Calls Try.prog 35 #[.pointer (some ⟨g, 0, none⟩)] w fun e w' => ∃ c s y l : Int, e = .returned (.agg #[.int .i64 c, .int .i64 s, .int .i64 y, .int .i64 l]) ∧ Cur B w' g ∧ w.grownBy w' (some g) := by
  have hlt := cur_lt hcur
  go_enter Try.func35, Try.ntmps35
  go_wp2
  have hc := cur_alloc (cur_alloc hcur (.cells #[.int .i64 0, .int .i64 0, .int .i64 0, .int .i64 0] 25)) (.cells #[.int .i64 1, .int .i64 2, .int .i64 4] 2)
  have G := grown_trans (World.grownBy_alloc w (.cells #[.int .i64 0, .int .i64 0, .int .i64 0, .int .i64 0] 25) (some g)) (World.grownBy_alloc _ (.cells #[.int .i64 1, .int .i64 2, .int .i64 4] 2) (some g))
  have R : ((w.alloc (.cells #[.int .i64 0, .int .i64 0, .int .i64 0, .int .i64 0] 25)).alloc (.cells #[.int .i64 1, .int .i64 2, .int .i64 4] 2)).heap[w.heap.size]? = some (.cells #[.int .i64 0, .int .i64 0, .int .i64 0, .int .i64 0] 25 (0, 0)) := by
    rw [Below.heap_alloc _ _ _ (by simp)]
    exact heap_alloc_new w _
  have T : ∀ x : Int, 0 ≤ x → x < ([1, 2, 4] : List Int).length → ((w.alloc (.cells #[.int .i64 0, .int .i64 0, .int .i64 0, .int .i64 0] 25)).alloc (.cells #[.int .i64 1, .int .i64 2, .int .i64 4] 2)).cell? ⟨w.heap.size + 1, x.toNat, none⟩ = some (.int .i64 (([1, 2, 4] : List Int).getD x.toNat 0)) := by
    intro x h0 h1
    have e : (w.alloc (.cells #[.int .i64 0, .int .i64 0, .int .i64 0, .int .i64 0] 25)).heap.size = w.heap.size + 1 := by simp
    rw [← e, cell_of_row _ _ x.toNat _ 2 (0, 0) (heap_alloc_new (w.alloc (.cells #[.int .i64 0, .int .i64 0, .int .i64 0, .int .i64 0] 25)) (.cells #[.int .i64 1, .int .i64 2, .int .i64 4] 2))]
    simp at h1
    obtain h | h | h : x = 0 ∨ x = 1 ∨ x = 2 := by omega
    all_goals subst h; rfl
  have hne : w.heap.size ≠ g := by omega
  have hBw : B ≤ w.heap.size := Nat.le_of_lt (Nat.lt_of_le_of_lt hcur.1 hlt)
  have hne1 : w.heap.size + 1 ≠ g := by omega
  generalize (w.alloc (.cells #[.int .i64 0, .int .i64 0, .int .i64 0, .int .i64 0] 25)).alloc (.cells #[.int .i64 1, .int .i64 2, .int .i64 4] 2) = W at hc G R T ⊢
  clear hcur
  replace G := grown_drewN G 1
  go_region_with (go_at_call 37
                  refine (l1Below_small B g _ _ ?_ (by omega) (by omega)).mono ?_
                  exact hc
                  rintro e w' ⟨x, rfl, hx0, hx1, hc', hg⟩
                  replace T := tab_grown hg hne1 T
                  replace G := grown_trans G hg
                  replace R := row_grown hg hne R
                  try clear q0 q1 q2 q3 f0 f1 f2 f3
                  obtain ⟨⟨q0, q1, q2, q3⟩, f0, f1, f2, f3⟩ := cell_four R
                  clear hc hg
                  have hc := hc'
                  clear hc')
  all_goals
    go_wp2
    refine bodyPost_ret (v := .agg #[_, _, _, _]) (by simp [results, Try.results35, go_sem, q0, q1, q2, q3]; first | rfl | exact ⟨rfl, rfl, rfl, rfl⟩) rfl ⟨_, _, _, _, rfl, ?_, ?_⟩
    · exact cur_setCell (cur_setCell (cur_setCell (cur_setCell hc _ hBw hne) _ hBw hne) _ hBw hne) _ hBw hne
    · exact grown_setCell (grown_setCell (grown_setCell (grown_setCell G (Nat.le_refl _)) (Nat.le_refl _)) (Nat.le_refl _)) (Nat.le_refl _)

end Go.Proofs.Ytfgelbpmkpleoaa
