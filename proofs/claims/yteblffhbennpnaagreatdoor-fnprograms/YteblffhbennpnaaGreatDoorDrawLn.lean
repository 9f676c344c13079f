
/- The contracts of the draws of a line, as data that is owned: some list of at most three numbers is drawn, in new memory, and nothing that was there turns but the cursor. Conditions: the bytes are at most 2^61. -/
import Derived.Test.YteblffhbennpnaaGreatDoorDrawLine
import Derived.Test.YteblffhbennpnaaGreatDoorBoxes
namespace Go.Proofs.YteblffhbennpnaaGreatDoor
open Go.ChangeShapes Go.WideShapes Go.ChangeAt Go.RowKit
set_option linter.unusedVariables false

/-- Something is drawn: new memory alone, but for the cursor. -/
structure DrewR {α : Type} (R : Rep α) (B g : Nat) (w w' : World) (cs : List Value) (x : α) : Prop where
  own : R.own w' (rng w.heap.size w'.heap.size) cs x
  cur : Cur B w' g
  chg : Chg (fun b => b = g) w w'
theorem small64 {x : Int} (h0 : -1000000 ≤ x) (h1 : x ≤ 1000000) : In64 x := by constructor <;> omega
theorem cur_chg {B g : Nat} {S : Foot} {w w' : World} (h : Cur B w g) (hc : Chg S w w') (hS : ∀ k, S k → B ≤ k ∧ k ≠ g) (hB : B ≤ w.heap.size) : Cur B w' g := by
  obtain ⟨hBg, a, len, cap, zs, i, hh, hi, hblk, hby⟩ := h
  refine ⟨hBg, a, len, cap, zs, i, hh, hi, (hc.block g (Array.getElem?_eq_some_iff.1 hblk).1 (fun hx => (hS g hx).2 rfl)).trans hblk, hby.1, ?_⟩
  rcases hby.2 with h | ⟨b, off, ha, hb, hcc⟩
  · exact .inl h
  · refine .inr ⟨b, off, ha, hb, fun j hj => ?_⟩
    exact (World.cell?_of_block (w := w) (a := ⟨b, off + j, none⟩) (hc.block b (by omega) (fun hx => by have := (hS b hx).1; omega))).trans (hcc j hj)

theorem lit_cellP {w w2 : World} {g n : Nat} {cs : Array Value} {t : TypeId} (hg : (w.alloc (.cells cs t)).grownBy w2 (some g)) (hgs : g < w.heap.size) (x : Int) (h0 : 0 ≤ x) (h1 : x < n)
    (hcs : ∀ j, j < n → ∃ v, cs[j]? = some (.int .i64 v) ∧ -1000000 ≤ v ∧ v ≤ 1000000) : ∃ v, w2.cell? ⟨w.heap.size, x.toNat, none⟩ = some (.int .i64 v) ∧ In64 v := by
  obtain ⟨v, hv, b1, b2⟩ := hcs x.toNat (by omega)
  refine ⟨v, ?_, small64 b1 b2⟩
  refine hg.cell ?_ (by simp; omega)
  rw [cell_of_row _ _ _ _ _ (0, 0) (heap_alloc_new w _)]
  exact hv

set_option maxHeartbeats 1000000 in
theorem l3DrawLine_rep (B g : Nat) (w : World) (hcur : Cur B w g) :
    Calls Tryz.prog 49 #[.pointer (some ⟨g, 0, none⟩)] w fun e w' => ∃ gl x y, e = .returned (.slice (some ⟨gl, 0, none⟩) 2 2) ∧ w.heap.size ≤ gl ∧ (∀ z ∈ [x, y], In64 z) ∧ OwnI w.heap.size w' gl 2 [x, y] ∧ Cur B w' g ∧ w.grownBy w' (some g) := by
  go_enter Tryz.func49, Tryz.ntmps49
  go_wp2_with fail
  refine (l1Below_small B g 30 _ hcur (by omega) (by omega)).mono ?_
  rintro e w1 ⟨x, rfl, hx0, hx1, hc1, hg1⟩
  go_wp2_with fail
  refine (l1Below_small B g 30 _ hc1 (by omega) (by omega)).mono ?_
  rintro e w2 ⟨y, rfl, hy0, hy1, hc2, hg2⟩
  go_wp2
  go_ret
  have G := grown_trans hg1 hg2
  have O := owni_lit w2 #[.int .i64 x, .int .i64 y] [x, y] rfl (by unfold maxLen; simp)
  refine ⟨w2.heap.size, x, y, rfl, G.size, ?_, owni_mono O G.size, cur_alloc hc2 _, grown_trans G (World.grownBy_alloc _ _ _)⟩
  intro z hz
  simp at hz
  rcases hz with rfl | rfl
  · exact small64 (by omega) (by omega)
  · exact small64 (by omega) (by omega)

theorem drew_ints {B g : Nat} {w w' : World} {gl cap : Nat} {xs : List Int} (h64 : ∀ z ∈ xs, In64 z) (h1 : w.heap.size ≤ gl) (h2 : OwnI w.heap.size w' gl cap xs) (h3 : Cur B w' g) (h4 : w.grownBy w' (some g)) : DrewR intsR B g w w' [.slice (some ⟨gl, 0, none⟩) xs.length cap] xs :=
  ⟨own_of h2 ⟨h1, (World.ownsRow.lt h2 gl rfl).2⟩ h64, h3, chg_grown h4 rfl⟩
end Go.Proofs.YteblffhbennpnaaGreatDoor
