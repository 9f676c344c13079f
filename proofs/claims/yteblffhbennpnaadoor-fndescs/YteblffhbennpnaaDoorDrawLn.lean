
/- The contracts of the draws of a line, as data that is owned: some list of at most three numbers is drawn, in new memory, and nothing that was there turns but the cursor. Conditions: the bytes are at most 2^61. -/
import Derived.Test.YteblffhbennpnaaDoorDrawLine
import Derived.Test.YteblffhbennpnaaDoorBoxes
namespace Go.Proofs.YteblffhbennpnaaDoor
open Go.ChangeShapes Go.WideShapes Go.ChangeAt Go.RowKit
set_option linter.unusedVariables false

/-- Something is drawn: new memory alone, but for the cursor. -/
structure DrewR {α : Type} (R : Rep α) (B g : Nat) (w w' : World) (cs : List Value) (x : α) : Prop where
  own : R.own w' (rng w.heap.size w'.heap.size) cs x
  cur : Cur B w' g
  chg : Chg (fun b => b = g) w w'
theorem small64 {x : Int} (h0 : -1000000 ≤ x) (h1 : x ≤ 1000000) : In64 x := by constructor <;> omega
theorem cur_chg {B g : Nat} {S : Foot} {w w' : World} (h : Cur B w g) (hc : Chg S w w') (hS : ∀ k, S k → B ≤ k ∧ k ≠ g) (hB : B ≤ w.heap.size) : Cur B w' g := by
  obtain ⟨hBg, a, len, cap, zs, i, hh, hi, hblk, hby⟩ := h
  refine ⟨hBg, a, len, cap, zs, i, hh, hi, (hc.block g (Array.getElem?_eq_some_iff.1 hblk).1 (fun hx => (hS g hx).2 rfl)).trans hblk, hby.1, ?_⟩
  rcases hby.2 with h | ⟨b, off, ha, hb, hcc⟩
  · exact .inl h
  · refine .inr ⟨b, off, ha, hb, fun j hj => ?_⟩
    exact (World.cell?_of_block (w := w) (a := ⟨b, off + j, none⟩) (hc.block b (by omega) (fun hx => by have := (hS b hx).1; omega))).trans (hcc j hj)

theorem lit_cellP {w w2 : World} {g n : Nat} {cs : Array Value} {t : TypeId} (hg : (w.alloc (.cells cs t)).grownBy w2 (some g)) (hgs : g < w.heap.size) (x : Int) (h0 : 0 ≤ x) (h1 : x < n)
    (hcs : ∀ j, j < n → ∃ v, cs[j]? = some (.int .i64 v) ∧ -1000000 ≤ v ∧ v ≤ 1000000) : ∃ v, w2.cell? ⟨w.heap.size, x.toNat, none⟩ = some (.int .i64 v) ∧ In64 v := by
  obtain ⟨v, hv, b1, b2⟩ := hcs x.toNat (by omega)
  refine ⟨v, ?_, small64 b1 b2⟩
  refine hg.cell ?_ (by simp; omega)
  rw [cell_of_row _ _ _ _ _ (0, 0) (heap_alloc_new w _)]
  exact hv

set_option maxHeartbeats 1000000 in
theorem l3DrawLine_rep (B g : Nat) (w : World) (hcur : Cur B w g) :
    Calls Tryd.prog 49 #[.pointer (some ⟨g, 0, none⟩)] w fun e w' => ∃ gl x y, e = .returned (.slice (some ⟨gl, 0, none⟩) 2 2) ∧ w.heap.size ≤ gl ∧ (∀ z ∈ [x, y], In64 z) ∧ OwnI w.heap.size w' gl 2 [x, y] ∧ Cur B w' g ∧ w.grownBy w' (some g) := by
  go_enter Tryd.func49, Tryd.ntmps49
  go_wp2_with fail
  refine (l1Below_small B g 30 _ hcur (by omega) (by omega)).mono ?_
  rintro e w1 ⟨x, rfl, hx0, hx1, hc1, hg1⟩
  go_wp2_with fail
  refine (l1Below_small B g 30 _ hc1 (by omega) (by omega)).mono ?_
  rintro e w2 ⟨y, rfl, hy0, hy1, hc2, hg2⟩
  go_wp2
  go_ret
  have G := grown_trans hg1 hg2
  have O := owni_lit w2 #[.int .i64 x, .int .i64 y] [x, y] rfl (by unfold maxLen; simp)
  refine ⟨w2.heap.size, x, y, rfl, G.size, ?_, owni_mono O G.size, cur_alloc hc2 _, grown_trans G (World.grownBy_alloc _ _ _)⟩
  intro z hz
  simp at hz
  rcases hz with rfl | rfl
  · exact small64 (by omega) (by omega)
  · exact small64 (by omega) (by omega)

set_option maxHeartbeats 1000000 in
theorem l3DrawAny_rep (B g : Nat) (w : World) (hcur : Cur B w g) :
    Calls Tryd.prog 30 #[.pointer (some ⟨g, 0, none⟩)] w fun e w' => ∃ v xs, e = .returned v ∧ xs.length ≤ 3 ∧ (∀ z ∈ xs, In64 z) ∧ Drew B g w w' v xs := by
  have hgw := cur_lt hcur
  have z64 : In64 0 := small64 (by omega) (by omega)
  go_enter Tryd.func30, Tryd.ntmps30
  go_wp2_with fail
  refine (l3DrawLine_rep B g _ hcur).mono ?_
  rintro e w1 ⟨gl, x, y, rfl, l1, hxy, o1, hc1, hg1⟩
  have hX : Hid (In64 x ∧ In64 y) := ⟨hxy x (by simp), hxy y (by simp)⟩
  have HZ : Hid (In64 0) := z64
  clear hxy z64
  have hne : gl ≠ g := by omega
  go_wp2_with fail
  refine (l1Once_small B g 8 _ hc1 (by omega) (by omega)).mono ?_
  rintro e w2 ⟨b, rfl, hc2, hg2⟩
  replace o1 := owni_grown o1 hg2 hne
  replace hg1 := grown_trans hg1 hg2
  clear hg2 hc1
  cases b
  · go_wp2
    go_ret
    exact ⟨_, [x, y], rfl, by simp, by simp [hX.out.1, hX.out.2], gl, 2, rfl, l1, o1, hc2, hg1⟩
  · go_wp2_with fail
    refine (l1Below_small B g 3 _ hc2 (by omega) (by omega)).mono ?_
    rintro e w3 ⟨k, rfl, hk0, hk1, hc3, hg3⟩
    replace o1 := owni_grown o1 hg3 hne
    replace hg1 := grown_trans hg1 hg3
    clear hg3 hc2
    obtain rfl | rfl | rfl : k = 0 ∨ k = 1 ∨ k = 2 := by omega
    · have hgs := cur_lt hc3
      go_wp2_with fail
      refine (l1Below_small B g _ _ (cur_alloc hc3 _) (by omega) (by omega)).mono ?_
      rintro e w4 ⟨k, rfl, hk0, hk1, hc4, hg4⟩
      obtain ⟨v, hv, hv64⟩ := lit_cellP (n := 3) hg4 hgs k hk0 hk1 (by
        intro j hj
        obtain rfl | rfl | rfl : j = 0 ∨ j = 1 ∨ j = 2 := by omega
        all_goals exact ⟨_, rfl, by decide, by decide⟩)
      have HV : Hid (In64 v) := hv64
      have o4 : OwnI w.heap.size w4 gl 2 [x, y] := owni_grown (owni_alloc o1 _) hg4 hne
      have G4 := grown_trans (grown_trans hg1 (World.grownBy_alloc _ _ _)) hg4
      have c0 : w4.cell? ⟨gl, 0, none⟩ = some (.int .i64 x) := by rw [World.ownsRow.cellAt o4 0 (by simp)]; rfl
      have f0 : w4.frozen? ⟨gl, 0, none⟩ = false := World.ownsRow.frozenAt o4 0
      have S := World.ownsRow.stored o4 0 (.int .i64 v)
      have HD : Hid (OwnI w.heap.size (w4.setCell ⟨gl, 0, none⟩ (.int .i64 v)) gl 2 [v, y] ∧ Cur B (w4.setCell ⟨gl, 0, none⟩ (.int .i64 v)) g ∧ w.grownBy (w4.setCell ⟨gl, 0, none⟩ (.int .i64 v)) (some g)) :=
        ⟨S.1, cur_grown hc4 S.2 (by have := hcur.1; omega) hne, grown_new G4 S.2 l1⟩
      clear S o4 G4 hc4 hg4 o1 hg1 hc3 hv64
      go_wp2
      go_ret
      exact ⟨_, [v, y], rfl, by simp, by simp [hX.out.2, HV.out], gl, 2, rfl, l1, HD.out.1, HD.out.2.1, HD.out.2.2⟩
    · go_wp2_with fail
      go_ret
      exact ⟨_, [x], rfl, by simp, by simp [hX.out.1], gl, 2, rfl, l1, owni_one o1, hc3, hg1⟩
    · obtain ⟨i0, hi, hz0, hz1, hz2⟩ := info_parts Tryd.infoI
      go_wp2_with (at_builtin; refine wpList_append_own _ rfl _ _ 36 rfl w.heap.size 2 i0 (.int .i64 0) 1 8 Tryd.underlying36 hi hz0 hz1 hz2 rfl (by decide) _ _ _ rfl (o1.alloc _) ⟨_, 0, none⟩ 1 1 [.int .i64 0] rfl rfl ?c1 ?c2 ?c3 ?c4 ?c5 ?_)
      case c1 =>
        intro j u hj
        match j, hj with
        | 0, hj => simp at hj; subst hj; simp [Addr.add]
      case c2 => intro u hu; simp at hu; subst hu; rfl
      case c3 => unfold maxLen; simp
      case c4 => simp
      case c5 => have := hg1.size; simp; omega
      · intro v' w4 hown hgr hnil
        have HD : Hid (∃ gn cn, v' = .slice (some ⟨gn, 0, none⟩) 3 cn ∧ w.heap.size ≤ gn ∧ OwnI w.heap.size w4 gn cn [x, y, 0] ∧ Cur B w4 g ∧ w.grownBy w4 (some g)) := by
          have hgr' : (w3.alloc (.cells #[.int .i64 0] 2)).grownBy w4 (some gl) := hgr
          rcases hown.2 with ⟨h', _⟩ | ⟨gn, cn, cur, rfl, hb, hh, rest⟩
          · exact absurd h' hnil
          · exact ⟨gn, cn, rfl, hb, hown, cur_grown (cur_alloc hc3 _) hgr' (by have := hcur.1; omega) (by omega), grown_new (grown_trans hg1 (World.grownBy_alloc _ _ _)) hgr' l1⟩
        clear hown hgr hnil
        go_wp2
        go_ret
        obtain ⟨gn, cn, rfl, h1, h2, h3, h4⟩ := HD.out
        exact ⟨_, [x, y, 0], rfl, by simp, by simp [hX.out.1, hX.out.2, HZ.out], gn, cn, rfl, h1, h2, h3, h4⟩
theorem drew_ints {B g : Nat} {w w' : World} {gl cap : Nat} {xs : List Int} (h64 : ∀ z ∈ xs, In64 z) (h1 : w.heap.size ≤ gl) (h2 : OwnI w.heap.size w' gl cap xs) (h3 : Cur B w' g) (h4 : w.grownBy w' (some g)) : DrewR intsR B g w w' [.slice (some ⟨gl, 0, none⟩) xs.length cap] xs :=
  ⟨own_of h2 ⟨h1, (World.ownsRow.lt h2 gl rfl).2⟩ h64, h3, chg_grown h4 rfl⟩
end Go.Proofs.YteblffhbennpnaaDoor
