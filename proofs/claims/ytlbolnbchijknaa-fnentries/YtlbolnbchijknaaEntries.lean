/- Entrys (numbers and one list) as they lie in memory; the contracts of the laws' own helpers over one and over lists of them: how great, a copy, alike. Conditions: lengths that a machine can hold. -/
import Derived.Test.YtlbolnbchijknaaBoxes
namespace Go.Proofs.Ytlbolnbchijknaa
open Go.ChangeShapes Go.WideShapes Go.ChangeAt Go.RowKit
set_option linter.unusedVariables false

abbrev EntryD := Int × Int × Bool × Int × Int × Int × Int × List Int
abbrev entR : Rep EntryD := prodR intR (prodR intR (prodR boolR (prodR intR (prodR intR (prodR intR (prodR intR intsR))))))
abbrev entM : Mk EntryD := prodM intM (prodM intM (prodM boolM (prodM intM (prodM intM (prodM intM (prodM intM intsM))))))
abbrev entsR : Rep (List EntryD) := slR 26 entR
abbrev entsM : Mk (List EntryD) := slM entM
theorem opens_ent : Opens Try.prog 38 entR :=
  opens_struct Try.underlying38 (by kernel_rfl) (opensF_cons rfl (by kernel_rfl) opens_i64 (opensF_cons rfl (by kernel_rfl) opens_i64 (opensF_cons rfl (by kernel_rfl) (opens_bool Try.underlying4) (opensF_cons rfl (by kernel_rfl) opens_i64 (opensF_cons rfl (by kernel_rfl) opens_i64 (opensF_cons rfl (by kernel_rfl) opens_i64 (opensF_cons rfl (by kernel_rfl) opens_i64 (opensF_one rfl (by kernel_rfl) opens_ints))))))))

theorem ent_rd {w : World} {cs : List Value} {u : EntryD} (h : entR.rd w cs u) :
    ∃ a cap, cs = [.int .i64 u.1, .int .i64 u.2.1, .bool u.2.2.1, .int .i64 u.2.2.2.1, .int .i64 u.2.2.2.2.1, .int .i64 u.2.2.2.2.2.1, .int .i64 u.2.2.2.2.2.2.1, .slice a u.2.2.2.2.2.2.2.length cap] ∧ In64 u.1 ∧ In64 u.2.1 ∧ In64 u.2.2.2.1 ∧ In64 u.2.2.2.2.1 ∧ In64 u.2.2.2.2.2.1 ∧ In64 u.2.2.2.2.2.2.1 ∧ u.2.2.2.2.2.2.2.length ≤ cap ∧ cap ≤ maxLen ∧ SlRd intR w a u.2.2.2.2.2.2.2 := by
  obtain ⟨c0, e0, rfl, ⟨rfl, i0⟩, c1, e1, rfl, ⟨rfl, i1⟩, c2, e2, rfl, rfl, c3, e3, rfl, ⟨rfl, i3⟩, c4, e4, rfl, ⟨rfl, i4⟩, c5, e5, rfl, ⟨rfl, i5⟩, c6, e6, rfl, ⟨rfl, i6⟩, ⟨a, cap, rfl, h1, h2, h3⟩⟩ := h
  exact ⟨a, cap, rfl, i0, i1, i3, i4, i5, i6, h1, h2, h3⟩
theorem ent_own {w : World} {S : Foot} {cs : List Value} {u : EntryD} (h : entR.own w S cs u) :
    ∃ v, cs = [.int .i64 u.1, .int .i64 u.2.1, .bool u.2.2.1, .int .i64 u.2.2.2.1, .int .i64 u.2.2.2.2.1, .int .i64 u.2.2.2.2.2.1, .int .i64 u.2.2.2.2.2.2.1, v] ∧ In64 u.1 ∧ In64 u.2.1 ∧ In64 u.2.2.2.1 ∧ In64 u.2.2.2.2.1 ∧ In64 u.2.2.2.2.2.1 ∧ In64 u.2.2.2.2.2.2.1 ∧ intsR.own w S [v] u.2.2.2.2.2.2.2 := by
  obtain ⟨c0, e0, S0, T0, rfl, ⟨rfl, i0⟩, ⟨c1, e1, S1, T1, rfl, ⟨rfl, i1⟩, ⟨c2, e2, S2, T2, rfl, rfl, ⟨c3, e3, S3, T3, rfl, ⟨rfl, i3⟩, ⟨c4, e4, S4, T4, rfl, ⟨rfl, i4⟩, ⟨c5, e5, S5, T5, rfl, ⟨rfl, i5⟩, ⟨c6, e6, S6, T6, rfl, ⟨rfl, i6⟩, h9, p6, q6, d6⟩, p5, q5, d5⟩, p4, q4, d4⟩, p3, q3, d3⟩, p2, q2, d2⟩, p1, q1, d1⟩, p0, q0, d0⟩ := h
  have hl := intsR.rd_len (intsR.own_rd h9)
  obtain ⟨v, rfl⟩ : ∃ v, e6 = [v] := List.length_eq_one_iff.1 hl
  exact ⟨v, rfl, i0, i1, i3, i4, i5, i6, intsR.own_mono h9 (((((((q6).trans q5).trans q4).trans q3).trans q2).trans q1).trans q0)⟩
theorem own_ent {w : World} {S : Foot} {f0 f1 f3 f4 f5 f6 : Int} {f2 : Bool} {d : List Int} {v : Value} (i0 : In64 f0) (i1 : In64 f1) (i3 : In64 f3) (i4 : In64 f4) (i5 : In64 f5) (i6 : In64 f6) (h : intsR.own w S [v] d) : entR.own w S [.int .i64 f0, .int .i64 f1, .bool f2, .int .i64 f3, .int .i64 f4, .int .i64 f5, .int .i64 f6, v] (f0, f1, f2, f3, f4, f5, f6, d) :=
  ⟨[_], [_, _, _, _, _, _, _], fun _ => False, S, rfl, ⟨rfl, i0⟩, ⟨[_], [_, _, _, _, _, _], fun _ => False, S, rfl, ⟨rfl, i1⟩, ⟨[_], [_, _, _, _, _], fun _ => False, S, rfl, rfl, ⟨[_], [_, _, _, _], fun _ => False, S, rfl, ⟨rfl, i3⟩, ⟨[_], [_, _, _], fun _ => False, S, rfl, ⟨rfl, i4⟩, ⟨[_], [_, _], fun _ => False, S, rfl, ⟨rfl, i5⟩, ⟨[_], [_], fun _ => False, S, rfl, ⟨rfl, i6⟩, h, fun _ h => h.elim, Sub.refl _, fun _ h _ => h⟩, fun _ h => h.elim, Sub.refl _, fun _ h _ => h⟩, fun _ h => h.elim, Sub.refl _, fun _ h _ => h⟩, fun _ h => h.elim, Sub.refl _, fun _ h _ => h⟩, fun _ h => h.elim, Sub.refl _, fun _ h _ => h⟩, fun _ h => h.elim, Sub.refl _, fun _ h _ => h⟩, fun _ h => h.elim, Sub.refl _, fun _ h _ => h⟩
theorem bk_ent (u : EntryD) : entM.bk u = intsM.bk u.2.2.2.2.2.2.2 := by
  show 0 + (0 + (0 + (0 + (0 + (0 + (0 + (intsM.bk u.2.2.2.2.2.2.2))))))) = _
  omega
theorem cells_8 {w : World} {g : Nat} {x0 x1 x2 x3 x4 x5 x6 x7 : Value} {t : TypeId} (h : w.heap[g]? = some (.cells #[x0, x1, x2, x3, x4, x5, x6, x7] t (0, 0))) :
    w.cell? ⟨g, 0, none⟩ = some x0 ∧ w.cell? ⟨g, 1, none⟩ = some x1 ∧ w.cell? ⟨g, 2, none⟩ = some x2 ∧ w.cell? ⟨g, 3, none⟩ = some x3 ∧ w.cell? ⟨g, 4, none⟩ = some x4 ∧ w.cell? ⟨g, 5, none⟩ = some x5 ∧ w.cell? ⟨g, 6, none⟩ = some x6 ∧ w.cell? ⟨g, 7, none⟩ = some x7 :=
  ⟨by rw [cell_of_row w g 0 _ t (0, 0) h]; rfl, by rw [cell_of_row w g 1 _ t (0, 0) h]; rfl, by rw [cell_of_row w g 2 _ t (0, 0) h]; rfl, by rw [cell_of_row w g 3 _ t (0, 0) h]; rfl, by rw [cell_of_row w g 4 _ t (0, 0) h]; rfl, by rw [cell_of_row w g 5 _ t (0, 0) h]; rfl, by rw [cell_of_row w g 6 _ t (0, 0) h]; rfl, by rw [cell_of_row w g 7 _ t (0, 0) h]; rfl⟩
theorem froz_8 {w : World} {g : Nat} {cs : Array Value} {t : TypeId} (h : w.heap[g]? = some (.cells cs t (0, 0))) : w.frozen? ⟨g, 0, none⟩ = false ∧ w.frozen? ⟨g, 1, none⟩ = false ∧ w.frozen? ⟨g, 2, none⟩ = false ∧ w.frozen? ⟨g, 3, none⟩ = false ∧ w.frozen? ⟨g, 4, none⟩ = false ∧ w.frozen? ⟨g, 5, none⟩ = false ∧ w.frozen? ⟨g, 6, none⟩ = false ∧ w.frozen? ⟨g, 7, none⟩ = false :=
  ⟨frozen_of_row w g 0 _ t h, frozen_of_row w g 1 _ t h, frozen_of_row w g 2 _ t h, frozen_of_row w g 3 _ t h, frozen_of_row w g 4 _ t h, frozen_of_row w g 5 _ t h, frozen_of_row w g 6 _ t h, frozen_of_row w g 7 _ t h⟩
theorem put_8 {w : World} {g : Nat} {x0 y0 x1 y1 x2 y2 x3 y3 x4 y4 x5 y5 x6 y6 x7 y7 : Value} {t : TypeId} (h : w.heap[g]? = some (.cells #[x0, x1, x2, x3, x4, x5, x6, x7] t (0, 0))) :
    ((((((((w.setCell ⟨g, 0, none⟩ y0).setCell ⟨g, 1, none⟩ y1).setCell ⟨g, 2, none⟩ y2).setCell ⟨g, 3, none⟩ y3).setCell ⟨g, 4, none⟩ y4).setCell ⟨g, 5, none⟩ y5).setCell ⟨g, 6, none⟩ y6).setCell ⟨g, 7, none⟩ y7).heap[g]? = some (.cells #[y0, y1, y2, y3, y4, y5, y6, y7] t (0, 0)) := by
  have h0 : (w.setCell ⟨g, 0, none⟩ y0).heap[g]? = some (.cells #[y0, x1, x2, x3, x4, x5, x6, x7] t (0, 0)) := heap_setCell_same _ g 0 _ t y0 h
  have h1 : ((w.setCell ⟨g, 0, none⟩ y0).setCell ⟨g, 1, none⟩ y1).heap[g]? = some (.cells #[y0, y1, x2, x3, x4, x5, x6, x7] t (0, 0)) := heap_setCell_same _ g 1 _ t y1 h0
  have h2 : (((w.setCell ⟨g, 0, none⟩ y0).setCell ⟨g, 1, none⟩ y1).setCell ⟨g, 2, none⟩ y2).heap[g]? = some (.cells #[y0, y1, y2, x3, x4, x5, x6, x7] t (0, 0)) := heap_setCell_same _ g 2 _ t y2 h1
  have h3 : ((((w.setCell ⟨g, 0, none⟩ y0).setCell ⟨g, 1, none⟩ y1).setCell ⟨g, 2, none⟩ y2).setCell ⟨g, 3, none⟩ y3).heap[g]? = some (.cells #[y0, y1, y2, y3, x4, x5, x6, x7] t (0, 0)) := heap_setCell_same _ g 3 _ t y3 h2
  have h4 : (((((w.setCell ⟨g, 0, none⟩ y0).setCell ⟨g, 1, none⟩ y1).setCell ⟨g, 2, none⟩ y2).setCell ⟨g, 3, none⟩ y3).setCell ⟨g, 4, none⟩ y4).heap[g]? = some (.cells #[y0, y1, y2, y3, y4, x5, x6, x7] t (0, 0)) := heap_setCell_same _ g 4 _ t y4 h3
  have h5 : ((((((w.setCell ⟨g, 0, none⟩ y0).setCell ⟨g, 1, none⟩ y1).setCell ⟨g, 2, none⟩ y2).setCell ⟨g, 3, none⟩ y3).setCell ⟨g, 4, none⟩ y4).setCell ⟨g, 5, none⟩ y5).heap[g]? = some (.cells #[y0, y1, y2, y3, y4, y5, x6, x7] t (0, 0)) := heap_setCell_same _ g 5 _ t y5 h4
  have h6 : (((((((w.setCell ⟨g, 0, none⟩ y0).setCell ⟨g, 1, none⟩ y1).setCell ⟨g, 2, none⟩ y2).setCell ⟨g, 3, none⟩ y3).setCell ⟨g, 4, none⟩ y4).setCell ⟨g, 5, none⟩ y5).setCell ⟨g, 6, none⟩ y6).heap[g]? = some (.cells #[y0, y1, y2, y3, y4, y5, y6, x7] t (0, 0)) := heap_setCell_same _ g 6 _ t y6 h5
  have h7 : ((((((((w.setCell ⟨g, 0, none⟩ y0).setCell ⟨g, 1, none⟩ y1).setCell ⟨g, 2, none⟩ y2).setCell ⟨g, 3, none⟩ y3).setCell ⟨g, 4, none⟩ y4).setCell ⟨g, 5, none⟩ y5).setCell ⟨g, 6, none⟩ y6).setCell ⟨g, 7, none⟩ y7).heap[g]? = some (.cells #[y0, y1, y2, y3, y4, y5, y6, y7] t (0, 0)) := heap_setCell_same _ g 7 _ t y7 h6
  exact h7

set_option maxHeartbeats 1000000 in
theorem szEntry_rep (f0 f1 f3 f4 f5 f6 : Int) (f2 : Bool) (d : List Int) (a : Option Addr) (cap : Nat) (left : Int) (w : World) (h0 : 0 ≤ left) (h1 : left ≤ 1048576) (hm : d.length ≤ maxLen) :
    Calls Try.prog 22 #[.agg #[.int .i64 f0, .int .i64 f1, .bool f2, .int .i64 f3, .int .i64 f4, .int .i64 f5, .int .i64 f6, .slice a d.length cap], .int .i64 left] w fun e w' => e = .returned (.int .i64 (szI (entM.bk (f0, f1, f2, f3, f4, f5, f6, d)) left)) ∧ Below w.heap.size w w' := by
  rw [bk_ent]
  show Calls Try.prog 22 _ w fun e w' => e = .returned (.int .i64 (szI (intsM.bk d) left)) ∧ Below w.heap.size w w'
  by_cases hl : (intsM.bk d : Int) ≤ left
  · have HS : Hid (szI (intsM.bk d) left = _) := szI_yes hl
    have hl' : ¬ (left - (intsM.bk d : Int) < 0) := by omega
    go_enter Try.func22, Try.ntmps22
    go_wp2_with (go_at_call 50; refine (szInt64S_rep _ d _ _ _ h0 h1 hm).mono ?_; rintro e w' ⟨rfl, rfl⟩; rw [HS.out])
    go_ret
    exact ⟨ret_int HS.out.symm, box_below w _⟩
  · have HS : Hid (szI (intsM.bk d) left = _) := szI_no hl
    go_enter Try.func22, Try.ntmps22
    go_wp2_with (go_at_call 50; refine (szInt64S_rep _ d _ _ _ h0 h1 hm).mono ?_; rintro e w' ⟨rfl, rfl⟩; rw [HS.out])
    go_ret
    exact ⟨ret_int HS.out.symm, box_below w _⟩


set_option maxHeartbeats 2000000 in
theorem toEntry_rep (f0 f1 f3 f4 f5 f6 : Int) (f2 : Bool) (d : List Int) (a : Option Addr) (cap : Nat) (w : World) (i0 : In64 f0) (i1 : In64 f1) (i3 : In64 f3) (i4 : In64 f4) (i5 : In64 f5) (i6 : In64 f6) (h : SlRd intR w a d) (hm : intsM.bk d ≤ 1048576) :
    Calls Try.prog 23 #[.agg #[.int .i64 f0, .int .i64 f1, .bool f2, .int .i64 f3, .int .i64 f4, .int .i64 f5, .int .i64 f6, .slice a d.length cap]] w fun e w' => ∃ av cv, e = .returned (.agg #[.int .i64 f0, .int .i64 f1, .bool f2, .int .i64 f3, .int .i64 f4, .int .i64 f5, .int .i64 f6, .slice av d.length cv]) ∧ MadeR entR w w' [.int .i64 f0, .int .i64 f1, .bool f2, .int .i64 f3, .int .i64 f4, .int .i64 f5, .int .i64 f6, .slice av d.length cv] (f0, f1, f2, f3, f4, f5, f6, d) := by
  have H : Hid (∀ W, Below w.heap.size w W → SlRd intR W a d) := fun W hb => slrd_keep h fun k hk => hb.block k hk
  clear h
  go_enter Try.func23, Try.ntmps23
  go_wp2_with fail
  have B0 : Below w.heap.size w (((w.alloc (.cells #[.int .i64 f0, .int .i64 f1, .bool f2, .int .i64 f3, .int .i64 f4, .int .i64 f5, .int .i64 f6, .slice a d.length cap] 38)).alloc (.cells #[.int .i64 0, .int .i64 0, .bool false, .int .i64 0, .int .i64 0, .int .i64 0, .int .i64 0, .slice none 0 0] 26)).alloc (.cells #[.int .i64 f0, .int .i64 f1, .bool f2, .int .i64 f3, .int .i64 f4, .int .i64 f5, .int .i64 f6, .slice none 0 0] 26)) := (((Below.refl _ w).alloc (Nat.le_refl _) _).alloc (by simp) _).alloc (by simp; omega) _
  have X1 := heap_on (.cells #[.int .i64 f0, .int .i64 f1, .bool f2, .int .i64 f3, .int .i64 f4, .int .i64 f5, .int .i64 f6, .slice none 0 0] 26) (heap_at (w.alloc (.cells #[.int .i64 f0, .int .i64 f1, .bool f2, .int .i64 f3, .int .i64 f4, .int .i64 f5, .int .i64 f6, .slice a d.length cap] 38)) (.cells #[.int .i64 0, .int .i64 0, .bool false, .int .i64 0, .int .i64 0, .int .i64 0, .int .i64 0, .slice none 0 0] 26))
  have X2 := heap_at ((w.alloc (.cells #[.int .i64 f0, .int .i64 f1, .bool f2, .int .i64 f3, .int .i64 f4, .int .i64 f5, .int .i64 f6, .slice a d.length cap] 38)).alloc (.cells #[.int .i64 0, .int .i64 0, .bool false, .int .i64 0, .int .i64 0, .int .i64 0, .int .i64 0, .slice none 0 0] 26)) (.cells #[.int .i64 f0, .int .i64 f1, .bool f2, .int .i64 f3, .int .i64 f4, .int .i64 f5, .int .i64 f6, .slice none 0 0] 26)
  have e3 : (((w.alloc (.cells #[.int .i64 f0, .int .i64 f1, .bool f2, .int .i64 f3, .int .i64 f4, .int .i64 f5, .int .i64 f6, .slice a d.length cap] 38)).alloc (.cells #[.int .i64 0, .int .i64 0, .bool false, .int .i64 0, .int .i64 0, .int .i64 0, .int .i64 0, .slice none 0 0] 26)).alloc (.cells #[.int .i64 f0, .int .i64 f1, .bool f2, .int .i64 f3, .int .i64 f4, .int .i64 f5, .int .i64 f6, .slice none 0 0] 26)).heap.size = w.heap.size + 1 + 1 + 1 := by simp
  have X0 := heap_on (.cells #[.int .i64 f0, .int .i64 f1, .bool f2, .int .i64 f3, .int .i64 f4, .int .i64 f5, .int .i64 f6, .slice none 0 0] 26) (heap_on (.cells #[.int .i64 0, .int .i64 0, .bool false, .int .i64 0, .int .i64 0, .int .i64 0, .int .i64 0, .slice none 0 0] 26) (heap_at w (.cells #[.int .i64 f0, .int .i64 f1, .bool f2, .int .i64 f3, .int .i64 f4, .int .i64 f5, .int .i64 f6, .slice a d.length cap] 38)))
  rw [alloc_len] at X1
  rw [alloc_len, alloc_len] at X2
  generalize ((w.alloc (.cells #[.int .i64 f0, .int .i64 f1, .bool f2, .int .i64 f3, .int .i64 f4, .int .i64 f5, .int .i64 f6, .slice a d.length cap] 38)).alloc (.cells #[.int .i64 0, .int .i64 0, .bool false, .int .i64 0, .int .i64 0, .int .i64 0, .int .i64 0, .slice none 0 0] 26)).alloc (.cells #[.int .i64 f0, .int .i64 f1, .bool f2, .int .i64 f3, .int .i64 f4, .int .i64 f5, .int .i64 f6, .slice none 0 0] 26) = W0 at B0 X0 X1 X2 e3 ⊢
  refine (toInt64S_rep _ d _ _ (H.out _ B0) hm).mono ?_
  rintro e w1 ⟨v, rfl, mm⟩
  obtain ⟨av, cv, rfl⟩ := slown_val mm.1
  have hm2 := mm.2
  have hown := mm.1
  have B1 := below_step B0 hm2
  replace X0 := row_keep hm2 X0
  replace X1 := row_keep hm2 X1
  replace X2 := row_keep hm2 X2
  obtain ⟨q0, q1, q2, q3, q4, q5, q6, q7⟩ := cells_8 X0
  obtain ⟨y0, y1, y2, y3, y4, y5, y6, y7⟩ := cells_8 X2
  obtain ⟨f0y, f1y, f2y, f3y, f4y, f5y, f6y, f7y⟩ := froz_8 X2
  obtain ⟨z0, z1, z2, z3, z4, z5, z6, z7⟩ := cells_8 X1
  obtain ⟨g0, g1, g2, g3, g4, g5, g6, g7⟩ := froz_8 X1
  have HX : Hid _ := And.intro X1 X2
  have HO : Hid _ := hown
  clear X0 X1 X2 hown mm H
  go_wp2
  obtain ⟨X1, X2⟩ := HX.out
  have Y1 := put_8 (y0 := .int .i64 f0) (y1 := .int .i64 f1) (y2 := .bool f2) (y3 := .int .i64 f3) (y4 := .int .i64 f4) (y5 := .int .i64 f5) (y6 := .int .i64 f6) (y7 := .slice av d.length cv) (heap_setC (g := w.heap.size + 1 + 1) (o := 7) (v := .slice av d.length cv) X1 (by omega))
  obtain ⟨r0, r1, r2, r3, r4, r5, r6, r7⟩ := cells_8 Y1
  refine bodyPost_ret (v := .agg #[.int .i64 f0, .int .i64 f1, .bool f2, .int .i64 f3, .int .i64 f4, .int .i64 f5, .int .i64 f6, .slice av d.length cv]) (by simp [results, Try.results23, go_sem, r0, r1, r2, r3, r4, r5, r6, r7]) rfl ⟨av, cv, rfl, own_ent i0 i1 i3 i4 i5 i6 ?_, ?_⟩
  · refine intsR.own_mono (own_setC (own_setC (own_setC (own_setC (own_setC (own_setC (own_setC (own_setC (own_setC (HO.out) (fun h => by have := h.1; omega)) (fun h => by have := h.1; omega)) (fun h => by have := h.1; omega)) (fun h => by have := h.1; omega)) (fun h => by have := h.1; omega)) (fun h => by have := h.1; omega)) (fun h => by have := h.1; omega)) (fun h => by have := h.1; omega)) (fun h => by have := h.1; omega)) ?_
    exact rng_sub (by omega) (by simp)
  · exact below_setC (below_setC (below_setC (below_setC (below_setC (below_setC (below_setC (below_setC (below_setC (B1) (by omega)) (by omega)) (by omega)) (by omega)) (by omega)) (by omega)) (by omega)) (by omega)) (by omega)


set_option maxHeartbeats 2000000 in
theorem eqEntry_rep (f0 f1 f3 f4 f5 f6 : Int) (f2 : Bool) (d : List Int) (a1 a2 : Option Addr) (c1 c2 : Nat) (w : World) (h1 : SlRd intR w a1 d) (h2 : SlRd intR w a2 d) (hm : intsM.bk d ≤ 1152921504606846976) :
    Calls Try.prog 24 #[.agg #[.int .i64 f0, .int .i64 f1, .bool f2, .int .i64 f3, .int .i64 f4, .int .i64 f5, .int .i64 f6, .slice a1 d.length c1], .agg #[.int .i64 f0, .int .i64 f1, .bool f2, .int .i64 f3, .int .i64 f4, .int .i64 f5, .int .i64 f6, .slice a2 d.length c2]] w fun e w' => e = .returned (.bool true) ∧ Below w.heap.size w w' := by
  have HB : Hid (∀ o o', Below w.heap.size w ((w.alloc o).alloc o')) := fun o o' => below_step (box_below w o) (box_below _ o')
  have H1 : Hid (∀ W, Below w.heap.size w W → SlRd intR W a1 d) := fun W hb => slrd_keep h1 fun k hk => hb.block k hk
  have H2 : Hid (∀ W, Below w.heap.size w W → SlRd intR W a2 d) := fun W hb => slrd_keep h2 fun k hk => hb.block k hk
  clear h1 h2
  go_enter Try.func24, Try.ntmps24
  go_wp2_with fail
  refine (eqInt64S_rep a1 a2 d c1 c2 _ (H1.out _ (HB.out _ _)) (H2.out _ (HB.out _ _)) hm).mono ?_
  rintro e w' ⟨rfl, n, rfl⟩
  go_wp2
  go_ret
  exact ⟨rfl, be_drewN (HB.out _ _) n⟩

theorem ents_rd {w : World} {S : Foot} {a : Option Addr} {cap : Nat} {xs : List EntryD} (h : entsR.own w S [.slice a xs.length cap] xs) : SlRd entR w a xs := by
  obtain ⟨a', cap', e, h1, h2, h3⟩ := entsR.own_rd h
  simp only [List.cons.injEq, Value.slice.injEq, and_true, true_and] at e
  rw [e.1]
  exact h3
end Go.Proofs.Ytlbolnbchijknaa
