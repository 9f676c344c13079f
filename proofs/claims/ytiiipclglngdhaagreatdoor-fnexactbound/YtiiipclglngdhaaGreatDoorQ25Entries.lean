import Derived.Test.YtiiipclglngdhaaGreatDoorQ00Box
import Derived.Test.YtiiipclglngdhaaGreatDoorQ03Bits
namespace Go.Proofs.YtiiipclglngdhaaGreatDoor
set_option maxHeartbeats 2000000
open Go.ChangeShapes Go.WideShapes Go.ChangeAt Go.RowKit
set_option linter.unusedVariables false
abbrev EntryD := Int × Int × Bool × Int × Int × Int × Int × List Int
abbrev entR : Rep EntryD := prodR intR (prodR intR (prodR boolR (prodR intR (prodR intR (prodR intR (prodR intR intsR))))))
abbrev entM : Mk EntryD := prodM intM (prodM intM (prodM boolM (prodM intM (prodM intM (prodM intM (prodM intM intsM))))))
abbrev entsR : Rep (List EntryD) := slR 113 entR
abbrev entsM : Mk (List EntryD) := slM entM
theorem opens_ent : Opens Tryz.prog 140 entR :=
 opens_struct Tryz.underlying140 (by kernel_rfl) (opensF_cons rfl (by kernel_rfl) opens_i64 (opensF_cons rfl (by kernel_rfl) opens_i64 (opensF_cons rfl (by kernel_rfl) (opens_bool Tryz.underlying4) (opensF_cons rfl (by kernel_rfl) opens_i64 (opensF_cons rfl (by kernel_rfl) opens_i64 (opensF_cons rfl (by kernel_rfl) opens_i64 (opensF_cons rfl (by kernel_rfl) opens_i64 (opensF_one rfl (by kernel_rfl) opens_ints))))))))
theorem opens_ents : Opens Tryz.prog 25 entsR := opens_slice Tryz.underlying25 (by kernel_rfl) (by decide) opens_ent
theorem ent_rd {w : World} {cs : List Value} {u : EntryD} (h : entR.rd w cs u) :
    ∃ a cap, cs = [.int .i64 u.1, .int .i64 u.2.1, .bool u.2.2.1, .int .i64 u.2.2.2.1, .int .i64 u.2.2.2.2.1, .int .i64 u.2.2.2.2.2.1, .int .i64 u.2.2.2.2.2.2.1, .slice a u.2.2.2.2.2.2.2.length cap] ∧ In64 u.1 ∧ In64 u.2.1 ∧ In64 u.2.2.2.1 ∧ In64 u.2.2.2.2.1 ∧ In64 u.2.2.2.2.2.1 ∧ In64 u.2.2.2.2.2.2.1 ∧ u.2.2.2.2.2.2.2.length ≤ cap ∧ cap ≤ maxLen ∧ SlRd intR w a u.2.2.2.2.2.2.2 := by
 obtain ⟨c0, e0, rfl, ⟨rfl, i0⟩, c1, e1, rfl, ⟨rfl, i1⟩, c2, e2, rfl, rfl, c3, e3, rfl, ⟨rfl, i3⟩, c4, e4, rfl, ⟨rfl, i4⟩, c5, e5, rfl, ⟨rfl, i5⟩, c6, e6, rfl, ⟨rfl, i6⟩, ⟨a, cap, rfl, h1, h2, h3⟩⟩ := h
 exact ⟨a, cap, rfl, i0, i1, i3, i4, i5, i6, h1, h2, h3⟩
theorem own_ent {w : World} {S : Foot} {f0 f1 f3 f4 f5 f6 : Int} {f2 : Bool} {d : List Int} {v : Value} (i0 : In64 f0) (i1 : In64 f1) (i3 : In64 f3) (i4 : In64 f4) (i5 : In64 f5) (i6 : In64 f6) (h : intsR.own w S [v] d) : entR.own w S [.int .i64 f0, .int .i64 f1, .bool f2, .int .i64 f3, .int .i64 f4, .int .i64 f5, .int .i64 f6, v] (f0, f1, f2, f3, f4, f5, f6, d) :=
 ⟨[_], [_, _, _, _, _, _, _], fun _ => False, S, rfl, ⟨rfl, i0⟩, ⟨[_], [_, _, _, _, _, _], fun _ => False, S, rfl, ⟨rfl, i1⟩, ⟨[_], [_, _, _, _, _], fun _ => False, S, rfl, rfl, ⟨[_], [_, _, _, _], fun _ => False, S, rfl, ⟨rfl, i3⟩, ⟨[_], [_, _, _], fun _ => False, S, rfl, ⟨rfl, i4⟩, ⟨[_], [_, _], fun _ => False, S, rfl, ⟨rfl, i5⟩, ⟨[_], [_], fun _ => False, S, rfl, ⟨rfl, i6⟩, h, fun _ h => h.elim, Sub.refl _, fun _ h _ => h⟩, fun _ h => h.elim, Sub.refl _, fun _ h _ => h⟩, fun _ h => h.elim, Sub.refl _, fun _ h _ => h⟩, fun _ h => h.elim, Sub.refl _, fun _ h _ => h⟩, fun _ h => h.elim, Sub.refl _, fun _ h _ => h⟩, fun _ h => h.elim, Sub.refl _, fun _ h _ => h⟩, fun _ h => h.elim, Sub.refl _, fun _ h _ => h⟩
theorem bk_ent (u : EntryD) : entM.bk u = intsM.bk u.2.2.2.2.2.2.2 := by
 show 0 + (0 + (0 + (0 + (0 + (0 + (0 + (intsM.bk u.2.2.2.2.2.2.2))))))) = _
 omega
theorem cells_8 {w : World} {g : Nat} {x0 x1 x2 x3 x4 x5 x6 x7 : Value} {t : TypeId} (h : w.heap[g]? = some (.cells #[x0, x1, x2, x3, x4, x5, x6, x7] t (0, 0))) :
    w.cell? ⟨g, 0, none⟩ = some x0 ∧ w.cell? ⟨g, 1, none⟩ = some x1 ∧ w.cell? ⟨g, 2, none⟩ = some x2 ∧ w.cell? ⟨g, 3, none⟩ = some x3 ∧ w.cell? ⟨g, 4, none⟩ = some x4 ∧ w.cell? ⟨g, 5, none⟩ = some x5 ∧ w.cell? ⟨g, 6, none⟩ = some x6 ∧ w.cell? ⟨g, 7, none⟩ = some x7 :=
 ⟨by rw [cell_of_row w g 0 _ t (0, 0) h]; rfl, by rw [cell_of_row w g 1 _ t (0, 0) h]; rfl, by rw [cell_of_row w g 2 _ t (0, 0) h]; rfl, by rw [cell_of_row w g 3 _ t (0, 0) h]; rfl, by rw [cell_of_row w g 4 _ t (0, 0) h]; rfl, by rw [cell_of_row w g 5 _ t (0, 0) h]; rfl, by rw [cell_of_row w g 6 _ t (0, 0) h]; rfl, by rw [cell_of_row w g 7 _ t (0, 0) h]; rfl⟩
theorem froz_8 {w : World} {g : Nat} {cs : Array Value} {t : TypeId} (h : w.heap[g]? = some (.cells cs t (0, 0))) : w.frozen? ⟨g, 0, none⟩ = false ∧ w.frozen? ⟨g, 1, none⟩ = false ∧ w.frozen? ⟨g, 2, none⟩ = false ∧ w.frozen? ⟨g, 3, none⟩ = false ∧ w.frozen? ⟨g, 4, none⟩ = false ∧ w.frozen? ⟨g, 5, none⟩ = false ∧ w.frozen? ⟨g, 6, none⟩ = false ∧ w.frozen? ⟨g, 7, none⟩ = false :=
 ⟨frozen_of_row w g 0 _ t h, frozen_of_row w g 1 _ t h, frozen_of_row w g 2 _ t h, frozen_of_row w g 3 _ t h, frozen_of_row w g 4 _ t h, frozen_of_row w g 5 _ t h, frozen_of_row w g 6 _ t h, frozen_of_row w g 7 _ t h⟩
theorem put_8 {w : World} {g : Nat} {x0 y0 x1 y1 x2 y2 x3 y3 x4 y4 x5 y5 x6 y6 x7 y7 : Value} {t : TypeId} (h : w.heap[g]? = some (.cells #[x0, x1, x2, x3, x4, x5, x6, x7] t (0, 0))) :
    ((((((((w.setCell ⟨g, 0, none⟩ y0).setCell ⟨g, 1, none⟩ y1).setCell ⟨g, 2, none⟩ y2).setCell ⟨g, 3, none⟩ y3).setCell ⟨g, 4, none⟩ y4).setCell ⟨g, 5, none⟩ y5).setCell ⟨g, 6, none⟩ y6).setCell ⟨g, 7, none⟩ y7).heap[g]? = some (.cells #[y0, y1, y2, y3, y4, y5, y6, y7] t (0, 0)) := by
 have h0 : (w.setCell ⟨g, 0, none⟩ y0).heap[g]? = some (.cells #[y0, x1, x2, x3, x4, x5, x6, x7] t (0, 0)) := heap_setCell_same _ g 0 _ t y0 h
 have h1 : ((w.setCell ⟨g, 0, none⟩ y0).setCell ⟨g, 1, none⟩ y1).heap[g]? = some (.cells #[y0, y1, x2, x3, x4, x5, x6, x7] t (0, 0)) := heap_setCell_same _ g 1 _ t y1 h0
 have h2 : (((w.setCell ⟨g, 0, none⟩ y0).setCell ⟨g, 1, none⟩ y1).setCell ⟨g, 2, none⟩ y2).heap[g]? = some (.cells #[y0, y1, y2, x3, x4, x5, x6, x7] t (0, 0)) := heap_setCell_same _ g 2 _ t y2 h1
 have h3 : ((((w.setCell ⟨g, 0, none⟩ y0).setCell ⟨g, 1, none⟩ y1).setCell ⟨g, 2, none⟩ y2).setCell ⟨g, 3, none⟩ y3).heap[g]? = some (.cells #[y0, y1, y2, y3, x4, x5, x6, x7] t (0, 0)) := heap_setCell_same _ g 3 _ t y3 h2
 have h4 : (((((w.setCell ⟨g, 0, none⟩ y0).setCell ⟨g, 1, none⟩ y1).setCell ⟨g, 2, none⟩ y2).setCell ⟨g, 3, none⟩ y3).setCell ⟨g, 4, none⟩ y4).heap[g]? = some (.cells #[y0, y1, y2, y3, y4, x5, x6, x7] t (0, 0)) := heap_setCell_same _ g 4 _ t y4 h3
 have h5 : ((((((w.setCell ⟨g, 0, none⟩ y0).setCell ⟨g, 1, none⟩ y1).setCell ⟨g, 2, none⟩ y2).setCell ⟨g, 3, none⟩ y3).setCell ⟨g, 4, none⟩ y4).setCell ⟨g, 5, none⟩ y5).heap[g]? = some (.cells #[y0, y1, y2, y3, y4, y5, x6, x7] t (0, 0)) := heap_setCell_same _ g 5 _ t y5 h4
 have h6 : (((((((w.setCell ⟨g, 0, none⟩ y0).setCell ⟨g, 1, none⟩ y1).setCell ⟨g, 2, none⟩ y2).setCell ⟨g, 3, none⟩ y3).setCell ⟨g, 4, none⟩ y4).setCell ⟨g, 5, none⟩ y5).setCell ⟨g, 6, none⟩ y6).heap[g]? = some (.cells #[y0, y1, y2, y3, y4, y5, y6, x7] t (0, 0)) := heap_setCell_same _ g 6 _ t y6 h5
 have h7 : ((((((((w.setCell ⟨g, 0, none⟩ y0).setCell ⟨g, 1, none⟩ y1).setCell ⟨g, 2, none⟩ y2).setCell ⟨g, 3, none⟩ y3).setCell ⟨g, 4, none⟩ y4).setCell ⟨g, 5, none⟩ y5).setCell ⟨g, 6, none⟩ y6).setCell ⟨g, 7, none⟩ y7).heap[g]? = some (.cells #[y0, y1, y2, y3, y4, y5, y6, y7] t (0, 0)) := heap_setCell_same _ g 7 _ t y7 h6
 exact h7
theorem szEntry_rep (f0 f1 f3 f4 f5 f6 : Int) (f2 : Bool) (d : List Int) (a : Option Addr) (cap : Nat) (left : Int) (w : World) (h0 : 0 ≤ left) (h1 : left ≤ 1048576) (hm : d.length ≤ maxLen) :
    Calls Tryz.prog 73 #[.agg #[.int .i64 f0, .int .i64 f1, .bool f2, .int .i64 f3, .int .i64 f4, .int .i64 f5, .int .i64 f6, .slice a d.length cap], .int .i64 left] w fun e w' => e = .returned (.int .i64 (szI (entM.bk (f0, f1, f2, f3, f4, f5, f6, d)) left)) ∧ Below w.heap.size w w' := by
 rw [bk_ent]
 show Calls Tryz.prog 73 _ w fun e w' => e = .returned (.int .i64 (szI (intsM.bk d) left)) ∧ Below w.heap.size w w'
 by_cases hl : (intsM.bk d : Int) ≤ left
 ·have HS : Hid (szI (intsM.bk d) left = _) := szI_yes hl
  have hl' : ¬ (left - (intsM.bk d : Int) < 0) := by omega
  go_enter Tryz.func73, Tryz.ntmps73
  go_wp2_with (go_at_call 72; refine (szInt64S_rep _ d _ _ _ h0 h1 hm).mono ?_; rintro e w' ⟨rfl, rfl⟩; rw [HS.out])
  go_ret
  exact ⟨ret_int HS.out.symm, box_below w _⟩
 ·have HS : Hid (szI (intsM.bk d) left = _) := szI_no hl
  go_enter Tryz.func73, Tryz.ntmps73
  go_wp2_with (go_at_call 72; refine (szInt64S_rep _ d _ _ _ h0 h1 hm).mono ?_; rintro e w' ⟨rfl, rfl⟩; rw [HS.out])
  go_ret
  exact ⟨ret_int HS.out.symm, box_below w _⟩
theorem szEntryS_rep (a : Option Addr) (xs : List EntryD) (cap : Nat) (left : Int) (w : World) (h : SlRd entR w a xs) (h0 : 0 ≤ left) (h1 : left ≤ 1048576) (hm : xs.length ≤ maxLen) :
    Calls Tryz.prog 36 #[.slice a xs.length cap, .int .i64 left] w fun e w' => e = .returned (.int .i64 (szI ((slM entM).bk xs) left)) ∧ Below w.heap.size w w' := by
 have hm' : xs.length ≤ 9223372036854775807 := hm
 have hbk : (slM entM).bk xs = xs.length + sumbk entM xs := rfl
 clear hm
 by_cases hl : (xs.length : Int) ≤ left
 ·have hl' : ¬ (left - (xs.length : Int) < 0) := by omega
  have HB : Hid _ := hbk
  have H0 : Hid (SlRd entR w a xs) := h
  clear hbk h
  go_enter Tryz.func36, Tryz.ntmps36
  go_wp2
  go_loopw [1, 5] (fun q i wr => ∃ k : Nat, k ≤ xs.length ∧ i = .int .i64 k ∧ (sumbk entM (xs.take k) : Int) + xs.length ≤ left ∧ q = .int .i64 (left - (xs.length : Int) - sumbk entM (xs.take k)) ∧ Below w.heap.size w wr) (fun _ i _ => xs.length - (intOf i).toNat)
  case atStart => exact ⟨0, Nat.zero_le _, rfl, by simp [sumbk]; omega, by simp [sumbk], Below.refl _ _⟩
  case round =>
   obtain ⟨k, hk, rfl, ht, rfl, BB⟩ := hrel
   by_cases hlt : k < xs.length
   ·have hlt' : (k : Int) < (xs.length : Int) := by omega
    obtain ⟨x, hx⟩ : ∃ x, xs[k]? = some x := ⟨_, List.getElem?_eq_getElem hlt⟩
    have H2 := slrd_keep H0.out fun k hk => BB.block k hk
    obtain ⟨b, off, cs, rfl, hrdx, hcell⟩ := slrd_at H2 hx
    obtain ⟨ad, cpw, rfl, -, -, -, -, -, -, hd1, hd2, hd3⟩ := ent_rd hrdx
    have x0 := hcell 0 _ rfl
    have x1 := hcell 1 _ rfl
    have x2 := hcell 2 _ rfl
    have x3 := hcell 3 _ rfl
    have x4 := hcell 4 _ rfl
    have x5 := hcell 5 _ rfl
    have x6 := hcell 6 _ rfl
    have x7 := hcell 7 _ rfl
    rw [show off + (k * entR.size + 0) = off + k * 8 from rfl] at x0
    rw [show off + (k * entR.size + 1) = off + k * 8 + 1 from rfl] at x1
    rw [show off + (k * entR.size + 2) = off + k * 8 + 2 from rfl] at x2
    rw [show off + (k * entR.size + 3) = off + k * 8 + 3 from rfl] at x3
    rw [show off + (k * entR.size + 4) = off + k * 8 + 4 from rfl] at x4
    rw [show off + (k * entR.size + 5) = off + k * 8 + 5 from rfl] at x5
    rw [show off + (k * entR.size + 6) = off + k * 8 + 6 from rfl] at x6
    rw [show off + (k * entR.size + 7) = off + k * 8 + 7 from rfl] at x7
    have HX : Hid (x.2.2.2.2.2.2.2.length ≤ maxLen) := Nat.le_trans hd1 hd2
    clear hcell hrdx hd1 hd2 hd3
    have HT : Hid _ := sumbk_step (M := entM) hx
    have hxs := sumbk_get (M := entM) hx
    clear hx H2
    generalize sumbk entM (xs.take k) = T at ht HT hxs ⊢
    by_cases hf : (((entM).bk x : Nat) : Int) ≤ left - (xs.length : Int) - (T : Int)
    ·have hf' : ¬ (left - (xs.length : Int) - (T : Int) - (((entM).bk x : Nat) : Int) < 0) := by omega
     have HS : Hid (szI ((entM).bk x) (left - (xs.length : Int) - (T : Int)) = _) := szI_yes hf
     go_wp2_with (go_at_call 73; refine (szEntry_rep x.1 x.2.1 x.2.2.2.1 x.2.2.2.2.1 x.2.2.2.2.2.1 x.2.2.2.2.2.2.1 x.2.2.1 x.2.2.2.2.2.2.2 _ _ _ _ (by omega) (by omega) HX.out).mono ?_; rintro e w' ⟨rfl, bb⟩; replace BB := below_step BB bb; clear bb; rw [HS.out])
     go_roundw
     case rel => exact ⟨k + 1, by omega, by go_num, by have := HT.out; omega, by rw [HT.out]; go_num, BB⟩
     case measure => simp [intOf]; omega
    ·have HS : Hid (szI ((entM).bk x) (left - (xs.length : Int) - (T : Int)) = _) := szI_no hf
     have HN : Hid (szI ((slM entM).bk xs) left = -1) := by unfold Hid; rw [HB.out]; exact szI_no (by omega)
     go_wp2_with (go_at_call 73; refine (szEntry_rep x.1 x.2.1 x.2.2.2.1 x.2.2.2.2.1 x.2.2.2.2.2.1 x.2.2.2.2.2.2.1 x.2.2.1 x.2.2.2.2.2.2.2 _ _ _ _ (by omega) (by omega) HX.out).mono ?_; rintro e w' ⟨rfl, bb⟩; replace BB := below_step BB bb; clear bb; rw [HS.out])
     go_ret
     exact ⟨ret_int HN.out.symm, BB⟩
   ·have hkl : k = xs.length := by omega
    subst hkl
    rw [List.take_length] at ht ⊢
    have HN : Hid (szI ((slM entM).bk xs) left = left - (xs.length : Int) - (sumbk entM xs : Int)) := by unfold Hid; rw [HB.out, szI_yes (by omega)]; omega
    go_wp2
    go_ret
    exact ⟨ret_int HN.out.symm, BB⟩
 ·have hl' : left - (xs.length : Int) < 0 := by omega
  rw [szI_no (by omega)]
  clear hbk h
  go_enter Tryz.func36, Tryz.ntmps36
  go_wp2
  go_ret
  exact ⟨rfl, Below.refl _ _⟩
theorem toEntry_rep (f0 f1 f3 f4 f5 f6 : Int) (f2 : Bool) (d : List Int) (a : Option Addr) (cap : Nat) (w : World) (i0 : In64 f0) (i1 : In64 f1) (i3 : In64 f3) (i4 : In64 f4) (i5 : In64 f5) (i6 : In64 f6) (h : SlRd intR w a d) (hm : intsM.bk d ≤ 1048576) :
    Calls Tryz.prog 92 #[.agg #[.int .i64 f0, .int .i64 f1, .bool f2, .int .i64 f3, .int .i64 f4, .int .i64 f5, .int .i64 f6, .slice a d.length cap]] w fun e w' => ∃ av cv, e = .returned (.agg #[.int .i64 f0, .int .i64 f1, .bool f2, .int .i64 f3, .int .i64 f4, .int .i64 f5, .int .i64 f6, .slice av d.length cv]) ∧ MadeR entR w w' [.int .i64 f0, .int .i64 f1, .bool f2, .int .i64 f3, .int .i64 f4, .int .i64 f5, .int .i64 f6, .slice av d.length cv] (f0, f1, f2, f3, f4, f5, f6, d) := by
 have H : Hid (∀ W, Below w.heap.size w W → SlRd intR W a d) := fun W hb => slrd_keep h fun k hk => hb.block k hk
 clear h
 go_enter Tryz.func92, Tryz.ntmps92
 go_wp2_with fail
 have B0 : Below w.heap.size w (((w.alloc (.cells #[.int .i64 f0, .int .i64 f1, .bool f2, .int .i64 f3, .int .i64 f4, .int .i64 f5, .int .i64 f6, .slice a d.length cap] 140)).alloc (.cells #[.int .i64 0, .int .i64 0, .bool false, .int .i64 0, .int .i64 0, .int .i64 0, .int .i64 0, .slice none 0 0] 113)).alloc (.cells #[.int .i64 f0, .int .i64 f1, .bool f2, .int .i64 f3, .int .i64 f4, .int .i64 f5, .int .i64 f6, .slice none 0 0] 113)) := (((Below.refl _ w).alloc (Nat.le_refl _) _).alloc (by simp) _).alloc (by simp; omega) _
 have X1 := heap_on (.cells #[.int .i64 f0, .int .i64 f1, .bool f2, .int .i64 f3, .int .i64 f4, .int .i64 f5, .int .i64 f6, .slice none 0 0] 113) (heap_at (w.alloc (.cells #[.int .i64 f0, .int .i64 f1, .bool f2, .int .i64 f3, .int .i64 f4, .int .i64 f5, .int .i64 f6, .slice a d.length cap] 140)) (.cells #[.int .i64 0, .int .i64 0, .bool false, .int .i64 0, .int .i64 0, .int .i64 0, .int .i64 0, .slice none 0 0] 113))
 have X2 := heap_at ((w.alloc (.cells #[.int .i64 f0, .int .i64 f1, .bool f2, .int .i64 f3, .int .i64 f4, .int .i64 f5, .int .i64 f6, .slice a d.length cap] 140)).alloc (.cells #[.int .i64 0, .int .i64 0, .bool false, .int .i64 0, .int .i64 0, .int .i64 0, .int .i64 0, .slice none 0 0] 113)) (.cells #[.int .i64 f0, .int .i64 f1, .bool f2, .int .i64 f3, .int .i64 f4, .int .i64 f5, .int .i64 f6, .slice none 0 0] 113)
 have e3 : (((w.alloc (.cells #[.int .i64 f0, .int .i64 f1, .bool f2, .int .i64 f3, .int .i64 f4, .int .i64 f5, .int .i64 f6, .slice a d.length cap] 140)).alloc (.cells #[.int .i64 0, .int .i64 0, .bool false, .int .i64 0, .int .i64 0, .int .i64 0, .int .i64 0, .slice none 0 0] 113)).alloc (.cells #[.int .i64 f0, .int .i64 f1, .bool f2, .int .i64 f3, .int .i64 f4, .int .i64 f5, .int .i64 f6, .slice none 0 0] 113)).heap.size = w.heap.size + 1 + 1 + 1 := by simp
 have X0 := heap_on (.cells #[.int .i64 f0, .int .i64 f1, .bool f2, .int .i64 f3, .int .i64 f4, .int .i64 f5, .int .i64 f6, .slice none 0 0] 113) (heap_on (.cells #[.int .i64 0, .int .i64 0, .bool false, .int .i64 0, .int .i64 0, .int .i64 0, .int .i64 0, .slice none 0 0] 113) (heap_at w (.cells #[.int .i64 f0, .int .i64 f1, .bool f2, .int .i64 f3, .int .i64 f4, .int .i64 f5, .int .i64 f6, .slice a d.length cap] 140)))
 rw [alloc_len] at X1
 rw [alloc_len, alloc_len] at X2
 generalize ((w.alloc (.cells #[.int .i64 f0, .int .i64 f1, .bool f2, .int .i64 f3, .int .i64 f4, .int .i64 f5, .int .i64 f6, .slice a d.length cap] 140)).alloc (.cells #[.int .i64 0, .int .i64 0, .bool false, .int .i64 0, .int .i64 0, .int .i64 0, .int .i64 0, .slice none 0 0] 113)).alloc (.cells #[.int .i64 f0, .int .i64 f1, .bool f2, .int .i64 f3, .int .i64 f4, .int .i64 f5, .int .i64 f6, .slice none 0 0] 113) = W0 at B0 X0 X1 X2 e3 ⊢
 refine (toInt64S_rep _ d _ _ (H.out _ B0) hm).mono ?_
 rintro e w1 ⟨v, rfl, mm⟩
 obtain ⟨av, cv, rfl⟩ := slown_val mm.1
 have hm2 := mm.2
 have hown := mm.1
 have B1 := below_step B0 hm2
 replace X0 := row_keep hm2 X0
 replace X1 := row_keep hm2 X1
 replace X2 := row_keep hm2 X2
 obtain ⟨q0, q1, q2, q3, q4, q5, q6, q7⟩ := cells_8 X0
 obtain ⟨y0, y1, y2, y3, y4, y5, y6, y7⟩ := cells_8 X2
 obtain ⟨f0y, f1y, f2y, f3y, f4y, f5y, f6y, f7y⟩ := froz_8 X2
 obtain ⟨z0, z1, z2, z3, z4, z5, z6, z7⟩ := cells_8 X1
 obtain ⟨g0, g1, g2, g3, g4, g5, g6, g7⟩ := froz_8 X1
 have HX : Hid _ := And.intro X1 X2
 have HO : Hid _ := hown
 clear X0 X1 X2 hown mm H
 go_wp2
 obtain ⟨X1, X2⟩ := HX.out
 have Y1 := put_8 (y0 := .int .i64 f0) (y1 := .int .i64 f1) (y2 := .bool f2) (y3 := .int .i64 f3) (y4 := .int .i64 f4) (y5 := .int .i64 f5) (y6 := .int .i64 f6) (y7 := .slice av d.length cv) (heap_setC (g := w.heap.size + 1 + 1) (o := 7) (v := .slice av d.length cv) X1 (by omega))
 obtain ⟨r0, r1, r2, r3, r4, r5, r6, r7⟩ := cells_8 Y1
 refine bodyPost_ret (v := .agg #[.int .i64 f0, .int .i64 f1, .bool f2, .int .i64 f3, .int .i64 f4, .int .i64 f5, .int .i64 f6, .slice av d.length cv]) (by simp [results, Tryz.results92, go_sem, r0, r1, r2, r3, r4, r5, r6, r7]) rfl ⟨av, cv, rfl, own_ent i0 i1 i3 i4 i5 i6 ?_, ?_⟩
 ·refine intsR.own_mono (own_setC (own_setC (own_setC (own_setC (own_setC (own_setC (own_setC (own_setC (own_setC (HO.out) (fun h => by have := h.1; omega)) (fun h => by have := h.1; omega)) (fun h => by have := h.1; omega)) (fun h => by have := h.1; omega)) (fun h => by have := h.1; omega)) (fun h => by have := h.1; omega)) (fun h => by have := h.1; omega)) (fun h => by have := h.1; omega)) (fun h => by have := h.1; omega)) ?_
  exact rng_sub (by omega) (by simp)
 ·exact below_setC (below_setC (below_setC (below_setC (below_setC (below_setC (below_setC (below_setC (below_setC (B1) (by omega)) (by omega)) (by omega)) (by omega)) (by omega)) (by omega)) (by omega)) (by omega)) (by omega)
theorem Tryz.infoEntry : (Tryz.prog.info? 113).map (fun i => (i.zero, i.size, i.bytes)) = some (some (.agg #[.int .i64 0, .int .i64 0, .bool false, .int .i64 0, .int .i64 0, .int .i64 0, .int .i64 0, .slice none 0 0]), 8, 80) := by kernel_rfl
theorem toEntryS_rep (a : Option Addr) (xs : List EntryD) (cap : Nat) (w : World) (h : SlRd entR w a xs) (hm : entsM.bk xs ≤ 1048576) :
    Calls Tryz.prog 51 #[.slice a xs.length cap] w fun e w' => ∃ v, e = .returned v ∧ MadeR entsR w w' [v] xs := by
 have hbk : entsM.bk xs = xs.length + sumbk entM xs := rfl
 have hln : xs.length ≤ 1048576 := by omega
 have HB : Hid (sumbk entM xs ≤ 1048576) := by unfold Hid; omega
 have H0 : Hid (SlRd entR w a xs) := h
 clear hbk hm h
 have hmk := run_make_wide (P := Tryz.prog) 39 113 (.agg #[.int .i64 0, .int .i64 0, .bool false, .int .i64 0, .int .i64 0, .int .i64 0, .int .i64 0, .slice none 0 0]) 8 80 Tryz.underlying39 Tryz.infoEntry xs.length (by omega) (by omega)
 go_enter Tryz.func51, Tryz.ntmps51
 go_wp2
 go_loopw [4] (fun i wr => ∃ k : Nat, k ≤ xs.length ∧ i = .int .i64 k ∧ Fill 113 entR w wr xs.length (xs.take k)) (fun i _ => xs.length - (intOf i).toNat)
 case atStart => exact ⟨0, Nat.zero_le _, rfl, by simpa using fillR_start (e := 113) (R := entR) (w0 := w) (n := xs.length) (cs := madeCells #[.int .i64 0, .int .i64 0, .bool false, .int .i64 0, .int .i64 0, .int .i64 0, .int .i64 0, .slice none 0 0] (xs.length * 8)) (by unfold maxLen; omega) (by rw [size_madeCells]; rfl)⟩
 case round =>
  obtain ⟨k, hk, rfl, hF⟩ := hrel
  by_cases hlt : k < xs.length
  ·have hlt' : (k : Int) < (xs.length : Int) := by omega
   obtain ⟨x, hx⟩ : ∃ x, xs[k]? = some x := ⟨_, List.getElem?_eq_getElem hlt⟩
   obtain ⟨b, off, cs, rfl, hrdx, hcell⟩ := slrd_at (slrd_next H0.out (fill_below hF)) hx
   obtain ⟨ad, cpw, rfl, i0, i1, i3, i4, i5, i6, hd1, hd2, hd3⟩ := ent_rd hrdx
   have x0 := hcell 0 _ rfl
   have x1 := hcell 1 _ rfl
   have x2 := hcell 2 _ rfl
   have x3 := hcell 3 _ rfl
   have x4 := hcell 4 _ rfl
   have x5 := hcell 5 _ rfl
   have x6 := hcell 6 _ rfl
   have x7 := hcell 7 _ rfl
   rw [show off + (k * entR.size + 0) = off + k * 8 from rfl] at x0
   rw [show off + (k * entR.size + 1) = off + k * 8 + 1 from rfl] at x1
   rw [show off + (k * entR.size + 2) = off + k * 8 + 2 from rfl] at x2
   rw [show off + (k * entR.size + 3) = off + k * 8 + 3 from rfl] at x3
   rw [show off + (k * entR.size + 4) = off + k * 8 + 4 from rfl] at x4
   rw [show off + (k * entR.size + 5) = off + k * 8 + 5 from rfl] at x5
   rw [show off + (k * entR.size + 6) = off + k * 8 + 6 from rfl] at x6
   rw [show off + (k * entR.size + 7) = off + k * 8 + 7 from rfl] at x7
   have HX : Hid (intsM.bk x.2.2.2.2.2.2.2 ≤ 1048576) := by unfold Hid; have := sumbk_ge entM xs hx; rw [bk_ent] at this; have := HB.out; omega
   have HR : Hid (SlRd intR wr ad x.2.2.2.2.2.2.2) := hd3
   have HI : Hid _ := And.intro i0 (And.intro i1 (And.intro i3 (And.intro i4 (And.intro i5 i6))))
   have FS : Hid (∀ w1 c, MadeR entR wr w1 c x → _) := fun w1 c hm => fillR_step (w1 := w1) (c := c) hF (by simp; omega) hlt hm
   have HP : Hid (xs.take k ++ [x] = xs.take (k + 1)) := by unfold Hid; rw [List.take_add_one, hx]; rfl
   clear hx hrdx hcell hmk hF hd1 hd2 hd3 i0 i1 i3 i4 i5 i6
   go_wp2_with fail
   refine (toEntry_rep x.1 x.2.1 x.2.2.2.1 x.2.2.2.2.1 x.2.2.2.2.2.1 x.2.2.2.2.2.2.1 x.2.2.1 x.2.2.2.2.2.2.2 _ _ _ HI.out.1 HI.out.2.1 HI.out.2.2.1 HI.out.2.2.2.1 HI.out.2.2.2.2.1 HI.out.2.2.2.2.2 HR.out HX.out).mono ?_
   rintro e w1 ⟨av, cv, rfl, mm⟩
   obtain ⟨q1, q2, F1⟩ := FS.out _ _ mm
   obtain ⟨v0, hv0⟩ := q1 0 (by decide)
   obtain ⟨v1, hv1⟩ := q1 1 (by decide)
   obtain ⟨v2, hv2⟩ := q1 2 (by decide)
   obtain ⟨v3, hv3⟩ := q1 3 (by decide)
   obtain ⟨v4, hv4⟩ := q1 4 (by decide)
   obtain ⟨v5, hv5⟩ := q1 5 (by decide)
   obtain ⟨v6, hv6⟩ := q1 6 (by decide)
   obtain ⟨v7, hv7⟩ := q1 7 (by decide)
   have z0 := q2 (k * 8)
   have z1 := q2 (k * 8 + 1)
   have z2 := q2 (k * 8 + 2)
   have z3 := q2 (k * 8 + 3)
   have z4 := q2 (k * 8 + 4)
   have z5 := q2 (k * 8 + 5)
   have z6 := q2 (k * 8 + 6)
   have z7 := q2 (k * 8 + 7)
   rw [show k * entR.size + 0 = k * 8 from rfl] at hv0
   rw [show k * entR.size + 1 = k * 8 + 1 from rfl] at hv1
   rw [show k * entR.size + 2 = k * 8 + 2 from rfl] at hv2
   rw [show k * entR.size + 3 = k * 8 + 3 from rfl] at hv3
   rw [show k * entR.size + 4 = k * 8 + 4 from rfl] at hv4
   rw [show k * entR.size + 5 = k * 8 + 5 from rfl] at hv5
   rw [show k * entR.size + 6 = k * 8 + 6 from rfl] at hv6
   rw [show k * entR.size + 7 = k * 8 + 7 from rfl] at hv7
   rw [HP.out] at F1
   have HF : Hid _ := F1
   clear F1 mm q1 q2 FS x0 x1 x2 x3 x4 x5 x6 x7
   go_wp2
   go_roundw
   case rel => exact ⟨k + 1, by omega, by go_num, HF.out⟩
   case measure => simp [intOf]; omega
  ·have hkl : k = xs.length := by omega
   subst hkl
   rw [List.take_length] at hF
   have FE := fillR_end hF rfl
   clear hF
   go_wp2
   go_ret
   exact ⟨_, rfl, FE⟩
theorem eqEntry_rep (f0 f1 f3 f4 f5 f6 : Int) (f2 : Bool) (d : List Int) (a1 a2 : Option Addr) (c1 c2 : Nat) (w : World) (h1 : SlRd intR w a1 d) (h2 : SlRd intR w a2 d) (hm : intsM.bk d ≤ 1152921504606846976) :
    Calls Tryz.prog 113 #[.agg #[.int .i64 f0, .int .i64 f1, .bool f2, .int .i64 f3, .int .i64 f4, .int .i64 f5, .int .i64 f6, .slice a1 d.length c1], .agg #[.int .i64 f0, .int .i64 f1, .bool f2, .int .i64 f3, .int .i64 f4, .int .i64 f5, .int .i64 f6, .slice a2 d.length c2]] w fun e w' => e = .returned (.bool true) ∧ Below w.heap.size w w' := by
 have HB : Hid (∀ o o', Below w.heap.size w ((w.alloc o).alloc o')) := fun o o' => below_step (box_below w o) (box_below _ o')
 have H1 : Hid (∀ W, Below w.heap.size w W → SlRd intR W a1 d) := fun W hb => slrd_keep h1 fun k hk => hb.block k hk
 have H2 : Hid (∀ W, Below w.heap.size w W → SlRd intR W a2 d) := fun W hb => slrd_keep h2 fun k hk => hb.block k hk
 clear h1 h2
 go_enter Tryz.func113, Tryz.ntmps113
 go_wp2_with fail
 refine (eqInt64S_rep a1 a2 d c1 c2 _ (H1.out _ (HB.out _ _)) (H2.out _ (HB.out _ _)) hm).mono ?_
 rintro e w' ⟨rfl, n, rfl⟩
 go_wp2
 go_ret
 exact ⟨rfl, be_drewN (HB.out _ _) n⟩
theorem eqEntryS_rep (a1 a2 : Option Addr) (xs : List EntryD) (c1 c2 : Nat) (w : World) (h1 : SlRd entR w a1 xs) (h2 : SlRd entR w a2 xs) (hm : (slM entM).bk xs ≤ 1152921504606846976) :
    Calls Tryz.prog 67 #[.slice a1 xs.length c1, .slice a2 xs.length c2] w fun e w' => e = .returned (.bool true) ∧ Below w.heap.size w w' := by
 have hbk : (slM entM).bk xs = xs.length + sumbk entM xs := rfl
 have hln : xs.length ≤ 1152921504606846976 := by omega
 have HB : Hid (sumbk entM xs ≤ 1152921504606846976) := by unfold Hid; omega
 have H1 : Hid (∀ W, Below w.heap.size w W → SlRd entR W a1 xs) := fun W hb => slrd_keep h1 fun k hk => hb.block k hk
 have H2 : Hid (∀ W, Below w.heap.size w W → SlRd entR W a2 xs) := fun W hb => slrd_keep h2 fun k hk => hb.block k hk
 clear hbk hm h1 h2
 go_enter Tryz.func67, Tryz.ntmps67
 go_wp2
 go_loopw [5] (fun i wr => ∃ k : Nat, k ≤ xs.length ∧ i = .int .i64 k ∧ Below w.heap.size w wr) (fun i _ => xs.length - (intOf i).toNat)
 case atStart => exact ⟨0, Nat.zero_le _, rfl, Below.refl _ _⟩
 case round =>
  obtain ⟨k, hk, rfl, BB⟩ := hrel
  by_cases hlt : k < xs.length
  ·have hlt' : (k : Int) < (xs.length : Int) := by omega
   obtain ⟨x, hx⟩ : ∃ x, xs[k]? = some x := ⟨_, List.getElem?_eq_getElem hlt⟩
   have HX : Hid ((entM).bk x ≤ 1152921504606846976) := by unfold Hid; have := sumbk_ge entM xs hx; have := HB.out; omega
   obtain ⟨b1, off1, cs1, rfl, hrd1, hcell1⟩ := slrd_at (H1.out _ BB) hx
   obtain ⟨ad1, cpw1, rfl, -, -, -, -, -, -, -, -, hd1⟩ := ent_rd hrd1
   have x10 := hcell1 0 _ rfl
   have x11 := hcell1 1 _ rfl
   have x12 := hcell1 2 _ rfl
   have x13 := hcell1 3 _ rfl
   have x14 := hcell1 4 _ rfl
   have x15 := hcell1 5 _ rfl
   have x16 := hcell1 6 _ rfl
   have x17 := hcell1 7 _ rfl
   rw [show off1 + (k * entR.size + 0) = off1 + k * 8 from rfl] at x10
   rw [show off1 + (k * entR.size + 1) = off1 + k * 8 + 1 from rfl] at x11
   rw [show off1 + (k * entR.size + 2) = off1 + k * 8 + 2 from rfl] at x12
   rw [show off1 + (k * entR.size + 3) = off1 + k * 8 + 3 from rfl] at x13
   rw [show off1 + (k * entR.size + 4) = off1 + k * 8 + 4 from rfl] at x14
   rw [show off1 + (k * entR.size + 5) = off1 + k * 8 + 5 from rfl] at x15
   rw [show off1 + (k * entR.size + 6) = off1 + k * 8 + 6 from rfl] at x16
   rw [show off1 + (k * entR.size + 7) = off1 + k * 8 + 7 from rfl] at x17
   have HR1 : Hid (∀ n : Cls (fun wx => Below wr.heap.size wr wx), SlRd intR n.w ad1 x.2.2.2.2.2.2.2) := fun n => slrd_next hd1 n.h
   clear hcell1 hrd1 hd1
   obtain ⟨b2, off2, cs2, rfl, hrd2, hcell2⟩ := slrd_at (H2.out _ BB) hx
   obtain ⟨ad2, cpw2, rfl, -, -, -, -, -, -, -, -, hd2⟩ := ent_rd hrd2
   have x20 := hcell2 0 _ rfl
   have x21 := hcell2 1 _ rfl
   have x22 := hcell2 2 _ rfl
   have x23 := hcell2 3 _ rfl
   have x24 := hcell2 4 _ rfl
   have x25 := hcell2 5 _ rfl
   have x26 := hcell2 6 _ rfl
   have x27 := hcell2 7 _ rfl
   rw [show off2 + (k * entR.size + 0) = off2 + k * 8 from rfl] at x20
   rw [show off2 + (k * entR.size + 1) = off2 + k * 8 + 1 from rfl] at x21
   rw [show off2 + (k * entR.size + 2) = off2 + k * 8 + 2 from rfl] at x22
   rw [show off2 + (k * entR.size + 3) = off2 + k * 8 + 3 from rfl] at x23
   rw [show off2 + (k * entR.size + 4) = off2 + k * 8 + 4 from rfl] at x24
   rw [show off2 + (k * entR.size + 5) = off2 + k * 8 + 5 from rfl] at x25
   rw [show off2 + (k * entR.size + 6) = off2 + k * 8 + 6 from rfl] at x26
   rw [show off2 + (k * entR.size + 7) = off2 + k * 8 + 7 from rfl] at x27
   have HR2 : Hid (∀ n : Cls (fun wx => Below wr.heap.size wr wx), SlRd intR n.w ad2 x.2.2.2.2.2.2.2) := fun n => slrd_next hd2 n.h
   clear hcell2 hrd2 hd2
   have x10c : ∀ n : Cls (fun wx => Below wr.heap.size wr wx), n.w.cell? ⟨b1, off1 + k * 8, none⟩ = some (.int .i64 x.1) := fun n => cell_keep n.h x10 (cell_lt x10)
   have x11c : ∀ n : Cls (fun wx => Below wr.heap.size wr wx), n.w.cell? ⟨b1, off1 + k * 8 + 1, none⟩ = some (.int .i64 x.2.1) := fun n => cell_keep n.h x11 (cell_lt x11)
   have x12c : ∀ n : Cls (fun wx => Below wr.heap.size wr wx), n.w.cell? ⟨b1, off1 + k * 8 + 2, none⟩ = some (.bool x.2.2.1) := fun n => cell_keep n.h x12 (cell_lt x12)
   have x13c : ∀ n : Cls (fun wx => Below wr.heap.size wr wx), n.w.cell? ⟨b1, off1 + k * 8 + 3, none⟩ = some (.int .i64 x.2.2.2.1) := fun n => cell_keep n.h x13 (cell_lt x13)
   have x14c : ∀ n : Cls (fun wx => Below wr.heap.size wr wx), n.w.cell? ⟨b1, off1 + k * 8 + 4, none⟩ = some (.int .i64 x.2.2.2.2.1) := fun n => cell_keep n.h x14 (cell_lt x14)
   have x15c : ∀ n : Cls (fun wx => Below wr.heap.size wr wx), n.w.cell? ⟨b1, off1 + k * 8 + 5, none⟩ = some (.int .i64 x.2.2.2.2.2.1) := fun n => cell_keep n.h x15 (cell_lt x15)
   have x16c : ∀ n : Cls (fun wx => Below wr.heap.size wr wx), n.w.cell? ⟨b1, off1 + k * 8 + 6, none⟩ = some (.int .i64 x.2.2.2.2.2.2.1) := fun n => cell_keep n.h x16 (cell_lt x16)
   have x17c : ∀ n : Cls (fun wx => Below wr.heap.size wr wx), n.w.cell? ⟨b1, off1 + k * 8 + 7, none⟩ = some (.slice ad1 x.2.2.2.2.2.2.2.length cpw1) := fun n => cell_keep n.h x17 (cell_lt x17)
   have x20c : ∀ n : Cls (fun wx => Below wr.heap.size wr wx), n.w.cell? ⟨b2, off2 + k * 8, none⟩ = some (.int .i64 x.1) := fun n => cell_keep n.h x20 (cell_lt x20)
   have x21c : ∀ n : Cls (fun wx => Below wr.heap.size wr wx), n.w.cell? ⟨b2, off2 + k * 8 + 1, none⟩ = some (.int .i64 x.2.1) := fun n => cell_keep n.h x21 (cell_lt x21)
   have x22c : ∀ n : Cls (fun wx => Below wr.heap.size wr wx), n.w.cell? ⟨b2, off2 + k * 8 + 2, none⟩ = some (.bool x.2.2.1) := fun n => cell_keep n.h x22 (cell_lt x22)
   have x23c : ∀ n : Cls (fun wx => Below wr.heap.size wr wx), n.w.cell? ⟨b2, off2 + k * 8 + 3, none⟩ = some (.int .i64 x.2.2.2.1) := fun n => cell_keep n.h x23 (cell_lt x23)
   have x24c : ∀ n : Cls (fun wx => Below wr.heap.size wr wx), n.w.cell? ⟨b2, off2 + k * 8 + 4, none⟩ = some (.int .i64 x.2.2.2.2.1) := fun n => cell_keep n.h x24 (cell_lt x24)
   have x25c : ∀ n : Cls (fun wx => Below wr.heap.size wr wx), n.w.cell? ⟨b2, off2 + k * 8 + 5, none⟩ = some (.int .i64 x.2.2.2.2.2.1) := fun n => cell_keep n.h x25 (cell_lt x25)
   have x26c : ∀ n : Cls (fun wx => Below wr.heap.size wr wx), n.w.cell? ⟨b2, off2 + k * 8 + 6, none⟩ = some (.int .i64 x.2.2.2.2.2.2.1) := fun n => cell_keep n.h x26 (cell_lt x26)
   have x27c : ∀ n : Cls (fun wx => Below wr.heap.size wr wx), n.w.cell? ⟨b2, off2 + k * 8 + 7, none⟩ = some (.slice ad2 x.2.2.2.2.2.2.2.length cpw2) := fun n => cell_keep n.h x27 (cell_lt x27)
   clear hx x10 x11 x12 x13 x14 x15 x16 x17 x20 x21 x22 x23 x24 x25 x26 x27
   go_wp2_with fail
   refine region_class (fun wx => Below wr.heap.size wr wx) (by kernel_rfl) (by kernel_rfl) ((Below.refl _ wr).drew) ?_
   intro hne
   repeat (quiet_step ((go_at_call 113; exact calls_class (eqEntry_rep x.1 x.2.1 x.2.2.2.1 x.2.2.2.2.1 x.2.2.2.2.2.1 x.2.2.2.2.2.2.1 x.2.2.1 x.2.2.2.2.2.2.2 _ _ _ _ _ (HR1.out _) (HR2.out _) (by have := HX.out; rw [bk_ent] at this; exact this)) (fun w' hc bb => below_step hc bb))))
   refine wpQuiet_nil ?_
   intro wx b2
   replace BB := below_step BB b2
   clear b2 hne x10c x11c x12c x13c x14c x15c x16c x17c x20c x21c x22c x23c x24c x25c x26c x27c
   go_wp2
   go_roundw
   case rel => exact ⟨k + 1, by omega, by go_num, BB⟩
   case measure => simp [intOf]; omega
  ·go_wp2
   go_ret
   exact ⟨rfl, BB⟩
end Go.Proofs.YtiiipclglngdhaaGreatDoor
