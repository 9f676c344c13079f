import Derived.Test.YtiiipclglngdhaaGreatDoorQ00Box
import Derived.Test.YtiiipclglngdhaaGreatDoorQ03Bits
namespace Go.Proofs.YtiiipclglngdhaaGreatDoor
set_option maxHeartbeats 2000000
open Go.ChangeShapes Go.WideShapes Go.ChangeAt Go.RowKit
set_option linter.unusedVariables false
abbrev MsgD := Int × Int × Int × Int × Int × List Int × Int
abbrev msgR : Rep MsgD := prodR intR (prodR intR (prodR intR (prodR intR (prodR intR (prodR intsR intR)))))
abbrev msgM : Mk MsgD := prodM intM (prodM intM (prodM intM (prodM intM (prodM intM (prodM intsM intM)))))
abbrev msgsR : Rep (List MsgD) := slR 115 msgR
abbrev msgsM : Mk (List MsgD) := slM msgM
theorem opens_msg : Opens Tryz.prog 97 msgR :=
 opens_struct Tryz.underlying97 (by kernel_rfl) (opensF_cons rfl (by kernel_rfl) opens_i64 (opensF_cons rfl (by kernel_rfl) opens_i64 (opensF_cons rfl (by kernel_rfl) opens_i64 (opensF_cons rfl (by kernel_rfl) opens_i64 (opensF_cons rfl (by kernel_rfl) opens_i64 (opensF_cons rfl (by kernel_rfl) opens_ints (opensF_one rfl (by kernel_rfl) opens_i64)))))))
theorem opens_msgs : Opens Tryz.prog 32 msgsR := opens_slice Tryz.underlying32 (by kernel_rfl) (by decide) opens_msg
theorem msg_rd {w : World} {cs : List Value} {u : MsgD} (h : msgR.rd w cs u) :
    ∃ a cap, cs = [.int .i64 u.1, .int .i64 u.2.1, .int .i64 u.2.2.1, .int .i64 u.2.2.2.1, .int .i64 u.2.2.2.2.1, .slice a u.2.2.2.2.2.1.length cap, .int .i64 u.2.2.2.2.2.2] ∧ In64 u.1 ∧ In64 u.2.1 ∧ In64 u.2.2.1 ∧ In64 u.2.2.2.1 ∧ In64 u.2.2.2.2.1 ∧ In64 u.2.2.2.2.2.2 ∧ u.2.2.2.2.2.1.length ≤ cap ∧ cap ≤ maxLen ∧ SlRd intR w a u.2.2.2.2.2.1 := by
 obtain ⟨c0, e0, rfl, ⟨rfl, i0⟩, c1, e1, rfl, ⟨rfl, i1⟩, c2, e2, rfl, ⟨rfl, i2⟩, c3, e3, rfl, ⟨rfl, i3⟩, c4, e4, rfl, ⟨rfl, i4⟩, c5, e5, rfl, ⟨a, cap, rfl, h1, h2, h3⟩, ⟨rfl, i6⟩⟩ := h
 exact ⟨a, cap, rfl, i0, i1, i2, i3, i4, i6, h1, h2, h3⟩
theorem own_msg {w : World} {S : Foot} {f0 f1 f2 f3 f4 f6 : Int} {d : List Int} {v : Value} (i0 : In64 f0) (i1 : In64 f1) (i2 : In64 f2) (i3 : In64 f3) (i4 : In64 f4) (i6 : In64 f6) (h : intsR.own w S [v] d) : msgR.own w S [.int .i64 f0, .int .i64 f1, .int .i64 f2, .int .i64 f3, .int .i64 f4, v, .int .i64 f6] (f0, f1, f2, f3, f4, d, f6) :=
 ⟨[_], [_, _, _, _, _, _], fun _ => False, S, rfl, ⟨rfl, i0⟩, ⟨[_], [_, _, _, _, _], fun _ => False, S, rfl, ⟨rfl, i1⟩, ⟨[_], [_, _, _, _], fun _ => False, S, rfl, ⟨rfl, i2⟩, ⟨[_], [_, _, _], fun _ => False, S, rfl, ⟨rfl, i3⟩, ⟨[_], [_, _], fun _ => False, S, rfl, ⟨rfl, i4⟩, ⟨[_], [_], S, fun _ => False, rfl, h, ⟨rfl, i6⟩, Sub.refl _, fun _ h => h.elim, fun _ _ h => h⟩, fun _ h => h.elim, Sub.refl _, fun _ h _ => h⟩, fun _ h => h.elim, Sub.refl _, fun _ h _ => h⟩, fun _ h => h.elim, Sub.refl _, fun _ h _ => h⟩, fun _ h => h.elim, Sub.refl _, fun _ h _ => h⟩, fun _ h => h.elim, Sub.refl _, fun _ h _ => h⟩
theorem bk_msg (u : MsgD) : msgM.bk u = intsM.bk u.2.2.2.2.2.1 := by
 show 0 + (0 + (0 + (0 + (0 + (intsM.bk u.2.2.2.2.2.1 + 0))))) = _
 omega
theorem cells_7 {w : World} {g : Nat} {x0 x1 x2 x3 x4 x5 x6 : Value} {t : TypeId} (h : w.heap[g]? = some (.cells #[x0, x1, x2, x3, x4, x5, x6] t (0, 0))) :
    w.cell? ⟨g, 0, none⟩ = some x0 ∧ w.cell? ⟨g, 1, none⟩ = some x1 ∧ w.cell? ⟨g, 2, none⟩ = some x2 ∧ w.cell? ⟨g, 3, none⟩ = some x3 ∧ w.cell? ⟨g, 4, none⟩ = some x4 ∧ w.cell? ⟨g, 5, none⟩ = some x5 ∧ w.cell? ⟨g, 6, none⟩ = some x6 :=
 ⟨by rw [cell_of_row w g 0 _ t (0, 0) h]; rfl, by rw [cell_of_row w g 1 _ t (0, 0) h]; rfl, by rw [cell_of_row w g 2 _ t (0, 0) h]; rfl, by rw [cell_of_row w g 3 _ t (0, 0) h]; rfl, by rw [cell_of_row w g 4 _ t (0, 0) h]; rfl, by rw [cell_of_row w g 5 _ t (0, 0) h]; rfl, by rw [cell_of_row w g 6 _ t (0, 0) h]; rfl⟩
theorem froz_7 {w : World} {g : Nat} {cs : Array Value} {t : TypeId} (h : w.heap[g]? = some (.cells cs t (0, 0))) : w.frozen? ⟨g, 0, none⟩ = false ∧ w.frozen? ⟨g, 1, none⟩ = false ∧ w.frozen? ⟨g, 2, none⟩ = false ∧ w.frozen? ⟨g, 3, none⟩ = false ∧ w.frozen? ⟨g, 4, none⟩ = false ∧ w.frozen? ⟨g, 5, none⟩ = false ∧ w.frozen? ⟨g, 6, none⟩ = false :=
 ⟨frozen_of_row w g 0 _ t h, frozen_of_row w g 1 _ t h, frozen_of_row w g 2 _ t h, frozen_of_row w g 3 _ t h, frozen_of_row w g 4 _ t h, frozen_of_row w g 5 _ t h, frozen_of_row w g 6 _ t h⟩
theorem put_7 {w : World} {g : Nat} {x0 y0 x1 y1 x2 y2 x3 y3 x4 y4 x5 y5 x6 y6 : Value} {t : TypeId} (h : w.heap[g]? = some (.cells #[x0, x1, x2, x3, x4, x5, x6] t (0, 0))) :
    (((((((w.setCell ⟨g, 0, none⟩ y0).setCell ⟨g, 1, none⟩ y1).setCell ⟨g, 2, none⟩ y2).setCell ⟨g, 3, none⟩ y3).setCell ⟨g, 4, none⟩ y4).setCell ⟨g, 5, none⟩ y5).setCell ⟨g, 6, none⟩ y6).heap[g]? = some (.cells #[y0, y1, y2, y3, y4, y5, y6] t (0, 0)) := by
 have h0 : (w.setCell ⟨g, 0, none⟩ y0).heap[g]? = some (.cells #[y0, x1, x2, x3, x4, x5, x6] t (0, 0)) := heap_setCell_same _ g 0 _ t y0 h
 have h1 : ((w.setCell ⟨g, 0, none⟩ y0).setCell ⟨g, 1, none⟩ y1).heap[g]? = some (.cells #[y0, y1, x2, x3, x4, x5, x6] t (0, 0)) := heap_setCell_same _ g 1 _ t y1 h0
 have h2 : (((w.setCell ⟨g, 0, none⟩ y0).setCell ⟨g, 1, none⟩ y1).setCell ⟨g, 2, none⟩ y2).heap[g]? = some (.cells #[y0, y1, y2, x3, x4, x5, x6] t (0, 0)) := heap_setCell_same _ g 2 _ t y2 h1
 have h3 : ((((w.setCell ⟨g, 0, none⟩ y0).setCell ⟨g, 1, none⟩ y1).setCell ⟨g, 2, none⟩ y2).setCell ⟨g, 3, none⟩ y3).heap[g]? = some (.cells #[y0, y1, y2, y3, x4, x5, x6] t (0, 0)) := heap_setCell_same _ g 3 _ t y3 h2
 have h4 : (((((w.setCell ⟨g, 0, none⟩ y0).setCell ⟨g, 1, none⟩ y1).setCell ⟨g, 2, none⟩ y2).setCell ⟨g, 3, none⟩ y3).setCell ⟨g, 4, none⟩ y4).heap[g]? = some (.cells #[y0, y1, y2, y3, y4, x5, x6] t (0, 0)) := heap_setCell_same _ g 4 _ t y4 h3
 have h5 : ((((((w.setCell ⟨g, 0, none⟩ y0).setCell ⟨g, 1, none⟩ y1).setCell ⟨g, 2, none⟩ y2).setCell ⟨g, 3, none⟩ y3).setCell ⟨g, 4, none⟩ y4).setCell ⟨g, 5, none⟩ y5).heap[g]? = some (.cells #[y0, y1, y2, y3, y4, y5, x6] t (0, 0)) := heap_setCell_same _ g 5 _ t y5 h4
 have h6 : (((((((w.setCell ⟨g, 0, none⟩ y0).setCell ⟨g, 1, none⟩ y1).setCell ⟨g, 2, none⟩ y2).setCell ⟨g, 3, none⟩ y3).setCell ⟨g, 4, none⟩ y4).setCell ⟨g, 5, none⟩ y5).setCell ⟨g, 6, none⟩ y6).heap[g]? = some (.cells #[y0, y1, y2, y3, y4, y5, y6] t (0, 0)) := heap_setCell_same _ g 6 _ t y6 h5
 exact h6
theorem szMsg_rep (f0 f1 f2 f3 f4 f6 : Int) (d : List Int) (a : Option Addr) (cap : Nat) (left : Int) (w : World) (h0 : 0 ≤ left) (h1 : left ≤ 1048576) (hm : d.length ≤ maxLen) :
    Calls Tryz.prog 39 #[.agg #[.int .i64 f0, .int .i64 f1, .int .i64 f2, .int .i64 f3, .int .i64 f4, .slice a d.length cap, .int .i64 f6], .int .i64 left] w fun e w' => e = .returned (.int .i64 (szI (msgM.bk (f0, f1, f2, f3, f4, d, f6)) left)) ∧ Below w.heap.size w w' := by
 rw [bk_msg]
 show Calls Tryz.prog 39 _ w fun e w' => e = .returned (.int .i64 (szI (intsM.bk d) left)) ∧ Below w.heap.size w w'
 by_cases hl : (intsM.bk d : Int) ≤ left
 ·have HS : Hid (szI (intsM.bk d) left = _) := szI_yes hl
  have hl' : ¬ (left - (intsM.bk d : Int) < 0) := by omega
  go_enter Tryz.func39, Tryz.ntmps39
  go_wp2_with (go_at_call 72; refine (szInt64S_rep _ d _ _ _ h0 h1 hm).mono ?_; rintro e w' ⟨rfl, rfl⟩; rw [HS.out])
  go_ret
  exact ⟨ret_int HS.out.symm, box_below w _⟩
 ·have HS : Hid (szI (intsM.bk d) left = _) := szI_no hl
  go_enter Tryz.func39, Tryz.ntmps39
  go_wp2_with (go_at_call 72; refine (szInt64S_rep _ d _ _ _ h0 h1 hm).mono ?_; rintro e w' ⟨rfl, rfl⟩; rw [HS.out])
  go_ret
  exact ⟨ret_int HS.out.symm, box_below w _⟩
theorem szMsgS_rep (a : Option Addr) (xs : List MsgD) (cap : Nat) (left : Int) (w : World) (h : SlRd msgR w a xs) (h0 : 0 ≤ left) (h1 : left ≤ 1048576) (hm : xs.length ≤ maxLen) :
    Calls Tryz.prog 15 #[.slice a xs.length cap, .int .i64 left] w fun e w' => e = .returned (.int .i64 (szI ((slM msgM).bk xs) left)) ∧ Below w.heap.size w w' := by
 have hm' : xs.length ≤ 9223372036854775807 := hm
 have hbk : (slM msgM).bk xs = xs.length + sumbk msgM xs := rfl
 clear hm
 by_cases hl : (xs.length : Int) ≤ left
 ·have hl' : ¬ (left - (xs.length : Int) < 0) := by omega
  have HB : Hid _ := hbk
  have H0 : Hid (SlRd msgR w a xs) := h
  clear hbk h
  go_enter Tryz.func15, Tryz.ntmps15
  go_wp2
  go_loopw [1, 5] (fun q i wr => ∃ k : Nat, k ≤ xs.length ∧ i = .int .i64 k ∧ (sumbk msgM (xs.take k) : Int) + xs.length ≤ left ∧ q = .int .i64 (left - (xs.length : Int) - sumbk msgM (xs.take k)) ∧ Below w.heap.size w wr) (fun _ i _ => xs.length - (intOf i).toNat)
  case atStart => exact ⟨0, Nat.zero_le _, rfl, by simp [sumbk]; omega, by simp [sumbk], Below.refl _ _⟩
  case round =>
   obtain ⟨k, hk, rfl, ht, rfl, BB⟩ := hrel
   by_cases hlt : k < xs.length
   ·have hlt' : (k : Int) < (xs.length : Int) := by omega
    obtain ⟨x, hx⟩ : ∃ x, xs[k]? = some x := ⟨_, List.getElem?_eq_getElem hlt⟩
    have H2 := slrd_keep H0.out fun k hk => BB.block k hk
    obtain ⟨b, off, cs, rfl, hrdx, hcell⟩ := slrd_at H2 hx
    obtain ⟨ad, cpw, rfl, -, -, -, -, -, -, hd1, hd2, hd3⟩ := msg_rd hrdx
    have x0 := hcell 0 _ rfl
    have x1 := hcell 1 _ rfl
    have x2 := hcell 2 _ rfl
    have x3 := hcell 3 _ rfl
    have x4 := hcell 4 _ rfl
    have x5 := hcell 5 _ rfl
    have x6 := hcell 6 _ rfl
    rw [show off + (k * msgR.size + 0) = off + k * 7 from rfl] at x0
    rw [show off + (k * msgR.size + 1) = off + k * 7 + 1 from rfl] at x1
    rw [show off + (k * msgR.size + 2) = off + k * 7 + 2 from rfl] at x2
    rw [show off + (k * msgR.size + 3) = off + k * 7 + 3 from rfl] at x3
    rw [show off + (k * msgR.size + 4) = off + k * 7 + 4 from rfl] at x4
    rw [show off + (k * msgR.size + 5) = off + k * 7 + 5 from rfl] at x5
    rw [show off + (k * msgR.size + 6) = off + k * 7 + 6 from rfl] at x6
    have HX : Hid (x.2.2.2.2.2.1.length ≤ maxLen) := Nat.le_trans hd1 hd2
    clear hcell hrdx hd1 hd2 hd3
    have HT : Hid _ := sumbk_step (M := msgM) hx
    have hxs := sumbk_get (M := msgM) hx
    clear hx H2
    generalize sumbk msgM (xs.take k) = T at ht HT hxs ⊢
    by_cases hf : (((msgM).bk x : Nat) : Int) ≤ left - (xs.length : Int) - (T : Int)
    ·have hf' : ¬ (left - (xs.length : Int) - (T : Int) - (((msgM).bk x : Nat) : Int) < 0) := by omega
     have HS : Hid (szI ((msgM).bk x) (left - (xs.length : Int) - (T : Int)) = _) := szI_yes hf
     go_wp2_with (go_at_call 39; refine (szMsg_rep x.1 x.2.1 x.2.2.1 x.2.2.2.1 x.2.2.2.2.1 x.2.2.2.2.2.2 x.2.2.2.2.2.1 _ _ _ _ (by omega) (by omega) HX.out).mono ?_; rintro e w' ⟨rfl, bb⟩; replace BB := below_step BB bb; clear bb; rw [HS.out])
     go_roundw
     case rel => exact ⟨k + 1, by omega, by go_num, by have := HT.out; omega, by rw [HT.out]; go_num, BB⟩
     case measure => simp [intOf]; omega
    ·have HS : Hid (szI ((msgM).bk x) (left - (xs.length : Int) - (T : Int)) = _) := szI_no hf
     have HN : Hid (szI ((slM msgM).bk xs) left = -1) := by unfold Hid; rw [HB.out]; exact szI_no (by omega)
     go_wp2_with (go_at_call 39; refine (szMsg_rep x.1 x.2.1 x.2.2.1 x.2.2.2.1 x.2.2.2.2.1 x.2.2.2.2.2.2 x.2.2.2.2.2.1 _ _ _ _ (by omega) (by omega) HX.out).mono ?_; rintro e w' ⟨rfl, bb⟩; replace BB := below_step BB bb; clear bb; rw [HS.out])
     go_ret
     exact ⟨ret_int HN.out.symm, BB⟩
   ·have hkl : k = xs.length := by omega
    subst hkl
    rw [List.take_length] at ht ⊢
    have HN : Hid (szI ((slM msgM).bk xs) left = left - (xs.length : Int) - (sumbk msgM xs : Int)) := by unfold Hid; rw [HB.out, szI_yes (by omega)]; omega
    go_wp2
    go_ret
    exact ⟨ret_int HN.out.symm, BB⟩
 ·have hl' : left - (xs.length : Int) < 0 := by omega
  rw [szI_no (by omega)]
  clear hbk h
  go_enter Tryz.func15, Tryz.ntmps15
  go_wp2
  go_ret
  exact ⟨rfl, Below.refl _ _⟩
theorem toMsg_rep (f0 f1 f2 f3 f4 f6 : Int) (d : List Int) (a : Option Addr) (cap : Nat) (w : World) (i0 : In64 f0) (i1 : In64 f1) (i2 : In64 f2) (i3 : In64 f3) (i4 : In64 f4) (i6 : In64 f6) (h : SlRd intR w a d) (hm : intsM.bk d ≤ 1048576) :
    Calls Tryz.prog 54 #[.agg #[.int .i64 f0, .int .i64 f1, .int .i64 f2, .int .i64 f3, .int .i64 f4, .slice a d.length cap, .int .i64 f6]] w fun e w' => ∃ av cv, e = .returned (.agg #[.int .i64 f0, .int .i64 f1, .int .i64 f2, .int .i64 f3, .int .i64 f4, .slice av d.length cv, .int .i64 f6]) ∧ MadeR msgR w w' [.int .i64 f0, .int .i64 f1, .int .i64 f2, .int .i64 f3, .int .i64 f4, .slice av d.length cv, .int .i64 f6] (f0, f1, f2, f3, f4, d, f6) := by
 have H : Hid (∀ W, Below w.heap.size w W → SlRd intR W a d) := fun W hb => slrd_keep h fun k hk => hb.block k hk
 clear h
 go_enter Tryz.func54, Tryz.ntmps54
 go_wp2_with fail
 have B0 : Below w.heap.size w (((w.alloc (.cells #[.int .i64 f0, .int .i64 f1, .int .i64 f2, .int .i64 f3, .int .i64 f4, .slice a d.length cap, .int .i64 f6] 97)).alloc (.cells #[.int .i64 0, .int .i64 0, .int .i64 0, .int .i64 0, .int .i64 0, .slice none 0 0, .int .i64 0] 115)).alloc (.cells #[.int .i64 f0, .int .i64 f1, .int .i64 f2, .int .i64 f3, .int .i64 f4, .slice none 0 0, .int .i64 0] 115)) := (((Below.refl _ w).alloc (Nat.le_refl _) _).alloc (by simp) _).alloc (by simp; omega) _
 have X1 := heap_on (.cells #[.int .i64 f0, .int .i64 f1, .int .i64 f2, .int .i64 f3, .int .i64 f4, .slice none 0 0, .int .i64 0] 115) (heap_at (w.alloc (.cells #[.int .i64 f0, .int .i64 f1, .int .i64 f2, .int .i64 f3, .int .i64 f4, .slice a d.length cap, .int .i64 f6] 97)) (.cells #[.int .i64 0, .int .i64 0, .int .i64 0, .int .i64 0, .int .i64 0, .slice none 0 0, .int .i64 0] 115))
 have X2 := heap_at ((w.alloc (.cells #[.int .i64 f0, .int .i64 f1, .int .i64 f2, .int .i64 f3, .int .i64 f4, .slice a d.length cap, .int .i64 f6] 97)).alloc (.cells #[.int .i64 0, .int .i64 0, .int .i64 0, .int .i64 0, .int .i64 0, .slice none 0 0, .int .i64 0] 115)) (.cells #[.int .i64 f0, .int .i64 f1, .int .i64 f2, .int .i64 f3, .int .i64 f4, .slice none 0 0, .int .i64 0] 115)
 have e3 : (((w.alloc (.cells #[.int .i64 f0, .int .i64 f1, .int .i64 f2, .int .i64 f3, .int .i64 f4, .slice a d.length cap, .int .i64 f6] 97)).alloc (.cells #[.int .i64 0, .int .i64 0, .int .i64 0, .int .i64 0, .int .i64 0, .slice none 0 0, .int .i64 0] 115)).alloc (.cells #[.int .i64 f0, .int .i64 f1, .int .i64 f2, .int .i64 f3, .int .i64 f4, .slice none 0 0, .int .i64 0] 115)).heap.size = w.heap.size + 1 + 1 + 1 := by simp
 have X0 := heap_on (.cells #[.int .i64 f0, .int .i64 f1, .int .i64 f2, .int .i64 f3, .int .i64 f4, .slice none 0 0, .int .i64 0] 115) (heap_on (.cells #[.int .i64 0, .int .i64 0, .int .i64 0, .int .i64 0, .int .i64 0, .slice none 0 0, .int .i64 0] 115) (heap_at w (.cells #[.int .i64 f0, .int .i64 f1, .int .i64 f2, .int .i64 f3, .int .i64 f4, .slice a d.length cap, .int .i64 f6] 97)))
 rw [alloc_len] at X1
 rw [alloc_len, alloc_len] at X2
 generalize ((w.alloc (.cells #[.int .i64 f0, .int .i64 f1, .int .i64 f2, .int .i64 f3, .int .i64 f4, .slice a d.length cap, .int .i64 f6] 97)).alloc (.cells #[.int .i64 0, .int .i64 0, .int .i64 0, .int .i64 0, .int .i64 0, .slice none 0 0, .int .i64 0] 115)).alloc (.cells #[.int .i64 f0, .int .i64 f1, .int .i64 f2, .int .i64 f3, .int .i64 f4, .slice none 0 0, .int .i64 0] 115) = W0 at B0 X0 X1 X2 e3 ⊢
 refine (toInt64S_rep _ d _ _ (H.out _ B0) hm).mono ?_
 rintro e w1 ⟨v, rfl, mm⟩
 obtain ⟨av, cv, rfl⟩ := slown_val mm.1
 have hm2 := mm.2
 have hown := mm.1
 have B1 := below_step B0 hm2
 replace X0 := row_keep hm2 X0
 replace X1 := row_keep hm2 X1
 replace X2 := row_keep hm2 X2
 obtain ⟨q0, q1, q2, q3, q4, q5, q6⟩ := cells_7 X0
 obtain ⟨y0, y1, y2, y3, y4, y5, y6⟩ := cells_7 X2
 obtain ⟨f0y, f1y, f2y, f3y, f4y, f5y, f6y⟩ := froz_7 X2
 obtain ⟨z0, z1, z2, z3, z4, z5, z6⟩ := cells_7 X1
 obtain ⟨g0, g1, g2, g3, g4, g5, g6⟩ := froz_7 X1
 have HX : Hid _ := And.intro X1 X2
 have HO : Hid _ := hown
 clear X0 X1 X2 hown mm H
 go_wp2
 obtain ⟨X1, X2⟩ := HX.out
 have Y1 := put_7 (y0 := .int .i64 f0) (y1 := .int .i64 f1) (y2 := .int .i64 f2) (y3 := .int .i64 f3) (y4 := .int .i64 f4) (y5 := .slice av d.length cv) (y6 := .int .i64 f6) (heap_setC (g := w.heap.size + 1 + 1) (o := 6) (v := .int .i64 f6) (heap_setC (g := w.heap.size + 1 + 1) (o := 5) (v := .slice av d.length cv) X1 (by omega)) (by omega))
 obtain ⟨r0, r1, r2, r3, r4, r5, r6⟩ := cells_7 Y1
 refine bodyPost_ret (v := .agg #[.int .i64 f0, .int .i64 f1, .int .i64 f2, .int .i64 f3, .int .i64 f4, .slice av d.length cv, .int .i64 f6]) (by simp [results, Tryz.results54, go_sem, r0, r1, r2, r3, r4, r5, r6]) rfl ⟨av, cv, rfl, own_msg i0 i1 i2 i3 i4 i6 ?_, ?_⟩
 ·refine intsR.own_mono (own_setC (own_setC (own_setC (own_setC (own_setC (own_setC (own_setC (own_setC (own_setC (HO.out) (fun h => by have := h.1; omega)) (fun h => by have := h.1; omega)) (fun h => by have := h.1; omega)) (fun h => by have := h.1; omega)) (fun h => by have := h.1; omega)) (fun h => by have := h.1; omega)) (fun h => by have := h.1; omega)) (fun h => by have := h.1; omega)) (fun h => by have := h.1; omega)) ?_
  exact rng_sub (by omega) (by simp)
 ·exact below_setC (below_setC (below_setC (below_setC (below_setC (below_setC (below_setC (below_setC (below_setC (B1) (by omega)) (by omega)) (by omega)) (by omega)) (by omega)) (by omega)) (by omega)) (by omega)) (by omega)
theorem Tryz.infoMsg : (Tryz.prog.info? 115).map (fun i => (i.zero, i.size, i.bytes)) = some (some (.agg #[.int .i64 0, .int .i64 0, .int .i64 0, .int .i64 0, .int .i64 0, .slice none 0 0, .int .i64 0]), 7, 72) := by kernel_rfl
theorem toMsgS_rep (a : Option Addr) (xs : List MsgD) (cap : Nat) (w : World) (h : SlRd msgR w a xs) (hm : msgsM.bk xs ≤ 1048576) :
    Calls Tryz.prog 23 #[.slice a xs.length cap] w fun e w' => ∃ v, e = .returned v ∧ MadeR msgsR w w' [v] xs := by
 have hbk : msgsM.bk xs = xs.length + sumbk msgM xs := rfl
 have hln : xs.length ≤ 1048576 := by omega
 have HB : Hid (sumbk msgM xs ≤ 1048576) := by unfold Hid; omega
 have H0 : Hid (SlRd msgR w a xs) := h
 clear hbk hm h
 have hmk := run_make_wide (P := Tryz.prog) 46 115 (.agg #[.int .i64 0, .int .i64 0, .int .i64 0, .int .i64 0, .int .i64 0, .slice none 0 0, .int .i64 0]) 7 72 Tryz.underlying46 Tryz.infoMsg xs.length (by omega) (by omega)
 go_enter Tryz.func23, Tryz.ntmps23
 go_wp2
 go_loopw [4] (fun i wr => ∃ k : Nat, k ≤ xs.length ∧ i = .int .i64 k ∧ Fill 115 msgR w wr xs.length (xs.take k)) (fun i _ => xs.length - (intOf i).toNat)
 case atStart => exact ⟨0, Nat.zero_le _, rfl, by simpa using fillR_start (e := 115) (R := msgR) (w0 := w) (n := xs.length) (cs := madeCells #[.int .i64 0, .int .i64 0, .int .i64 0, .int .i64 0, .int .i64 0, .slice none 0 0, .int .i64 0] (xs.length * 7)) (by unfold maxLen; omega) (by rw [size_madeCells]; rfl)⟩
 case round =>
  obtain ⟨k, hk, rfl, hF⟩ := hrel
  by_cases hlt : k < xs.length
  ·have hlt' : (k : Int) < (xs.length : Int) := by omega
   obtain ⟨x, hx⟩ : ∃ x, xs[k]? = some x := ⟨_, List.getElem?_eq_getElem hlt⟩
   obtain ⟨b, off, cs, rfl, hrdx, hcell⟩ := slrd_at (slrd_next H0.out (fill_below hF)) hx
   obtain ⟨ad, cpw, rfl, i0, i1, i2, i3, i4, i6, hd1, hd2, hd3⟩ := msg_rd hrdx
   have x0 := hcell 0 _ rfl
   have x1 := hcell 1 _ rfl
   have x2 := hcell 2 _ rfl
   have x3 := hcell 3 _ rfl
   have x4 := hcell 4 _ rfl
   have x5 := hcell 5 _ rfl
   have x6 := hcell 6 _ rfl
   rw [show off + (k * msgR.size + 0) = off + k * 7 from rfl] at x0
   rw [show off + (k * msgR.size + 1) = off + k * 7 + 1 from rfl] at x1
   rw [show off + (k * msgR.size + 2) = off + k * 7 + 2 from rfl] at x2
   rw [show off + (k * msgR.size + 3) = off + k * 7 + 3 from rfl] at x3
   rw [show off + (k * msgR.size + 4) = off + k * 7 + 4 from rfl] at x4
   rw [show off + (k * msgR.size + 5) = off + k * 7 + 5 from rfl] at x5
   rw [show off + (k * msgR.size + 6) = off + k * 7 + 6 from rfl] at x6
   have HX : Hid (intsM.bk x.2.2.2.2.2.1 ≤ 1048576) := by unfold Hid; have := sumbk_ge msgM xs hx; rw [bk_msg] at this; have := HB.out; omega
   have HR : Hid (SlRd intR wr ad x.2.2.2.2.2.1) := hd3
   have HI : Hid _ := And.intro i0 (And.intro i1 (And.intro i2 (And.intro i3 (And.intro i4 i6))))
   have FS : Hid (∀ w1 c, MadeR msgR wr w1 c x → _) := fun w1 c hm => fillR_step (w1 := w1) (c := c) hF (by simp; omega) hlt hm
   have HP : Hid (xs.take k ++ [x] = xs.take (k + 1)) := by unfold Hid; rw [List.take_add_one, hx]; rfl
   clear hx hrdx hcell hmk hF hd1 hd2 hd3 i0 i1 i2 i3 i4 i6
   go_wp2_with fail
   refine (toMsg_rep x.1 x.2.1 x.2.2.1 x.2.2.2.1 x.2.2.2.2.1 x.2.2.2.2.2.2 x.2.2.2.2.2.1 _ _ _ HI.out.1 HI.out.2.1 HI.out.2.2.1 HI.out.2.2.2.1 HI.out.2.2.2.2.1 HI.out.2.2.2.2.2 HR.out HX.out).mono ?_
   rintro e w1 ⟨av, cv, rfl, mm⟩
   obtain ⟨q1, q2, F1⟩ := FS.out _ _ mm
   obtain ⟨v0, hv0⟩ := q1 0 (by decide)
   obtain ⟨v1, hv1⟩ := q1 1 (by decide)
   obtain ⟨v2, hv2⟩ := q1 2 (by decide)
   obtain ⟨v3, hv3⟩ := q1 3 (by decide)
   obtain ⟨v4, hv4⟩ := q1 4 (by decide)
   obtain ⟨v5, hv5⟩ := q1 5 (by decide)
   obtain ⟨v6, hv6⟩ := q1 6 (by decide)
   have z0 := q2 (k * 7)
   have z1 := q2 (k * 7 + 1)
   have z2 := q2 (k * 7 + 2)
   have z3 := q2 (k * 7 + 3)
   have z4 := q2 (k * 7 + 4)
   have z5 := q2 (k * 7 + 5)
   have z6 := q2 (k * 7 + 6)
   rw [show k * msgR.size + 0 = k * 7 from rfl] at hv0
   rw [show k * msgR.size + 1 = k * 7 + 1 from rfl] at hv1
   rw [show k * msgR.size + 2 = k * 7 + 2 from rfl] at hv2
   rw [show k * msgR.size + 3 = k * 7 + 3 from rfl] at hv3
   rw [show k * msgR.size + 4 = k * 7 + 4 from rfl] at hv4
   rw [show k * msgR.size + 5 = k * 7 + 5 from rfl] at hv5
   rw [show k * msgR.size + 6 = k * 7 + 6 from rfl] at hv6
   rw [HP.out] at F1
   have HF : Hid _ := F1
   clear F1 mm q1 q2 FS x0 x1 x2 x3 x4 x5 x6
   go_wp2
   go_roundw
   case rel => exact ⟨k + 1, by omega, by go_num, HF.out⟩
   case measure => simp [intOf]; omega
  ·have hkl : k = xs.length := by omega
   subst hkl
   rw [List.take_length] at hF
   have FE := fillR_end hF rfl
   clear hF
   go_wp2
   go_ret
   exact ⟨_, rfl, FE⟩
theorem eqMsg_rep (f0 f1 f2 f3 f4 f6 : Int) (d : List Int) (a1 a2 : Option Addr) (c1 c2 : Nat) (w : World) (h1 : SlRd intR w a1 d) (h2 : SlRd intR w a2 d) (hm : intsM.bk d ≤ 1152921504606846976) :
    Calls Tryz.prog 70 #[.agg #[.int .i64 f0, .int .i64 f1, .int .i64 f2, .int .i64 f3, .int .i64 f4, .slice a1 d.length c1, .int .i64 f6], .agg #[.int .i64 f0, .int .i64 f1, .int .i64 f2, .int .i64 f3, .int .i64 f4, .slice a2 d.length c2, .int .i64 f6]] w fun e w' => e = .returned (.bool true) ∧ Below w.heap.size w w' := by
 have HB : Hid (∀ o o', Below w.heap.size w ((w.alloc o).alloc o')) := fun o o' => below_step (box_below w o) (box_below _ o')
 have H1 : Hid (∀ W, Below w.heap.size w W → SlRd intR W a1 d) := fun W hb => slrd_keep h1 fun k hk => hb.block k hk
 have H2 : Hid (∀ W, Below w.heap.size w W → SlRd intR W a2 d) := fun W hb => slrd_keep h2 fun k hk => hb.block k hk
 clear h1 h2
 go_enter Tryz.func70, Tryz.ntmps70
 go_wp2_with fail
 refine (eqInt64S_rep a1 a2 d c1 c2 _ (H1.out _ (HB.out _ _)) (H2.out _ (HB.out _ _)) hm).mono ?_
 rintro e w' ⟨rfl, n, rfl⟩
 go_wp2
 go_ret
 exact ⟨rfl, be_drewN (HB.out _ _) n⟩
theorem eqMsgS_rep (a1 a2 : Option Addr) (xs : List MsgD) (c1 c2 : Nat) (w : World) (h1 : SlRd msgR w a1 xs) (h2 : SlRd msgR w a2 xs) (hm : (slM msgM).bk xs ≤ 1152921504606846976) :
    Calls Tryz.prog 31 #[.slice a1 xs.length c1, .slice a2 xs.length c2] w fun e w' => e = .returned (.bool true) ∧ Below w.heap.size w w' := by
 have hbk : (slM msgM).bk xs = xs.length + sumbk msgM xs := rfl
 have hln : xs.length ≤ 1152921504606846976 := by omega
 have HB : Hid (sumbk msgM xs ≤ 1152921504606846976) := by unfold Hid; omega
 have H1 : Hid (∀ W, Below w.heap.size w W → SlRd msgR W a1 xs) := fun W hb => slrd_keep h1 fun k hk => hb.block k hk
 have H2 : Hid (∀ W, Below w.heap.size w W → SlRd msgR W a2 xs) := fun W hb => slrd_keep h2 fun k hk => hb.block k hk
 clear hbk hm h1 h2
 go_enter Tryz.func31, Tryz.ntmps31
 go_wp2
 go_loopw [5] (fun i wr => ∃ k : Nat, k ≤ xs.length ∧ i = .int .i64 k ∧ Below w.heap.size w wr) (fun i _ => xs.length - (intOf i).toNat)
 case atStart => exact ⟨0, Nat.zero_le _, rfl, Below.refl _ _⟩
 case round =>
  obtain ⟨k, hk, rfl, BB⟩ := hrel
  by_cases hlt : k < xs.length
  ·have hlt' : (k : Int) < (xs.length : Int) := by omega
   obtain ⟨x, hx⟩ : ∃ x, xs[k]? = some x := ⟨_, List.getElem?_eq_getElem hlt⟩
   have HX : Hid ((msgM).bk x ≤ 1152921504606846976) := by unfold Hid; have := sumbk_ge msgM xs hx; have := HB.out; omega
   obtain ⟨b1, off1, cs1, rfl, hrd1, hcell1⟩ := slrd_at (H1.out _ BB) hx
   obtain ⟨ad1, cpw1, rfl, -, -, -, -, -, -, -, -, hd1⟩ := msg_rd hrd1
   have x10 := hcell1 0 _ rfl
   have x11 := hcell1 1 _ rfl
   have x12 := hcell1 2 _ rfl
   have x13 := hcell1 3 _ rfl
   have x14 := hcell1 4 _ rfl
   have x15 := hcell1 5 _ rfl
   have x16 := hcell1 6 _ rfl
   rw [show off1 + (k * msgR.size + 0) = off1 + k * 7 from rfl] at x10
   rw [show off1 + (k * msgR.size + 1) = off1 + k * 7 + 1 from rfl] at x11
   rw [show off1 + (k * msgR.size + 2) = off1 + k * 7 + 2 from rfl] at x12
   rw [show off1 + (k * msgR.size + 3) = off1 + k * 7 + 3 from rfl] at x13
   rw [show off1 + (k * msgR.size + 4) = off1 + k * 7 + 4 from rfl] at x14
   rw [show off1 + (k * msgR.size + 5) = off1 + k * 7 + 5 from rfl] at x15
   rw [show off1 + (k * msgR.size + 6) = off1 + k * 7 + 6 from rfl] at x16
   have HR1 : Hid (∀ n : Cls (fun wx => Below wr.heap.size wr wx), SlRd intR n.w ad1 x.2.2.2.2.2.1) := fun n => slrd_next hd1 n.h
   clear hcell1 hrd1 hd1
   obtain ⟨b2, off2, cs2, rfl, hrd2, hcell2⟩ := slrd_at (H2.out _ BB) hx
   obtain ⟨ad2, cpw2, rfl, -, -, -, -, -, -, -, -, hd2⟩ := msg_rd hrd2
   have x20 := hcell2 0 _ rfl
   have x21 := hcell2 1 _ rfl
   have x22 := hcell2 2 _ rfl
   have x23 := hcell2 3 _ rfl
   have x24 := hcell2 4 _ rfl
   have x25 := hcell2 5 _ rfl
   have x26 := hcell2 6 _ rfl
   rw [show off2 + (k * msgR.size + 0) = off2 + k * 7 from rfl] at x20
   rw [show off2 + (k * msgR.size + 1) = off2 + k * 7 + 1 from rfl] at x21
   rw [show off2 + (k * msgR.size + 2) = off2 + k * 7 + 2 from rfl] at x22
   rw [show off2 + (k * msgR.size + 3) = off2 + k * 7 + 3 from rfl] at x23
   rw [show off2 + (k * msgR.size + 4) = off2 + k * 7 + 4 from rfl] at x24
   rw [show off2 + (k * msgR.size + 5) = off2 + k * 7 + 5 from rfl] at x25
   rw [show off2 + (k * msgR.size + 6) = off2 + k * 7 + 6 from rfl] at x26
   have HR2 : Hid (∀ n : Cls (fun wx => Below wr.heap.size wr wx), SlRd intR n.w ad2 x.2.2.2.2.2.1) := fun n => slrd_next hd2 n.h
   clear hcell2 hrd2 hd2
   have x10c : ∀ n : Cls (fun wx => Below wr.heap.size wr wx), n.w.cell? ⟨b1, off1 + k * 7, none⟩ = some (.int .i64 x.1) := fun n => cell_keep n.h x10 (cell_lt x10)
   have x11c : ∀ n : Cls (fun wx => Below wr.heap.size wr wx), n.w.cell? ⟨b1, off1 + k * 7 + 1, none⟩ = some (.int .i64 x.2.1) := fun n => cell_keep n.h x11 (cell_lt x11)
   have x12c : ∀ n : Cls (fun wx => Below wr.heap.size wr wx), n.w.cell? ⟨b1, off1 + k * 7 + 2, none⟩ = some (.int .i64 x.2.2.1) := fun n => cell_keep n.h x12 (cell_lt x12)
   have x13c : ∀ n : Cls (fun wx => Below wr.heap.size wr wx), n.w.cell? ⟨b1, off1 + k * 7 + 3, none⟩ = some (.int .i64 x.2.2.2.1) := fun n => cell_keep n.h x13 (cell_lt x13)
   have x14c : ∀ n : Cls (fun wx => Below wr.heap.size wr wx), n.w.cell? ⟨b1, off1 + k * 7 + 4, none⟩ = some (.int .i64 x.2.2.2.2.1) := fun n => cell_keep n.h x14 (cell_lt x14)
   have x15c : ∀ n : Cls (fun wx => Below wr.heap.size wr wx), n.w.cell? ⟨b1, off1 + k * 7 + 5, none⟩ = some (.slice ad1 x.2.2.2.2.2.1.length cpw1) := fun n => cell_keep n.h x15 (cell_lt x15)
   have x16c : ∀ n : Cls (fun wx => Below wr.heap.size wr wx), n.w.cell? ⟨b1, off1 + k * 7 + 6, none⟩ = some (.int .i64 x.2.2.2.2.2.2) := fun n => cell_keep n.h x16 (cell_lt x16)
   have x20c : ∀ n : Cls (fun wx => Below wr.heap.size wr wx), n.w.cell? ⟨b2, off2 + k * 7, none⟩ = some (.int .i64 x.1) := fun n => cell_keep n.h x20 (cell_lt x20)
   have x21c : ∀ n : Cls (fun wx => Below wr.heap.size wr wx), n.w.cell? ⟨b2, off2 + k * 7 + 1, none⟩ = some (.int .i64 x.2.1) := fun n => cell_keep n.h x21 (cell_lt x21)
   have x22c : ∀ n : Cls (fun wx => Below wr.heap.size wr wx), n.w.cell? ⟨b2, off2 + k * 7 + 2, none⟩ = some (.int .i64 x.2.2.1) := fun n => cell_keep n.h x22 (cell_lt x22)
   have x23c : ∀ n : Cls (fun wx => Below wr.heap.size wr wx), n.w.cell? ⟨b2, off2 + k * 7 + 3, none⟩ = some (.int .i64 x.2.2.2.1) := fun n => cell_keep n.h x23 (cell_lt x23)
   have x24c : ∀ n : Cls (fun wx => Below wr.heap.size wr wx), n.w.cell? ⟨b2, off2 + k * 7 + 4, none⟩ = some (.int .i64 x.2.2.2.2.1) := fun n => cell_keep n.h x24 (cell_lt x24)
   have x25c : ∀ n : Cls (fun wx => Below wr.heap.size wr wx), n.w.cell? ⟨b2, off2 + k * 7 + 5, none⟩ = some (.slice ad2 x.2.2.2.2.2.1.length cpw2) := fun n => cell_keep n.h x25 (cell_lt x25)
   have x26c : ∀ n : Cls (fun wx => Below wr.heap.size wr wx), n.w.cell? ⟨b2, off2 + k * 7 + 6, none⟩ = some (.int .i64 x.2.2.2.2.2.2) := fun n => cell_keep n.h x26 (cell_lt x26)
   clear hx x10 x11 x12 x13 x14 x15 x16 x20 x21 x22 x23 x24 x25 x26
   go_wp2_with fail
   refine region_class (fun wx => Below wr.heap.size wr wx) (by kernel_rfl) (by kernel_rfl) ((Below.refl _ wr).drew) ?_
   intro hne
   repeat (quiet_step ((go_at_call 70; exact calls_class (eqMsg_rep x.1 x.2.1 x.2.2.1 x.2.2.2.1 x.2.2.2.2.1 x.2.2.2.2.2.2 x.2.2.2.2.2.1 _ _ _ _ _ (HR1.out _) (HR2.out _) (by have := HX.out; rw [bk_msg] at this; exact this)) (fun w' hc bb => below_step hc bb))))
   refine wpQuiet_nil ?_
   intro wx b2
   replace BB := below_step BB b2
   clear b2 hne x10c x11c x12c x13c x14c x15c x16c x20c x21c x22c x23c x24c x25c x26c
   go_wp2
   go_roundw
   case rel => exact ⟨k + 1, by omega, by go_num, BB⟩
   case measure => simp [intOf]; omega
  ·go_wp2
   go_ret
   exact ⟨rfl, BB⟩
end Go.Proofs.YtiiipclglngdhaaGreatDoor
