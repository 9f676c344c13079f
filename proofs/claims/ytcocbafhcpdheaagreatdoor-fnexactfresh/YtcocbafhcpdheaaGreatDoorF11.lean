import Derived.Test.YtcocbafhcpdheaaGreatDoorF00Box
import Derived.Test.YtcocbafhcpdheaaGreatDoorF10
namespace Go.Proofs.YtcocbafhcpdheaaGreatDoor
set_option maxHeartbeats 1000000
open Go.ChangeShapes Go.WideShapes Go.ChangeAt Go.RowKit
set_option linter.unusedVariables false
theorem bk_way (u : Int × Int × List Int) : wayM.bk u = intsM.bk u.2.2 := by
 show 0 + (0 + intsM.bk u.2.2) = _
 omega
theorem szWayS_rep (a : Option Addr) (xs : List (Int × Int × List Int)) (cap : Nat) (left : Int) (w : World) (h : SlRd wayR w a xs) (h0 : 0 ≤ left) (h1 : left ≤ 1048576) (hm : xs.length ≤ maxLen) :
    Calls Tryz.prog 202 #[.slice a xs.length cap, .int .i64 left] w fun e w' => e = .returned (.int .i64 (szI ((slM wayM).bk xs) left)) ∧ Below w.heap.size w w' := by
 have hm' : xs.length ≤ 9223372036854775807 := hm;have hbk : (slM wayM).bk xs = xs.length + sumbk wayM xs := rfl;clear hm;by_cases hl : (xs.length : Int) ≤ left
 ·have hl' : ¬ (left - (xs.length : Int) < 0) := by omega
  have HB : Hid _ := hbk;have H0 : Hid (SlRd wayR w a xs) := h;clear hbk h;go_enter Tryz.func202, Tryz.ntmps202;go_wp2;go_loopw [1, 5] (fun q i wr => ∃ k : Nat, k ≤ xs.length ∧ i = .int .i64 k ∧ (sumbk wayM (xs.take k) : Int) + xs.length ≤ left ∧ q = .int .i64 (left - (xs.length : Int) - sumbk wayM (xs.take k)) ∧ Below w.heap.size w wr) (fun _ i _ => xs.length - (intOf i).toNat)
  case atStart => exact ⟨0, Nat.zero_le _, rfl, by simp [sumbk]; omega, by simp [sumbk], Below.refl _ _⟩
  case round =>
   obtain ⟨k, hk, rfl, ht, rfl, BB⟩ := hrel;by_cases hlt : k < xs.length
   ·have hlt' : (k : Int) < (xs.length : Int) := by omega
    obtain ⟨x, hx⟩ : ∃ x, xs[k]? = some x := ⟨_, List.getElem?_eq_getElem hlt⟩;have H2 := slrd_keep H0.out fun k hk => BB.block k hk;obtain ⟨b, off, cs, rfl, hrdx, hcell⟩ := slrd_at H2 hx;obtain ⟨ad, cpw, rfl, -, -, hd1, hd2, hd3⟩ := way_rd hrdx;have x0 := hcell 0 _ rfl;have x1 := hcell 1 _ rfl;have x2 := hcell 2 _ rfl;rw [show off + (k * wayR.size + 0) = off + k * 3 from rfl] at x0;rw [show off + (k * wayR.size + 1) = off + k * 3 + 1 from rfl] at x1;rw [show off + (k * wayR.size + 2) = off + k * 3 + 2 from rfl] at x2;have HX : Hid (x.2.2.length ≤ maxLen) := Nat.le_trans hd1 hd2;have HR : Hid (SlRd intR wr ad x.2.2) := hd3;clear hcell hrdx hd1 hd2 hd3;have HT : Hid _ := sumbk_step (M := wayM) hx;have hxs := sumbk_get (M := wayM) hx;clear hx H2;generalize sumbk wayM (xs.take k) = T at ht HT hxs ⊢;by_cases hf : (((wayM).bk x : Nat) : Int) ≤ left - (xs.length : Int) - (T : Int)
    ·have hf' : ¬ (left - (xs.length : Int) - (T : Int) - (((wayM).bk x : Nat) : Int) < 0) := by omega
     have HS : Hid (szI ((wayM).bk x) (left - (xs.length : Int) - (T : Int)) = _) := szI_yes hf;go_wp2_with (go_at_call 110; refine (szWay_rep x.1 x.2.1 x.2.2 _ _ _ _ (by omega) (by omega) HX.out).mono ?_; rintro e w' ⟨rfl, bb⟩; replace BB := below_step BB bb; clear bb; rw [HS.out])
     go_roundw
     case rel => exact ⟨k + 1, by omega, by go_num, by have := HT.out; omega, by rw [HT.out]; go_num, BB⟩
     case measure => simp [intOf]; omega
    ·have HS : Hid (szI ((wayM).bk x) (left - (xs.length : Int) - (T : Int)) = _) := szI_no hf;have HN : Hid (szI ((slM wayM).bk xs) left = -1) := by unfold Hid; rw [HB.out]; exact szI_no (by omega)
     go_wp2_with (go_at_call 110; refine (szWay_rep x.1 x.2.1 x.2.2 _ _ _ _ (by omega) (by omega) HX.out).mono ?_; rintro e w' ⟨rfl, bb⟩; replace BB := below_step BB bb; clear bb; rw [HS.out])
     go_ret
     exact ⟨ret_int HN.out.symm, BB⟩
   ·have hkl : k = xs.length := by omega
    subst hkl;rw [List.take_length] at ht ⊢;have HN : Hid (szI ((slM wayM).bk xs) left = left - (xs.length : Int) - (sumbk wayM xs : Int)) := by unfold Hid; rw [HB.out, szI_yes (by omega)]; omega
    go_wp2;go_ret
    exact ⟨ret_int HN.out.symm, BB⟩
 ·have hl' : left - (xs.length : Int) < 0 := by omega
  rw [szI_no (by omega)];clear hbk h;go_enter Tryz.func202, Tryz.ntmps202;go_wp2;go_ret
  exact ⟨rfl, Below.refl _ _⟩
theorem szWaySS_rep (a : Option Addr) (xs : List (List (Int × Int × List Int))) (cap : Nat) (left : Int) (w : World) (h : SlRd waysR w a xs) (h0 : 0 ≤ left) (h1 : left ≤ 1048576) (hm : xs.length ≤ maxLen) :
    Calls Tryz.prog 157 #[.slice a xs.length cap, .int .i64 left] w fun e w' => e = .returned (.int .i64 (szI ((slM waysM).bk xs) left)) ∧ Below w.heap.size w w' := by
 have hm' : xs.length ≤ 9223372036854775807 := hm;have hbk : (slM waysM).bk xs = xs.length + sumbk waysM xs := rfl;clear hm;by_cases hl : (xs.length : Int) ≤ left
 ·have hl' : ¬ (left - (xs.length : Int) < 0) := by omega
  have HB : Hid _ := hbk;have H0 : Hid (SlRd waysR w a xs) := h;clear hbk h;go_enter Tryz.func157, Tryz.ntmps157;go_wp2;go_loopw [1, 5] (fun q i wr => ∃ k : Nat, k ≤ xs.length ∧ i = .int .i64 k ∧ (sumbk waysM (xs.take k) : Int) + xs.length ≤ left ∧ q = .int .i64 (left - (xs.length : Int) - sumbk waysM (xs.take k)) ∧ Below w.heap.size w wr) (fun _ i _ => xs.length - (intOf i).toNat)
  case atStart => exact ⟨0, Nat.zero_le _, rfl, by simp [sumbk]; omega, by simp [sumbk], Below.refl _ _⟩
  case round =>
   obtain ⟨k, hk, rfl, ht, rfl, BB⟩ := hrel;by_cases hlt : k < xs.length
   ·have hlt' : (k : Int) < (xs.length : Int) := by omega
    obtain ⟨x, hx⟩ : ∃ x, xs[k]? = some x := ⟨_, List.getElem?_eq_getElem hlt⟩;have H2 := slrd_keep H0.out fun k hk => BB.block k hk;obtain ⟨b, off, cs, rfl, ⟨aj, cj, rfl, hd1, hd2, hd3⟩, hcell⟩ := slrd_at H2 hx;have x0 := hcell 0 _ rfl;rw [show k * waysR.size + 0 = k from Nat.mul_one k] at x0;have HX : Hid (x.length ≤ maxLen) := Nat.le_trans hd1 hd2;have HR : Hid (SlRd wayR wr aj x) := hd3;clear hcell hd1 hd2 hd3;have HT : Hid _ := sumbk_step (M := waysM) hx;have hxs := sumbk_get (M := waysM) hx;clear hx H2;generalize sumbk waysM (xs.take k) = T at ht HT hxs ⊢;by_cases hf : (((waysM).bk x : Nat) : Int) ≤ left - (xs.length : Int) - (T : Int)
    ·have hf' : ¬ (left - (xs.length : Int) - (T : Int) - (((waysM).bk x : Nat) : Int) < 0) := by omega
     have HS : Hid (szI ((waysM).bk x) (left - (xs.length : Int) - (T : Int)) = _) := szI_yes hf;go_wp2_with (go_at_call 202; refine (szWayS_rep _ x _ _ _ HR.out (by omega) (by omega) HX.out).mono ?_; rintro e w' ⟨rfl, bb⟩; replace BB := below_step BB bb; clear bb; rw [HS.out])
     go_roundw
     case rel => exact ⟨k + 1, by omega, by go_num, by have := HT.out; omega, by rw [HT.out]; go_num, BB⟩
     case measure => simp [intOf]; omega
    ·have HS : Hid (szI ((waysM).bk x) (left - (xs.length : Int) - (T : Int)) = _) := szI_no hf;have HN : Hid (szI ((slM waysM).bk xs) left = -1) := by unfold Hid; rw [HB.out]; exact szI_no (by omega)
     go_wp2_with (go_at_call 202; refine (szWayS_rep _ x _ _ _ HR.out (by omega) (by omega) HX.out).mono ?_; rintro e w' ⟨rfl, bb⟩; replace BB := below_step BB bb; clear bb; rw [HS.out])
     go_ret
     exact ⟨ret_int HN.out.symm, BB⟩
   ·have hkl : k = xs.length := by omega
    subst hkl;rw [List.take_length] at ht ⊢;have HN : Hid (szI ((slM waysM).bk xs) left = left - (xs.length : Int) - (sumbk waysM xs : Int)) := by unfold Hid; rw [HB.out, szI_yes (by omega)]; omega
    go_wp2;go_ret
    exact ⟨ret_int HN.out.symm, BB⟩
 ·have hl' : left - (xs.length : Int) < 0 := by omega
  rw [szI_no (by omega)];clear hbk h;go_enter Tryz.func157, Tryz.ntmps157;go_wp2;go_ret
  exact ⟨rfl, Below.refl _ _⟩
theorem szCache_rep (a b : Option Addr) (c : List (List (Int × Int × List Int)) × List Int) (cap cp : Nat) (left : Int) (w : World) (h : SlRd waysR w a c.1) (h0 : 0 ≤ left) (h1 : left ≤ 1048576) (m1 : c.1.length ≤ maxLen) (m2 : c.2.length ≤ maxLen) :
    Calls Tryz.prog 108 #[.agg #[.slice a c.1.length cap, .slice b c.2.length cp], .int .i64 left] w fun e w' => e = .returned (.int .i64 (szI (cacheM.bk c) left)) ∧ Below w.heap.size w w' := by
 have hbk : cacheM.bk c = setsM.bk c.1 + intsM.bk c.2 := rfl;rw [hbk];have X := heap_alloc_new w (.cells #[.slice a c.1.length cap, .slice b c.2.length cp] 101);have BX := box_below w (.cells #[.slice a c.1.length cap, .slice b c.2.length cp] 101);have H : Hid (∀ o, SlRd waysR (w.alloc o) a c.1) := fun o => slrd_next h (box_below w o);clear h hbk;generalize hn1 : setsM.bk c.1 = n1;generalize hn2 : intsM.bk c.2 = n2;have C1 := szWaySS_rep a c.1 cap left (w.alloc (.cells #[.slice a c.1.length cap, .slice b c.2.length cp] 101)) (H.out _) h0 h1 m1;rw [hn1] at C1;by_cases hl : (n1 : Int) ≤ left
 ·rw [szI_yes hl] at C1;have hl' : ¬ (left - (n1 : Int) < 0) := by omega
  have C2 : Hid (∀ W, Calls Tryz.prog 106 #[.slice b c.2.length cp, .int .i64 (left - (n1 : Int))] W fun e w' => e = .returned (.int .i64 (szI n2 (left - (n1 : Int)))) ∧ w' = W) := fun W => by
   have := szInt64S_rep b c.2 cp (left - (n1 : Int)) W (by omega) (by omega) m2;rwa [hn2] at this
  clear hn1 hn2 H m1 m2;by_cases hl2 : (n2 : Int) ≤ left - (n1 : Int)
  ·have HR : Hid (szI (n1 + n2) left = left - (n1 : Int) - (n2 : Int)) := by unfold Hid; rw [szI_yes (by omega)]; omega
   have hl2' : ¬ (left - (n1 : Int) - (n2 : Int) < 0) := by omega
   have HS : Hid (szI n2 (left - (n1 : Int)) = left - (n1 : Int) - (n2 : Int)) := szI_yes hl2;go_enter Tryz.func108, Tryz.ntmps108;go_wp2_with fail
   refine C1.mono ?_;rintro e w1 ⟨rfl, b1⟩;obtain ⟨y0, y1⟩ := cell_two (row_keep b1 X);have BB := below_step BX b1;clear b1 X BX C1;go_wp2_with (go_at_call 106; refine (C2.out _).mono ?_; rintro e w' ⟨rfl, rfl⟩; rw [HS.out])
   go_ret
   exact ⟨ret_int HR.out.symm, BB⟩
  ·have HR : Hid (szI (n1 + n2) left = -1) := by unfold Hid; exact szI_no (by omega)
   have HS : Hid (szI n2 (left - (n1 : Int)) = -1) := szI_no hl2;go_enter Tryz.func108, Tryz.ntmps108;go_wp2_with fail
   refine C1.mono ?_;rintro e w1 ⟨rfl, b1⟩;obtain ⟨y0, y1⟩ := cell_two (row_keep b1 X);have BB := below_step BX b1;clear b1 X BX C1;go_wp2_with (go_at_call 106; refine (C2.out _).mono ?_; rintro e w' ⟨rfl, rfl⟩; rw [HS.out])
   go_ret
   exact ⟨ret_int HR.out.symm, BB⟩
 ·rw [szI_no hl] at C1;have HR : Hid (szI (n1 + n2) left = -1) := by unfold Hid; exact szI_no (by omega)
  clear hn1 hn2 H m1 m2;go_enter Tryz.func108, Tryz.ntmps108;go_wp2_with fail
  refine C1.mono ?_;rintro e w1 ⟨rfl, b1⟩;obtain ⟨y0, y1⟩ := cell_two (row_keep b1 X);have BB := below_step BX b1;clear b1 X BX C1;go_wp2;go_ret
  exact ⟨ret_int HR.out.symm, BB⟩
theorem cells_3 {w : World} {g : Nat} {x y z : Value} {t : TypeId} (h : w.heap[g]? = some (.cells #[x, y, z] t (0, 0))) :
    w.cell? ⟨g, 0, none⟩ = some x ∧ w.cell? ⟨g, 1, none⟩ = some y ∧ w.cell? ⟨g, 2, none⟩ = some z :=
 ⟨by rw [cell_of_row w g 0 _ t (0, 0) h]; rfl, by rw [cell_of_row w g 1 _ t (0, 0) h]; rfl, by rw [cell_of_row w g 2 _ t (0, 0) h]; rfl⟩
theorem cells_froz {w : World} {g : Nat} {cs : Array Value} {t : TypeId} (h : w.heap[g]? = some (.cells cs t (0, 0))) : w.frozen? ⟨g, 0, none⟩ = false ∧ w.frozen? ⟨g, 1, none⟩ = false ∧ w.frozen? ⟨g, 2, none⟩ = false :=
 ⟨frozen_of_row w g 0 _ t h, frozen_of_row w g 1 _ t h, frozen_of_row w g 2 _ t h⟩
theorem put3 {w : World} {g : Nat} {x y z a b c : Value} {t : TypeId} (h : w.heap[g]? = some (.cells #[x, y, z] t (0, 0))) :
    (((w.setCell ⟨g, 0, none⟩ a).setCell ⟨g, 1, none⟩ b).setCell ⟨g, 2, none⟩ c).heap[g]? = some (.cells #[a, b, c] t (0, 0)) := by
 have h1 := heap_setCell_same w g 0 _ t a h;have h2 := heap_setCell_same _ g 1 _ t b h1;exact heap_setCell_same _ g 2 _ t c h2
theorem put2 {w : World} {g : Nat} {x y a b : Value} {t : TypeId} (h : w.heap[g]? = some (.cells #[x, y] t (0, 0))) :
    ((w.setCell ⟨g, 0, none⟩ a).setCell ⟨g, 1, none⟩ b).heap[g]? = some (.cells #[a, b] t (0, 0)) := by
 have h1 := heap_setCell_same w g 0 _ t a h;exact heap_setCell_same _ g 1 _ t b h1
theorem toWay_rep (l s : Int) (d : List Int) (a : Option Addr) (cap : Nat) (w : World) (i1 : In64 l) (i2 : In64 s) (h : SlRd intR w a d) (hm : intsM.bk d ≤ 1048576) :
    Calls Tryz.prog 116 #[.agg #[.int .i64 l, .int .i64 s, .slice a d.length cap]] w fun e w' => ∃ av cv, e = .returned (.agg #[.int .i64 l, .int .i64 s, .slice av d.length cv]) ∧ MadeR wayR w w' [.int .i64 l, .int .i64 s, .slice av d.length cv] (l, s, d) := by
 have H : Hid (∀ W, Below w.heap.size w W → SlRd intR W a d) := fun W hb => slrd_keep h fun k hk => hb.block k hk;clear h;go_enter Tryz.func116, Tryz.ntmps116;go_wp2_with fail
 have B0 : Below w.heap.size w (((w.alloc (.cells #[.int .i64 l, .int .i64 s, .slice a d.length cap] 103)).alloc (.cells #[.int .i64 0, .int .i64 0, .slice none 0 0] 88)).alloc (.cells #[.int .i64 l, .int .i64 s, .slice none 0 0] 88)) := (((Below.refl _ w).alloc (Nat.le_refl _) _).alloc (by simp) _).alloc (by simp; omega) _;have X1 := heap_on (.cells #[.int .i64 l, .int .i64 s, .slice none 0 0] 88) (heap_at (w.alloc (.cells #[.int .i64 l, .int .i64 s, .slice a d.length cap] 103)) (.cells #[.int .i64 0, .int .i64 0, .slice none 0 0] 88));have X2 := heap_at ((w.alloc (.cells #[.int .i64 l, .int .i64 s, .slice a d.length cap] 103)).alloc (.cells #[.int .i64 0, .int .i64 0, .slice none 0 0] 88)) (.cells #[.int .i64 l, .int .i64 s, .slice none 0 0] 88);have e3 : (((w.alloc (.cells #[.int .i64 l, .int .i64 s, .slice a d.length cap] 103)).alloc (.cells #[.int .i64 0, .int .i64 0, .slice none 0 0] 88)).alloc (.cells #[.int .i64 l, .int .i64 s, .slice none 0 0] 88)).heap.size = w.heap.size + 1 + 1 + 1 := by simp
 rw [alloc_len] at X1;rw [alloc_len, alloc_len] at X2;generalize ((w.alloc (.cells #[.int .i64 l, .int .i64 s, .slice a d.length cap] 103)).alloc (.cells #[.int .i64 0, .int .i64 0, .slice none 0 0] 88)).alloc (.cells #[.int .i64 l, .int .i64 s, .slice none 0 0] 88) = W0 at B0 X1 X2 e3 ⊢;refine (toInt64S_rep _ d _ _ (H.out _ B0) hm).mono ?_;rintro e w1 ⟨v, rfl, mm⟩;obtain ⟨av, cv, rfl⟩ := slown_val mm.1;have hm2 := mm.2;have hown := mm.1;have B1 := below_step B0 hm2;replace X1 := row_keep hm2 X1;replace X2 := row_keep hm2 X2;obtain ⟨y0, y1, y2⟩ := cells_3 X2;obtain ⟨f0, f1, f2⟩ := cells_froz X2;obtain ⟨z0, z1, z2⟩ := cells_3 X1;obtain ⟨g0, g1, g2⟩ := cells_froz X1;have HX : Hid _ := And.intro X1 X2;have HO : Hid _ := hown;clear X1 X2 hown mm H;go_wp2;obtain ⟨X1, X2⟩ := HX.out;have Y1 := put3 (a := .int .i64 l) (b := .int .i64 s) (c := .slice av d.length cv) (heap_setC (g := w.heap.size + 1 + 1) (o := 2) (v := .slice av d.length cv) X1 (by omega));obtain ⟨r0, r1, r2⟩ := cells_3 Y1;refine bodyPost_ret (v := .agg #[.int .i64 l, .int .i64 s, .slice av d.length cv]) (by simp [results, Tryz.results116, go_sem, r0, r1, r2]) rfl ⟨av, cv, rfl, own_way i1 i2 ?_, ?_⟩
 ·refine intsR.own_mono (own_setC (own_setC (own_setC (own_setC HO.out (fun h => by have := h.1; omega)) (fun h => by have := h.1; omega)) (fun h => by have := h.1; omega)) (fun h => by have := h.1; omega)) ?_;exact rng_sub (by omega) (by simp)
 ·exact below_setC (below_setC (below_setC (below_setC B1 (by omega)) (by omega)) (by omega)) (by omega)
theorem Tryz.infoWay : (Tryz.prog.info? 88).map (fun i => (i.zero, i.size, i.bytes)) = some (some (.agg #[.int .i64 0, .int .i64 0, .slice none 0 0]), 3, 40) := by kernel_rfl
theorem toWayS_rep (a : Option Addr) (xs : List (Int × Int × List Int)) (cap : Nat) (w : World) (h : SlRd wayR w a xs) (hm : waysM.bk xs ≤ 1048576) :
    Calls Tryz.prog 203 #[.slice a xs.length cap] w fun e w' => ∃ v, e = .returned v ∧ MadeR waysR w w' [v] xs := by
 have hbk : waysM.bk xs = xs.length + sumbk wayM xs := rfl;have hln : xs.length ≤ 1048576 := by omega
 have HB : Hid (sumbk wayM xs ≤ 1048576) := by unfold Hid; omega
 have H0 : Hid (SlRd wayR w a xs) := h;clear hbk hm h;have hmk := run_make_wide (P := Tryz.prog) 143 88 (.agg #[.int .i64 0, .int .i64 0, .slice none 0 0]) 3 40 Tryz.underlying143 Tryz.infoWay xs.length (by omega) (by omega);go_enter Tryz.func203, Tryz.ntmps203;go_wp2;go_loopw [4] (fun i wr => ∃ k : Nat, k ≤ xs.length ∧ i = .int .i64 k ∧ Fill 88 wayR w wr xs.length (xs.take k)) (fun i _ => xs.length - (intOf i).toNat)
 case atStart => exact ⟨0, Nat.zero_le _, rfl, by simpa using fillR_start (e := 88) (R := wayR) (w0 := w) (n := xs.length) (cs := madeCells #[.int .i64 0, .int .i64 0, .slice none 0 0] (xs.length * 3)) (by unfold maxLen; omega) (by rw [size_madeCells]; rfl)⟩
 case round =>
  obtain ⟨k, hk, rfl, hF⟩ := hrel;by_cases hlt : k < xs.length
  ·have hlt' : (k : Int) < (xs.length : Int) := by omega
   obtain ⟨x, hx⟩ : ∃ x, xs[k]? = some x := ⟨_, List.getElem?_eq_getElem hlt⟩;obtain ⟨b, off, cs, rfl, hrdx, hcell⟩ := slrd_at (slrd_next H0.out (fill_below hF)) hx;obtain ⟨ad, cpw, rfl, i1, i2, hd1, hd2, hd3⟩ := way_rd hrdx;have x0 := hcell 0 _ rfl;have x1 := hcell 1 _ rfl;have x2 := hcell 2 _ rfl;rw [show off + (k * wayR.size + 0) = off + k * 3 from rfl] at x0;rw [show off + (k * wayR.size + 1) = off + k * 3 + 1 from rfl] at x1;rw [show off + (k * wayR.size + 2) = off + k * 3 + 2 from rfl] at x2;have HX : Hid (intsM.bk x.2.2 ≤ 1048576) := by unfold Hid; have := sumbk_ge wayM xs hx; rw [bk_way] at this; have := HB.out; omega
   have HR : Hid (SlRd intR wr ad x.2.2) := hd3;have HI : Hid (In64 x.1 ∧ In64 x.2.1) := ⟨i1, i2⟩;have FS : Hid (∀ w1 c, MadeR wayR wr w1 c x → _) := fun w1 c hm => fillR_step (w1 := w1) (c := c) hF (by simp; omega) hlt hm;have HP : Hid (xs.take k ++ [x] = xs.take (k + 1)) := by unfold Hid; rw [List.take_add_one, hx]; rfl
   clear hx hrdx hcell hmk hF hd1 hd2 hd3 i1 i2;go_wp2_with fail
   refine (toWay_rep x.1 x.2.1 x.2.2 _ _ _ HI.out.1 HI.out.2 HR.out HX.out).mono ?_;rintro e w1 ⟨av, cv, rfl, mm⟩;obtain ⟨q1, q2, F1⟩ := FS.out _ _ mm;obtain ⟨v0, hv0⟩ := q1 0 (by decide);obtain ⟨v1, hv1⟩ := q1 1 (by decide);obtain ⟨v2, hv2⟩ := q1 2 (by decide);have z0 := q2 (k * 3);have z1 := q2 (k * 3 + 1);have z2 := q2 (k * 3 + 2);rw [show k * wayR.size + 0 = k * 3 from rfl] at hv0;rw [show k * wayR.size + 1 = k * 3 + 1 from rfl] at hv1;rw [show k * wayR.size + 2 = k * 3 + 2 from rfl] at hv2;rw [HP.out] at F1;have HF : Hid _ := F1;clear F1 mm q1 q2 FS x0 x1 x2;go_wp2;go_roundw
   case rel => exact ⟨k + 1, by omega, by go_num, HF.out⟩
   case measure => simp [intOf]; omega
  ·have hkl : k = xs.length := by omega
   subst hkl;rw [List.take_length] at hF;have FE := fillR_end hF rfl;clear hF;go_wp2;go_ret
   exact ⟨_, rfl, FE⟩
theorem cell_kp {w w' : World} {D b o : Nat} {u : Value} (hb : Below D w w') (h : w.cell? ⟨b, o, none⟩ = some u) (hl : b < D) : w'.cell? ⟨b, o, none⟩ = some u :=
 (World.cell?_of_block (w := w) (a := ⟨b, o, none⟩) (hb.block b hl)).trans h
theorem cell_l {w : World} {b o : Nat} {u : Value} (h : w.cell? ⟨b, o, none⟩ = some u) : b < w.heap.size := World.block_lt_of_cell? w _ h
theorem Tryz.infoWayS : (Tryz.prog.info? 143).map (fun i => (i.zero, i.size, i.bytes)) = some (some (.slice none 0 0), 1, 24) := by kernel_rfl
theorem toWaySS_rep (a : Option Addr) (xs : List (List (Int × Int × List Int))) (cap : Nat) (w : World) (h : SlRd waysR w a xs) (hm : setsM.bk xs ≤ 1048576) :
    Calls Tryz.prog 158 #[.slice a xs.length cap] w fun e w' => ∃ v, e = .returned v ∧ MadeR setsR w w' [v] xs := by
 have hbk : setsM.bk xs = xs.length + sumbk waysM xs := rfl;have hln : xs.length ≤ 1048576 := by omega
 have HB : Hid (sumbk waysM xs ≤ 1048576) := by unfold Hid; omega
 have H0 : Hid (SlRd waysR w a xs) := h;clear hbk hm h;have hmk := Go.run_make_row' (P := Tryz.prog) 90 143 (.slice none 0 0) 24 Tryz.underlying90 Tryz.infoWayS rfl .i64 .i64 xs.length (by omega) (by omega);go_enter Tryz.func158, Tryz.ntmps158;go_wp2;go_loopw [4] (fun i wr => ∃ k : Nat, k ≤ xs.length ∧ i = .int .i64 k ∧ Fill 143 waysR w wr xs.length (xs.take k)) (fun i _ => xs.length - (intOf i).toNat)
 case atStart => exact ⟨0, Nat.zero_le _, rfl, by simpa using fillR_start (e := 143) (R := waysR) (w0 := w) (n := xs.length) (cs := madeCells #[.slice none 0 0] xs.length) (by unfold maxLen; omega) (by simp [size_madeCells]; exact (Nat.mul_one _).symm)⟩
 case round =>
  obtain ⟨k, hk, rfl, hF⟩ := hrel;by_cases hlt : k < xs.length
  ·have hlt' : (k : Int) < (xs.length : Int) := by omega
   obtain ⟨x, hx⟩ : ∃ x, xs[k]? = some x := ⟨_, List.getElem?_eq_getElem hlt⟩;obtain ⟨b, off, c, rfl, ⟨aj, cj, rfl, hc1, hc2, hrd⟩, hcell⟩ := slrd_at (slrd_next H0.out (fill_below hF)) hx;have g1 := hcell 0 _ rfl;rw [show k * waysR.size + 0 = k from Nat.mul_one k] at g1;have HR : Hid _ := hrd;have HX : Hid (waysM.bk x ≤ 1048576) := by unfold Hid; have := sumbk_ge waysM xs hx; have := HB.out; omega
   have FS : Hid (∀ w1 v, MadeR waysR wr w1 [v] x → _) := fun w1 v hm => fillR_step (w1 := w1) (c := [v]) hF (by simp; omega) hlt hm;have HP : Hid (xs.take k ++ [x] = xs.take (k + 1)) := by unfold Hid; rw [List.take_add_one, hx]; rfl
   clear hx hrd hcell hmk hF;go_wp2_with (go_at_call 203; refine (toWayS_rep _ x _ _ HR.out HX.out).mono ?_; rintro e w1 ⟨v, rfl, mm⟩; obtain ⟨av, cv, rfl⟩ := slown_val mm.1; obtain ⟨q1, q2, F1⟩ := FS.out _ _ mm; obtain ⟨v0, hv0⟩ := q1 0 (Nat.zero_lt_one); have hfz := q2 k; rw [show k * waysR.size + 0 = k from Nat.mul_one k] at hv0; rw [show k * waysR.size = k from Nat.mul_one k, HP.out] at F1; have HF : Hid _ := F1; clear F1 mm q1 q2)
   go_roundw
   case rel => exact ⟨k + 1, by omega, by go_num, HF.out⟩
   case measure => simp [intOf]; omega
  ·have hkl : k = xs.length := by omega
   subst hkl;rw [List.take_length] at hF;have FE := fillR_end hF rfl;clear hF;go_wp2;go_ret
   exact ⟨_, rfl, FE⟩
theorem own_cache {w : World} {S S1 S2 : Foot} {c : List (List (Int × Int × List Int)) × List Int} {u v : Value} (h1 : setsR.own w S1 [u] c.1) (h2 : intsR.own w S2 [v] c.2) (s1 : Sub S1 S) (s2 : Sub S2 S) (hd : Dis S1 S2) : cacheR.own w S [u, v] c :=
 ⟨[_], [_], S1, S2, rfl, h1, h2, s1, s2, hd⟩
theorem cells_froz2 {w : World} {g : Nat} {cs : Array Value} {t : TypeId} (h : w.heap[g]? = some (.cells cs t (0, 0))) : w.frozen? ⟨g, 0, none⟩ = false ∧ w.frozen? ⟨g, 1, none⟩ = false :=
 ⟨frozen_of_row w g 0 _ t h, frozen_of_row w g 1 _ t h⟩
theorem toCache_rep (a b : Option Addr) (c : List (List (Int × Int × List Int)) × List Int) (cap cp : Nat) (w : World) (h1 : SlRd waysR w a c.1) (h2 : SlRd intR w b c.2) (hm : cacheM.bk c ≤ 1048576) :
    Calls Tryz.prog 114 #[.agg #[.slice a c.1.length cap, .slice b c.2.length cp]] w fun e w' => ∃ av cv bv dv, e = .returned (.agg #[.slice av c.1.length cv, .slice bv c.2.length dv]) ∧ MadeR cacheR w w' [.slice av c.1.length cv, .slice bv c.2.length dv] c := by
 have hbk : cacheM.bk c = setsM.bk c.1 + intsM.bk c.2 := rfl;have H1 : Hid (∀ W, Below w.heap.size w W → SlRd waysR W a c.1) := fun W hb => slrd_keep h1 fun k hk => hb.block k hk;have H2 : Hid (∀ W, Below w.heap.size w W → SlRd intR W b c.2) := fun W hb => slrd_keep h2 fun k hk => hb.block k hk;have hm1 : Hid (setsM.bk c.1 ≤ 1048576) := by unfold Hid; omega
 have hm2 : Hid (intsM.bk c.2 ≤ 1048576) := by unfold Hid; omega
 clear h1 h2 hbk hm;go_enter Tryz.func114, Tryz.ntmps114;go_wp2_with fail
 have B0 : Below w.heap.size w (((w.alloc (.cells #[.slice a c.1.length cap, .slice b c.2.length cp] 101)).alloc (.cells #[.slice none 0 0, .slice none 0 0] 92)).alloc (.cells #[.slice none 0 0, .slice none 0 0] 92)) := (((Below.refl _ w).alloc (Nat.le_refl _) _).alloc (by simp) _).alloc (by simp; omega) _;have X0 := heap_on (.cells #[.slice none 0 0, .slice none 0 0] 92) (heap_on (.cells #[.slice none 0 0, .slice none 0 0] 92) (heap_at w (.cells #[.slice a c.1.length cap, .slice b c.2.length cp] 101)));have X1 := heap_on (.cells #[.slice none 0 0, .slice none 0 0] 92) (heap_at (w.alloc (.cells #[.slice a c.1.length cap, .slice b c.2.length cp] 101)) (.cells #[.slice none 0 0, .slice none 0 0] 92));have X2 := heap_at ((w.alloc (.cells #[.slice a c.1.length cap, .slice b c.2.length cp] 101)).alloc (.cells #[.slice none 0 0, .slice none 0 0] 92)) (.cells #[.slice none 0 0, .slice none 0 0] 92);have e3 : (((w.alloc (.cells #[.slice a c.1.length cap, .slice b c.2.length cp] 101)).alloc (.cells #[.slice none 0 0, .slice none 0 0] 92)).alloc (.cells #[.slice none 0 0, .slice none 0 0] 92)).heap.size = w.heap.size + 1 + 1 + 1 := by simp
 rw [alloc_len] at X1;rw [alloc_len, alloc_len] at X2;generalize ((w.alloc (.cells #[.slice a c.1.length cap, .slice b c.2.length cp] 101)).alloc (.cells #[.slice none 0 0, .slice none 0 0] 92)).alloc (.cells #[.slice none 0 0, .slice none 0 0] 92) = W0 at B0 X0 X1 X2 e3 ⊢;refine (toWaySS_rep _ c.1 _ _ (H1.out _ B0) hm1.out).mono ?_;rintro e w1 ⟨v, rfl, mm⟩;obtain ⟨av, cv, rfl⟩ := slown_val mm.1;have hs1 := mm.2.size;have B1 := below_step B0 mm.2;have HO1 : Hid (setsR.own w1 (rng W0.heap.size w1.heap.size) [.slice av c.1.length cv] c.1) := mm.1;replace X0 := row_keep mm.2 X0;replace X1 := row_keep mm.2 X1;replace X2 := row_keep mm.2 X2;obtain ⟨p0, p1⟩ := cell_two X0;obtain ⟨y0, y1⟩ := cell_two X2;obtain ⟨f0, f1⟩ := cells_froz2 X2;have HX : Hid _ := And.intro X1 X2;clear X0 X1 X2 mm H1 hm1;go_wp2_with fail
 obtain ⟨X1, X2⟩ := HX.out;have B2 := below_setC (g := w.heap.size + 1 + 1) (o := 0) (v := .slice av c.1.length cv) B1 (by omega);have Y2 := heap_setCell_same w1 (w.heap.size + 1 + 1) 0 _ _ (.slice av c.1.length cv) X2;have Y1 := heap_setC (g := w.heap.size + 1 + 1) (o := 0) (v := .slice av c.1.length cv) X1 (by omega);have HO2 := own_setC (g := w.heap.size + 1 + 1) (o := 0) (v := .slice av c.1.length cv) HO1.out (fun h => by have := h.1; omega);have hs2 : (w1.setCell ⟨w.heap.size + 1 + 1, 0, none⟩ (.slice av c.1.length cv)).heap.size = w1.heap.size := by simp
 clear X1 X2 HX HO1 f0 f1 y0 y1 B0 B1 p0 p1;generalize w1.setCell ⟨w.heap.size + 1 + 1, 0, none⟩ (.slice av c.1.length cv) = w2 at B2 Y1 Y2 HO2 hs2 ⊢;refine (toInt64S_rep _ c.2 _ _ (H2.out _ B2) hm2.out).mono ?_;rintro e w3 ⟨v, rfl, mm⟩;obtain ⟨bv, dv, rfl⟩ := slown_val mm.1;have hs3 := mm.2.size;have B3 := below_step B2 mm.2;have HO3 : Hid (setsR.own w3 (rng W0.heap.size w1.heap.size) [.slice av c.1.length cv] c.1) := own_stay HO2 mm.2 (by omega);have HO4 : Hid (intsR.own w3 (rng w2.heap.size w3.heap.size) [.slice bv c.2.length dv] c.2) := mm.1;replace Y1 := row_keep mm.2 Y1;replace Y2 := row_keep mm.2 Y2;obtain ⟨y0, y1⟩ := cell_two Y2;obtain ⟨f0, f1⟩ := cells_froz2 Y2;obtain ⟨z0, z1⟩ := cell_two Y1;obtain ⟨g0, g1⟩ := cells_froz2 Y1;have HX : Hid _ := And.intro Y1 Y2;clear Y1 Y2 mm H2 hm2 HO2 B2;go_wp2;obtain ⟨Y1, Y2⟩ := HX.out;have V1 := put2 (a := .slice av c.1.length cv) (b := .slice bv c.2.length dv) (heap_setC (g := w.heap.size + 1 + 1) (o := 1) (v := .slice bv c.2.length dv) Y1 (by omega));obtain ⟨r0, r1⟩ := cell_two V1;refine bodyPost_ret (v := .agg #[.slice av c.1.length cv, .slice bv c.2.length dv]) (by simp [results, Tryz.results114, go_sem, r0, r1]) rfl ⟨av, cv, bv, dv, rfl, own_cache (S1 := rng W0.heap.size w1.heap.size) (S2 := rng w2.heap.size w3.heap.size) ?_ ?_ (rng_sub (by omega) (by simp; omega)) (rng_sub (by omega) (by simp)) (rng_dis (.inl (by omega))), ?_⟩
 ·exact own_setC (own_setC (own_setC HO3.out (fun h => by have := h.1; omega)) (fun h => by have := h.1; omega)) (fun h => by have := h.1; omega)
 ·exact own_setC (own_setC (own_setC HO4.out (fun h => by have := h.1; omega)) (fun h => by have := h.1; omega)) (fun h => by have := h.1; omega)
 ·exact below_setC (below_setC (below_setC B3 (by omega)) (by omega)) (by omega)
theorem eqWay_rep (l s : Int) (d : List Int) (a1 a2 : Option Addr) (c1 c2 : Nat) (w : World) (h1 : SlRd intR w a1 d) (h2 : SlRd intR w a2 d) (hm : intsM.bk d ≤ 1152921504606846976) :
    Calls Tryz.prog 136 #[.agg #[.int .i64 l, .int .i64 s, .slice a1 d.length c1], .agg #[.int .i64 l, .int .i64 s, .slice a2 d.length c2]] w fun e w' => e = .returned (.bool true) ∧ Below w.heap.size w w' := by
 have HB : Hid (∀ o o', Below w.heap.size w ((w.alloc o).alloc o')) := fun o o' => below_step (box_below w o) (box_below _ o');have H1 : Hid (∀ W, Below w.heap.size w W → SlRd intR W a1 d) := fun W hb => slrd_keep h1 fun k hk => hb.block k hk;have H2 : Hid (∀ W, Below w.heap.size w W → SlRd intR W a2 d) := fun W hb => slrd_keep h2 fun k hk => hb.block k hk;clear h1 h2;go_enter Tryz.func136, Tryz.ntmps136;go_wp2_with fail
 refine (eqInt64S_rep a1 a2 d c1 c2 _ (H1.out _ (HB.out _ _)) (H2.out _ (HB.out _ _)) hm).mono ?_;rintro e w' ⟨rfl, n, rfl⟩;go_wp2;go_ret
 exact ⟨rfl, be_drewN (HB.out _ _) n⟩
theorem eqWayS_rep (a1 a2 : Option Addr) (xs : List (Int × Int × List Int)) (c1 c2 : Nat) (w : World) (h1 : SlRd wayR w a1 xs) (h2 : SlRd wayR w a2 xs) (hm : (slM wayM).bk xs ≤ 1152921504606846976) :
    Calls Tryz.prog 238 #[.slice a1 xs.length c1, .slice a2 xs.length c2] w fun e w' => e = .returned (.bool true) ∧ Below w.heap.size w w' := by
 have hbk : (slM wayM).bk xs = xs.length + sumbk wayM xs := rfl;have hln : xs.length ≤ 1152921504606846976 := by omega
 have HB : Hid (sumbk wayM xs ≤ 1152921504606846976) := by unfold Hid; omega
 have H1 : Hid (∀ W, Below w.heap.size w W → SlRd wayR W a1 xs) := fun W hb => slrd_keep h1 fun k hk => hb.block k hk;have H2 : Hid (∀ W, Below w.heap.size w W → SlRd wayR W a2 xs) := fun W hb => slrd_keep h2 fun k hk => hb.block k hk;clear hbk hm h1 h2;go_enter Tryz.func238, Tryz.ntmps238;go_wp2;go_loopw [5] (fun i wr => ∃ k : Nat, k ≤ xs.length ∧ i = .int .i64 k ∧ Below w.heap.size w wr) (fun i _ => xs.length - (intOf i).toNat)
 case atStart => exact ⟨0, Nat.zero_le _, rfl, Below.refl _ _⟩
 case round =>
  obtain ⟨k, hk, rfl, BB⟩ := hrel;by_cases hlt : k < xs.length
  ·have hlt' : (k : Int) < (xs.length : Int) := by omega
   obtain ⟨x, hx⟩ : ∃ x, xs[k]? = some x := ⟨_, List.getElem?_eq_getElem hlt⟩;have HX : Hid ((wayM).bk x ≤ 1152921504606846976) := by unfold Hid; have := sumbk_ge wayM xs hx; have := HB.out; omega
   obtain ⟨b1, off1, cs1, rfl, hrd1, hcell1⟩ := slrd_at (H1.out _ BB) hx;obtain ⟨ad1, cpw1, rfl, -, -, -, -, hd1⟩ := way_rd hrd1;have x10 := hcell1 0 _ rfl;have x11 := hcell1 1 _ rfl;have x12 := hcell1 2 _ rfl;rw [show off1 + (k * wayR.size + 0) = off1 + k * 3 from rfl] at x10;rw [show off1 + (k * wayR.size + 1) = off1 + k * 3 + 1 from rfl] at x11;rw [show off1 + (k * wayR.size + 2) = off1 + k * 3 + 2 from rfl] at x12;have HR1 : Hid (∀ n : Cls (fun wx => Below wr.heap.size wr wx), SlRd intR n.w ad1 x.2.2) := fun n => slrd_next hd1 n.h;clear hcell1 hrd1 hd1;obtain ⟨b2, off2, cs2, rfl, hrd2, hcell2⟩ := slrd_at (H2.out _ BB) hx;obtain ⟨ad2, cpw2, rfl, -, -, -, -, hd2⟩ := way_rd hrd2;have x20 := hcell2 0 _ rfl;have x21 := hcell2 1 _ rfl;have x22 := hcell2 2 _ rfl;rw [show off2 + (k * wayR.size + 0) = off2 + k * 3 from rfl] at x20;rw [show off2 + (k * wayR.size + 1) = off2 + k * 3 + 1 from rfl] at x21;rw [show off2 + (k * wayR.size + 2) = off2 + k * 3 + 2 from rfl] at x22;have HR2 : Hid (∀ n : Cls (fun wx => Below wr.heap.size wr wx), SlRd intR n.w ad2 x.2.2) := fun n => slrd_next hd2 n.h;clear hcell2 hrd2 hd2;have x10c : ∀ n : Cls (fun wx => Below wr.heap.size wr wx), n.w.cell? ⟨b1, off1 + k * 3, none⟩ = some (.int .i64 x.1) := fun n => cell_kp n.h x10 (cell_l x10);have x11c : ∀ n : Cls (fun wx => Below wr.heap.size wr wx), n.w.cell? ⟨b1, off1 + k * 3 + 1, none⟩ = some (.int .i64 x.2.1) := fun n => cell_kp n.h x11 (cell_l x11);have x12c : ∀ n : Cls (fun wx => Below wr.heap.size wr wx), n.w.cell? ⟨b1, off1 + k * 3 + 2, none⟩ = some (.slice ad1 x.2.2.length cpw1) := fun n => cell_kp n.h x12 (cell_l x12);have x20c : ∀ n : Cls (fun wx => Below wr.heap.size wr wx), n.w.cell? ⟨b2, off2 + k * 3, none⟩ = some (.int .i64 x.1) := fun n => cell_kp n.h x20 (cell_l x20);have x21c : ∀ n : Cls (fun wx => Below wr.heap.size wr wx), n.w.cell? ⟨b2, off2 + k * 3 + 1, none⟩ = some (.int .i64 x.2.1) := fun n => cell_kp n.h x21 (cell_l x21);have x22c : ∀ n : Cls (fun wx => Below wr.heap.size wr wx), n.w.cell? ⟨b2, off2 + k * 3 + 2, none⟩ = some (.slice ad2 x.2.2.length cpw2) := fun n => cell_kp n.h x22 (cell_l x22);clear hx x10 x11 x12 x20 x21 x22;go_wp2_with fail
   refine region_class (fun wx => Below wr.heap.size wr wx) (by kernel_rfl) (by kernel_rfl) ((Below.refl _ wr).drew) ?_;intro hne;repeat (quiet_step ((go_at_call 136; exact calls_class (eqWay_rep x.1 x.2.1 x.2.2 _ _ _ _ _ (HR1.out _) (HR2.out _) (by have := HX.out; rw [bk_way] at this; exact this)) (fun w' hc bb => below_step hc bb))))
   refine wpQuiet_nil ?_;intro wx b2;replace BB := below_step BB b2;clear b2 hne x10c x11c x12c x20c x21c x22c;go_wp2;go_roundw
   case rel => exact ⟨k + 1, by omega, by go_num, BB⟩
   case measure => simp [intOf]; omega
  ·go_wp2;go_ret
   exact ⟨rfl, BB⟩
theorem eqWaySS_rep (a1 a2 : Option Addr) (xs : List (List (Int × Int × List Int))) (c1 c2 : Nat) (w : World) (h1 : SlRd waysR w a1 xs) (h2 : SlRd waysR w a2 xs) (hm : (slM waysM).bk xs ≤ 1152921504606846976) :
    Calls Tryz.prog 198 #[.slice a1 xs.length c1, .slice a2 xs.length c2] w fun e w' => e = .returned (.bool true) ∧ Below w.heap.size w w' := by
 have hbk : (slM waysM).bk xs = xs.length + sumbk waysM xs := rfl;have hln : xs.length ≤ 1152921504606846976 := by omega
 have HB : Hid (sumbk waysM xs ≤ 1152921504606846976) := by unfold Hid; omega
 have H1 : Hid (∀ W, Below w.heap.size w W → SlRd waysR W a1 xs) := fun W hb => slrd_keep h1 fun k hk => hb.block k hk;have H2 : Hid (∀ W, Below w.heap.size w W → SlRd waysR W a2 xs) := fun W hb => slrd_keep h2 fun k hk => hb.block k hk;clear hbk hm h1 h2;go_enter Tryz.func198, Tryz.ntmps198;go_wp2;go_loopw [5] (fun i wr => ∃ k : Nat, k ≤ xs.length ∧ i = .int .i64 k ∧ Below w.heap.size w wr) (fun i _ => xs.length - (intOf i).toNat)
 case atStart => exact ⟨0, Nat.zero_le _, rfl, Below.refl _ _⟩
 case round =>
  obtain ⟨k, hk, rfl, BB⟩ := hrel;by_cases hlt : k < xs.length
  ·have hlt' : (k : Int) < (xs.length : Int) := by omega
   obtain ⟨x, hx⟩ : ∃ x, xs[k]? = some x := ⟨_, List.getElem?_eq_getElem hlt⟩;have HX : Hid ((waysM).bk x ≤ 1152921504606846976) := by unfold Hid; have := sumbk_ge waysM xs hx; have := HB.out; omega
   obtain ⟨b1, off1, cs1, rfl, ⟨aj1, cj1, rfl, -, -, hd1⟩, hcell1⟩ := slrd_at (H1.out _ BB) hx;have x10 := hcell1 0 _ rfl;rw [show k * waysR.size + 0 = k from Nat.mul_one k] at x10;have HR1 : Hid (∀ n : Cls (fun wx => Below wr.heap.size wr wx), SlRd wayR n.w aj1 x) := fun n => slrd_next hd1 n.h;clear hcell1 hd1;obtain ⟨b2, off2, cs2, rfl, ⟨aj2, cj2, rfl, -, -, hd2⟩, hcell2⟩ := slrd_at (H2.out _ BB) hx;have x20 := hcell2 0 _ rfl;rw [show k * waysR.size + 0 = k from Nat.mul_one k] at x20;have HR2 : Hid (∀ n : Cls (fun wx => Below wr.heap.size wr wx), SlRd wayR n.w aj2 x) := fun n => slrd_next hd2 n.h;clear hcell2 hd2;have x10c : ∀ n : Cls (fun wx => Below wr.heap.size wr wx), n.w.cell? ⟨b1, off1 + k, none⟩ = some (.slice aj1 x.length cj1) := fun n => cell_kp n.h x10 (cell_l x10);have x20c : ∀ n : Cls (fun wx => Below wr.heap.size wr wx), n.w.cell? ⟨b2, off2 + k, none⟩ = some (.slice aj2 x.length cj2) := fun n => cell_kp n.h x20 (cell_l x20);clear hx x10 x20;go_wp2_with fail
   refine region_class (fun wx => Below wr.heap.size wr wx) (by kernel_rfl) (by kernel_rfl) ((Below.refl _ wr).drew) ?_;intro hne;repeat (quiet_step ((go_at_call 238; exact calls_class (eqWayS_rep _ _ x _ _ _ (HR1.out _) (HR2.out _) HX.out) (fun w' hc bb => below_step hc bb))))
   refine wpQuiet_nil ?_;intro wx b2;replace BB := below_step BB b2;clear b2 hne x10c x20c;go_wp2;go_roundw
   case rel => exact ⟨k + 1, by omega, by go_num, BB⟩
   case measure => simp [intOf]; omega
  ·go_wp2;go_ret
   exact ⟨rfl, BB⟩
theorem eqCache_rep (c : List (List (Int × Int × List Int)) × List Int) (a1 b1 a2 b2 : Option Addr) (c1 d1 c2 d2 : Nat) (w : World) (h1 : SlRd waysR w a1 c.1) (k1 : SlRd intR w b1 c.2) (h2 : SlRd waysR w a2 c.1) (k2 : SlRd intR w b2 c.2) (hm : cacheM.bk c ≤ 1152921504606846976) :
    Calls Tryz.prog 134 #[.agg #[.slice a1 c.1.length c1, .slice b1 c.2.length d1], .agg #[.slice a2 c.1.length c2, .slice b2 c.2.length d2]] w fun e w' => e = .returned (.bool true) ∧ Below w.heap.size w w' := by
 have hbk : cacheM.bk c = setsM.bk c.1 + intsM.bk c.2 := rfl;have hm1 : Hid (setsM.bk c.1 ≤ 1152921504606846976) := by unfold Hid; omega
 have hm2 : Hid (intsM.bk c.2 ≤ 1152921504606846976) := by unfold Hid; omega
 have H1 : Hid (∀ W, Below w.heap.size w W → SlRd waysR W a1 c.1 ∧ SlRd waysR W a2 c.1 ∧ SlRd intR W b1 c.2 ∧ SlRd intR W b2 c.2) := fun W hb => ⟨slrd_keep h1 fun k hk => hb.block k hk, slrd_keep h2 fun k hk => hb.block k hk, slrd_keep k1 fun k hk => hb.block k hk, slrd_keep k2 fun k hk => hb.block k hk⟩;clear h1 h2 k1 k2 hbk hm;have X0 := heap_on (.cells #[.slice a2 c.1.length c2, .slice b2 c.2.length d2] 92) (heap_at w (.cells #[.slice a1 c.1.length c1, .slice b1 c.2.length d1] 92));have X1 := heap_at (w.alloc (.cells #[.slice a1 c.1.length c1, .slice b1 c.2.length d1] 92)) (.cells #[.slice a2 c.1.length c2, .slice b2 c.2.length d2] 92);have B0 := below_step (box_below w (.cells #[.slice a1 c.1.length c1, .slice b1 c.2.length d1] 92)) (box_below _ (.cells #[.slice a2 c.1.length c2, .slice b2 c.2.length d2] 92));rw [alloc_len] at X1;go_enter Tryz.func134, Tryz.ntmps134;go_wp2_with fail
 generalize (w.alloc (.cells #[.slice a1 c.1.length c1, .slice b1 c.2.length d1] 92)).alloc (.cells #[.slice a2 c.1.length c2, .slice b2 c.2.length d2] 92) = W0 at X0 X1 B0 ⊢;refine (eqWaySS_rep a1 a2 c.1 c1 c2 _ (H1.out _ B0).1 (H1.out _ B0).2.1 hm1.out).mono ?_;rintro e w1 ⟨rfl, b1'⟩;replace B0 := below_step B0 b1';obtain ⟨y0, y1⟩ := cell_two (row_keep b1' X0);obtain ⟨z0, z1⟩ := cell_two (row_keep b1' X1);clear b1' X0 X1;go_wp2_with fail
 refine (eqInt64S_rep b1 b2 c.2 d1 d2 _ (H1.out _ B0).2.2.1 (H1.out _ B0).2.2.2 hm2.out).mono ?_;rintro e w2 ⟨rfl, n, rfl⟩;have B2 := be_drewN B0 n;clear y0 y1 z0 z1;go_wp2;go_ret
 exact ⟨rfl, B2⟩
end Go.Proofs.YtcocbafhcpdheaaGreatDoor
