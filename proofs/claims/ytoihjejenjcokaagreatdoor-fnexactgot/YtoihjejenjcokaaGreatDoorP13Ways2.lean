import Derived.Test.YtoihjejenjcokaaGreatDoorP00Box
import Derived.Test.YtoihjejenjcokaaGreatDoorP07Door
import Derived.Test.YtoihjejenjcokaaGreatDoorP03OpensBase
import Derived.Deep.QuietTactic
import Derived.Test.YtoihjejenjcokaaGreatDoorP08Iters
namespace Go.Proofs.YtoihjejenjcokaaGreatDoor
set_option maxHeartbeats 1000000
open Go.ChangeShapes Go.WideShapes Go.ChangeAt Go.RowKit
set_option linter.unusedVariables false
theorem bk_way (u : Int × Int × List Int) : zBE.bk u = zBn.bk u.2.2 := by
 show 0 + (0 + zBn.bk u.2.2) = _
 omega
theorem zHC (a : Option Addr) (xs : List (Int × Int × List Int)) (cap : Nat) (left : Int) (w : World) (h : zBh zAS w a xs) (h0 : 0 ≤ left) (h1 : left ≤ 1048576) (hm : xs.length ≤ maxLen) :
    Calls Tryz.prog 80 #[.slice a xs.length cap, .int .i64 left] w fun e w' => e = .returned (.int .i64 (szI ((slM zBE).bk xs) left)) ∧ Below w.heap.size w w' := by
 have hm' : xs.length ≤ 9223372036854775807 := hm
 have hbk : (slM zBE).bk xs = xs.length + zBz zBE xs := rfl
 clear hm
 by_cases hl : (xs.length : Int) ≤ left
 ·have hl' : ¬ (left - (xs.length : Int) < 0) := by omega
  have HB : Hid _ := hbk
  have H0 : Hid (zBh zAS w a xs) := h
  clear hbk h
  go_enter Tryz.func80, Tryz.ntmps80
  go_wp2
  go_loopw [1, 5] (fun q i wr => ∃ k : Nat, k ≤ xs.length ∧ i = .int .i64 k ∧ (zBz zBE (xs.take k) : Int) + xs.length ≤ left ∧ q = .int .i64 (left - (xs.length : Int) - zBz zBE (xs.take k)) ∧ Below w.heap.size w wr) (fun _ i _ => xs.length - (intOf i).toNat)
  case atStart => exact ⟨0, Nat.zero_le _, rfl, by simp [zBz]; omega, by simp [zBz], Below.refl _ _⟩
  case round =>
   obtain ⟨k, hk, rfl, ht, rfl, BB⟩ := hrel
   by_cases hlt : k < xs.length
   ·have hlt' : (k : Int) < (xs.length : Int) := by omega
    obtain ⟨x, hx⟩ : ∃ x, xs[k]? = some x := ⟨_, List.getElem?_eq_getElem hlt⟩
    have H2 := zA7 H0.out fun k hk => BB.block k hk
    obtain ⟨b, off, cs, rfl, hrdx, hcell⟩ := zBG H2 hx
    obtain ⟨ad, cpw, rfl, -, -, hd1, hd2, hd3⟩ := zAL hrdx
    have x0 := hcell 0 _ rfl
    have x1 := hcell 1 _ rfl
    have x2 := hcell 2 _ rfl
    rw [show off + (k * zAS.size + 0) = off + k * 3 from rfl] at x0
    rw [show off + (k * zAS.size + 1) = off + k * 3 + 1 from rfl] at x1
    rw [show off + (k * zAS.size + 2) = off + k * 3 + 2 from rfl] at x2
    have HX : Hid (x.2.2.length ≤ maxLen) := Nat.le_trans hd1 hd2
    have HR : Hid (zBh zBC wr ad x.2.2) := hd3
    clear hcell hrdx hd1 hd2 hd3
    have HT : Hid _ := zF6 (M := zBE) hx
    have hxs := zGw (M := zBE) hx
    clear hx H2
    generalize zBz zBE (xs.take k) = T at ht HT hxs ⊢
    by_cases hf : (((zBE).bk x : Nat) : Int) ≤ left - (xs.length : Int) - (T : Int)
    ·have hf' : ¬ (left - (xs.length : Int) - (T : Int) - (((zBE).bk x : Nat) : Int) < 0) := by omega
     have HS : Hid (szI ((zBE).bk x) (left - (xs.length : Int) - (T : Int)) = _) := zC2 hf
     go_wp2_with (go_at_call 20; refine (zG2 x.1 x.2.1 x.2.2 _ _ _ _ (by omega) (by omega) HX.out).mono ?_; rintro e w' ⟨rfl, bb⟩; replace BB := zAb BB bb; clear bb; rw [HS.out])
     go_roundw
     case rel => exact ⟨k + 1, by omega, by go_num, by have := HT.out; omega, by rw [HT.out]; go_num, BB⟩
     case measure => simp [intOf]; omega
    ·have HS : Hid (szI ((zBE).bk x) (left - (xs.length : Int) - (T : Int)) = _) := zCz hf
     have HN : Hid (szI ((slM zBE).bk xs) left = -1) := by unfold Hid; rw [HB.out]; exact zCz (by omega)
     go_wp2_with (go_at_call 20; refine (zG2 x.1 x.2.1 x.2.2 _ _ _ _ (by omega) (by omega) HX.out).mono ?_; rintro e w' ⟨rfl, bb⟩; replace BB := zAb BB bb; clear bb; rw [HS.out])
     go_ret
     exact ⟨zAW HN.out.symm, BB⟩
   ·have hkl : k = xs.length := by omega
    subst hkl
    rw [List.take_length] at ht ⊢
    have HN : Hid (szI ((slM zBE).bk xs) left = left - (xs.length : Int) - (zBz zBE xs : Int)) := by unfold Hid; rw [HB.out, zC2 (by omega)]; omega
    go_wp2
    go_ret
    exact ⟨zAW HN.out.symm, BB⟩
 ·have hl' : left - (xs.length : Int) < 0 := by omega
  rw [zCz (by omega)]
  clear hbk h
  go_enter Tryz.func80, Tryz.ntmps80
  go_wp2
  go_ret
  exact ⟨rfl, Below.refl _ _⟩
theorem zKj (a : Option Addr) (xs : List (List (Int × Int × List Int))) (cap : Nat) (left : Int) (w : World) (h : zBh zBl w a xs) (h0 : 0 ≤ left) (h1 : left ≤ 1048576) (hm : xs.length ≤ maxLen) :
    Calls Tryz.prog 49 #[.slice a xs.length cap, .int .i64 left] w fun e w' => e = .returned (.int .i64 (szI ((slM zBr).bk xs) left)) ∧ Below w.heap.size w w' := by
 have hm' : xs.length ≤ 9223372036854775807 := hm
 have hbk : (slM zBr).bk xs = xs.length + zBz zBr xs := rfl
 clear hm
 by_cases hl : (xs.length : Int) ≤ left
 ·have hl' : ¬ (left - (xs.length : Int) < 0) := by omega
  have HB : Hid _ := hbk
  have H0 : Hid (zBh zBl w a xs) := h
  clear hbk h
  go_enter Tryz.func49, Tryz.ntmps49
  go_wp2
  go_loopw [1, 5] (fun q i wr => ∃ k : Nat, k ≤ xs.length ∧ i = .int .i64 k ∧ (zBz zBr (xs.take k) : Int) + xs.length ≤ left ∧ q = .int .i64 (left - (xs.length : Int) - zBz zBr (xs.take k)) ∧ Below w.heap.size w wr) (fun _ i _ => xs.length - (intOf i).toNat)
  case atStart => exact ⟨0, Nat.zero_le _, rfl, by simp [zBz]; omega, by simp [zBz], Below.refl _ _⟩
  case round =>
   obtain ⟨k, hk, rfl, ht, rfl, BB⟩ := hrel
   by_cases hlt : k < xs.length
   ·have hlt' : (k : Int) < (xs.length : Int) := by omega
    obtain ⟨x, hx⟩ : ∃ x, xs[k]? = some x := ⟨_, List.getElem?_eq_getElem hlt⟩
    have H2 := zA7 H0.out fun k hk => BB.block k hk
    obtain ⟨b, off, cs, rfl, ⟨aj, cj, rfl, hd1, hd2, hd3⟩, hcell⟩ := zBG H2 hx
    have x0 := hcell 0 _ rfl
    rw [show k * zBl.size + 0 = k from Nat.mul_one k] at x0
    have HX : Hid (x.length ≤ maxLen) := Nat.le_trans hd1 hd2
    have HR : Hid (zBh zAS wr aj x) := hd3
    clear hcell hd1 hd2 hd3
    have HT : Hid _ := zF6 (M := zBr) hx
    have hxs := zGw (M := zBr) hx
    clear hx H2
    generalize zBz zBr (xs.take k) = T at ht HT hxs ⊢
    by_cases hf : (((zBr).bk x : Nat) : Int) ≤ left - (xs.length : Int) - (T : Int)
    ·have hf' : ¬ (left - (xs.length : Int) - (T : Int) - (((zBr).bk x : Nat) : Int) < 0) := by omega
     have HS : Hid (szI ((zBr).bk x) (left - (xs.length : Int) - (T : Int)) = _) := zC2 hf
     go_wp2_with (go_at_call 80; refine (zHC _ x _ _ _ HR.out (by omega) (by omega) HX.out).mono ?_; rintro e w' ⟨rfl, bb⟩; replace BB := zAb BB bb; clear bb; rw [HS.out])
     go_roundw
     case rel => exact ⟨k + 1, by omega, by go_num, by have := HT.out; omega, by rw [HT.out]; go_num, BB⟩
     case measure => simp [intOf]; omega
    ·have HS : Hid (szI ((zBr).bk x) (left - (xs.length : Int) - (T : Int)) = _) := zCz hf
     have HN : Hid (szI ((slM zBr).bk xs) left = -1) := by unfold Hid; rw [HB.out]; exact zCz (by omega)
     go_wp2_with (go_at_call 80; refine (zHC _ x _ _ _ HR.out (by omega) (by omega) HX.out).mono ?_; rintro e w' ⟨rfl, bb⟩; replace BB := zAb BB bb; clear bb; rw [HS.out])
     go_ret
     exact ⟨zAW HN.out.symm, BB⟩
   ·have hkl : k = xs.length := by omega
    subst hkl
    rw [List.take_length] at ht ⊢
    have HN : Hid (szI ((slM zBr).bk xs) left = left - (xs.length : Int) - (zBz zBr xs : Int)) := by unfold Hid; rw [HB.out, zC2 (by omega)]; omega
    go_wp2
    go_ret
    exact ⟨zAW HN.out.symm, BB⟩
 ·have hl' : left - (xs.length : Int) < 0 := by omega
  rw [zCz (by omega)]
  clear hbk h
  go_enter Tryz.func49, Tryz.ntmps49
  go_wp2
  go_ret
  exact ⟨rfl, Below.refl _ _⟩
theorem zKk (a b : Option Addr) (c : List (List (Int × Int × List Int)) × List Int) (cap cp : Nat) (left : Int) (w : World) (h : zBh zBl w a c.1) (h0 : 0 ≤ left) (h1 : left ≤ 1048576) (m1 : c.1.length ≤ maxLen) (m2 : c.2.length ≤ maxLen) :
    Calls Tryz.prog 18 #[.agg #[.slice a c.1.length cap, .slice b c.2.length cp], .int .i64 left] w fun e w' => e = .returned (.int .i64 (szI (zBb.bk c) left)) ∧ Below w.heap.size w w' := by
 have hbk : zBb.bk c = zEU.bk c.1 + zBn.bk c.2 := rfl
 rw [hbk]
 have X := heap_alloc_new w (.cells #[.slice a c.1.length cap, .slice b c.2.length cp] 25)
 have BX := zAf w (.cells #[.slice a c.1.length cap, .slice b c.2.length cp] 25)
 have H : Hid (∀ o, zBh zBl (w.alloc o) a c.1) := fun o => zAG h (zAf w o)
 clear h hbk
 generalize hn1 : zEU.bk c.1 = n1
 generalize hn2 : zBn.bk c.2 = n2
 have C1 := zKj a c.1 cap left (w.alloc (.cells #[.slice a c.1.length cap, .slice b c.2.length cp] 25)) (H.out _) h0 h1 m1
 rw [hn1] at C1
 by_cases hl : (n1 : Int) ≤ left
 ·rw [zC2 hl] at C1
  have hl' : ¬ (left - (n1 : Int) < 0) := by omega
  have C2 : Hid (∀ W, Calls Tryz.prog 21 #[.slice b c.2.length cp, .int .i64 (left - (n1 : Int))] W fun e w' => e = .returned (.int .i64 (szI n2 (left - (n1 : Int)))) ∧ w' = W) := fun W => by
   have := zCC b c.2 cp (left - (n1 : Int)) W (by omega) (by omega) m2
   rwa [hn2] at this
  clear hn1 hn2 H m1 m2
  by_cases hl2 : (n2 : Int) ≤ left - (n1 : Int)
  ·have HR : Hid (szI (n1 + n2) left = left - (n1 : Int) - (n2 : Int)) := by unfold Hid; rw [zC2 (by omega)]; omega
   have hl2' : ¬ (left - (n1 : Int) - (n2 : Int) < 0) := by omega
   have HS : Hid (szI n2 (left - (n1 : Int)) = left - (n1 : Int) - (n2 : Int)) := zC2 hl2
   go_enter Tryz.func18, Tryz.ntmps18
   go_wp2_with fail
   refine C1.mono ?_
   rintro e w1 ⟨rfl, b1⟩
   obtain ⟨y0, y1⟩ := zBc (zAa b1 X)
   have BB := zAb BX b1
   clear b1 X BX C1
   go_wp2_with (go_at_call 21; refine (C2.out _).mono ?_; rintro e w' ⟨rfl, rfl⟩; rw [HS.out])
   go_ret
   exact ⟨zAW HR.out.symm, BB⟩
  ·have HR : Hid (szI (n1 + n2) left = -1) := by unfold Hid; exact zCz (by omega)
   have HS : Hid (szI n2 (left - (n1 : Int)) = -1) := zCz hl2
   go_enter Tryz.func18, Tryz.ntmps18
   go_wp2_with fail
   refine C1.mono ?_
   rintro e w1 ⟨rfl, b1⟩
   obtain ⟨y0, y1⟩ := zBc (zAa b1 X)
   have BB := zAb BX b1
   clear b1 X BX C1
   go_wp2_with (go_at_call 21; refine (C2.out _).mono ?_; rintro e w' ⟨rfl, rfl⟩; rw [HS.out])
   go_ret
   exact ⟨zAW HR.out.symm, BB⟩
 ·rw [zCz hl] at C1
  have HR : Hid (szI (n1 + n2) left = -1) := by unfold Hid; exact zCz (by omega)
  clear hn1 hn2 H m1 m2
  go_enter Tryz.func18, Tryz.ntmps18
  go_wp2_with fail
  refine C1.mono ?_
  rintro e w1 ⟨rfl, b1⟩
  obtain ⟨y0, y1⟩ := zBc (zAa b1 X)
  have BB := zAb BX b1
  clear b1 X BX C1
  go_wp2
  go_ret
  exact ⟨zAW HR.out.symm, BB⟩
theorem zCm {w : World} {g : Nat} {x y z : Value} {t : TypeId} (h : w.heap[g]? = some (.cells #[x, y, z] t (0, 0))) :
    w.cell? ⟨g, 0, none⟩ = some x ∧ w.cell? ⟨g, 1, none⟩ = some y ∧ w.cell? ⟨g, 2, none⟩ = some z :=
 ⟨by rw [cell_of_row w g 0 _ t (0, 0) h]; rfl, by rw [cell_of_row w g 1 _ t (0, 0) h]; rfl, by rw [cell_of_row w g 2 _ t (0, 0) h]; rfl⟩
theorem zCx {w : World} {g : Nat} {cs : Array Value} {t : TypeId} (h : w.heap[g]? = some (.cells cs t (0, 0))) : w.frozen? ⟨g, 0, none⟩ = false ∧ w.frozen? ⟨g, 1, none⟩ = false ∧ w.frozen? ⟨g, 2, none⟩ = false :=
 ⟨frozen_of_row w g 0 _ t h, frozen_of_row w g 1 _ t h, frozen_of_row w g 2 _ t h⟩
theorem put3 {w : World} {g : Nat} {x y z a b c : Value} {t : TypeId} (h : w.heap[g]? = some (.cells #[x, y, z] t (0, 0))) :
    (((w.setCell ⟨g, 0, none⟩ a).setCell ⟨g, 1, none⟩ b).setCell ⟨g, 2, none⟩ c).heap[g]? = some (.cells #[a, b, c] t (0, 0)) := by
 have h1 := heap_setCell_same w g 0 _ t a h
 have h2 := heap_setCell_same _ g 1 _ t b h1
 exact heap_setCell_same _ g 2 _ t c h2
theorem put2 {w : World} {g : Nat} {x y a b : Value} {t : TypeId} (h : w.heap[g]? = some (.cells #[x, y] t (0, 0))) :
    ((w.setCell ⟨g, 0, none⟩ a).setCell ⟨g, 1, none⟩ b).heap[g]? = some (.cells #[a, b] t (0, 0)) := by
 have h1 := heap_setCell_same w g 0 _ t a h
 exact heap_setCell_same _ g 1 _ t b h1
theorem zJf (l s : Int) (d : List Int) (a : Option Addr) (cap : Nat) (w : World) (i1 : zBk l) (i2 : zBk s) (h : zBh zBC w a d) (hm : zBn.bk d ≤ 1048576) :
    Calls Tryz.prog 28 #[.agg #[.int .i64 l, .int .i64 s, .slice a d.length cap]] w fun e w' => ∃ av cv, e = .returned (.agg #[.int .i64 l, .int .i64 s, .slice av d.length cv]) ∧ zAY zAS w w' [.int .i64 l, .int .i64 s, .slice av d.length cv] (l, s, d) := by
 have H : Hid (∀ W, Below w.heap.size w W → zBh zBC W a d) := fun W hb => zA7 h fun k hk => hb.block k hk
 clear h
 go_enter Tryz.func28, Tryz.ntmps28
 go_wp2_with fail
 have B0 : Below w.heap.size w (((w.alloc (.cells #[.int .i64 l, .int .i64 s, .slice a d.length cap] 28)).alloc (.cells #[.int .i64 0, .int .i64 0, .slice none 0 0] 39)).alloc (.cells #[.int .i64 l, .int .i64 s, .slice none 0 0] 39)) := (((Below.refl _ w).alloc (Nat.le_refl _) _).alloc (by simp) _).alloc (by simp; omega) _
 have X1 := zAK (.cells #[.int .i64 l, .int .i64 s, .slice none 0 0] 39) (zAy (w.alloc (.cells #[.int .i64 l, .int .i64 s, .slice a d.length cap] 28)) (.cells #[.int .i64 0, .int .i64 0, .slice none 0 0] 39))
 have X2 := zAy ((w.alloc (.cells #[.int .i64 l, .int .i64 s, .slice a d.length cap] 28)).alloc (.cells #[.int .i64 0, .int .i64 0, .slice none 0 0] 39)) (.cells #[.int .i64 l, .int .i64 s, .slice none 0 0] 39)
 have e3 : (((w.alloc (.cells #[.int .i64 l, .int .i64 s, .slice a d.length cap] 28)).alloc (.cells #[.int .i64 0, .int .i64 0, .slice none 0 0] 39)).alloc (.cells #[.int .i64 l, .int .i64 s, .slice none 0 0] 39)).heap.size = w.heap.size + 1 + 1 + 1 := by simp
 rw [zAp] at X1
 rw [zAp, zAp] at X2
 generalize ((w.alloc (.cells #[.int .i64 l, .int .i64 s, .slice a d.length cap] 28)).alloc (.cells #[.int .i64 0, .int .i64 0, .slice none 0 0] 39)).alloc (.cells #[.int .i64 l, .int .i64 s, .slice none 0 0] 39) = W0 at B0 X1 X2 e3 ⊢
 refine (zDt _ d _ _ (H.out _ B0) hm).mono ?_
 rintro e w1 ⟨v, rfl, mm⟩
 obtain ⟨av, cv, rfl⟩ := zBD mm.1
 have hm2 := mm.2
 have hown := mm.1
 have B1 := zAb B0 hm2
 replace X1 := zAa hm2 X1
 replace X2 := zAa hm2 X2
 obtain ⟨y0, y1, y2⟩ := zCm X2
 obtain ⟨f0, f1, f2⟩ := zCx X2
 obtain ⟨z0, z1, z2⟩ := zCm X1
 obtain ⟨g0, g1, g2⟩ := zCx X1
 have HX : Hid _ := And.intro X1 X2
 have HO : Hid _ := hown
 clear X1 X2 hown mm H
 go_wp2
 obtain ⟨X1, X2⟩ := HX.out
 have Y1 := put3 (a := .int .i64 l) (b := .int .i64 s) (c := .slice av d.length cv) (zAP (g := w.heap.size + 1 + 1) (o := 2) (v := .slice av d.length cv) X1 (by omega))
 obtain ⟨r0, r1, r2⟩ := zCm Y1
 refine bodyPost_ret (v := .agg #[.int .i64 l, .int .i64 s, .slice av d.length cv]) (by simp [results, Tryz.results28, go_sem, r0, r1, r2]) rfl ⟨av, cv, rfl, zCF i1 i2 ?_, ?_⟩
 ·refine zA5.own_mono (zAl (zAl (zAl (zAl HO.out (fun h => by have := h.1; omega)) (fun h => by have := h.1; omega)) (fun h => by have := h.1; omega)) (fun h => by have := h.1; omega)) ?_
  exact zCb (by omega) (by simp)
 ·exact zAq (zAq (zAq (zAq B1 (by omega)) (by omega)) (by omega)) (by omega)
theorem Tryz.infoWay : (Tryz.prog.info? 39).map (fun i => (i.zero, i.size, i.bytes)) = some (some (.agg #[.int .i64 0, .int .i64 0, .slice none 0 0]), 3, 40) := by kernel_rfl
theorem zLK (a : Option Addr) (xs : List (Int × Int × List Int)) (cap : Nat) (w : World) (h : zBh zAS w a xs) (hm : zBr.bk xs ≤ 1048576) :
    Calls Tryz.prog 88 #[.slice a xs.length cap] w fun e w' => ∃ v, e = .returned v ∧ zAY zBl w w' [v] xs := by
 have hbk : zBr.bk xs = xs.length + zBz zBE xs := rfl
 have hln : xs.length ≤ 1048576 := by omega
 have HB : Hid (zBz zBE xs ≤ 1048576) := by unfold Hid; omega
 have H0 : Hid (zBh zAS w a xs) := h
 clear hbk hm h
 have hmk := zDK (P := Tryz.prog) 115 39 (.agg #[.int .i64 0, .int .i64 0, .slice none 0 0]) 3 40 Tryz.underlying115 Tryz.infoWay xs.length (by omega) (by omega)
 go_enter Tryz.func88, Tryz.ntmps88
 go_wp2
 go_loopw [4] (fun i wr => ∃ k : Nat, k ≤ xs.length ∧ i = .int .i64 k ∧ Fill 39 zAS w wr xs.length (xs.take k)) (fun i _ => xs.length - (intOf i).toNat)
 case atStart => exact ⟨0, Nat.zero_le _, rfl, by simpa using zEP (e := 39) (R := zAS) (w0 := w) (n := xs.length) (cs := madeCells #[.int .i64 0, .int .i64 0, .slice none 0 0] (xs.length * 3)) (by unfold maxLen; omega) (by rw [size_madeCells]; rfl)⟩
 case round =>
  obtain ⟨k, hk, rfl, hF⟩ := hrel
  by_cases hlt : k < xs.length
  ·have hlt' : (k : Int) < (xs.length : Int) := by omega
   obtain ⟨x, hx⟩ : ∃ x, xs[k]? = some x := ⟨_, List.getElem?_eq_getElem hlt⟩
   obtain ⟨b, off, cs, rfl, hrdx, hcell⟩ := zBG (zAG H0.out (zF7 hF)) hx
   obtain ⟨ad, cpw, rfl, i1, i2, hd1, hd2, hd3⟩ := zAL hrdx
   have x0 := hcell 0 _ rfl
   have x1 := hcell 1 _ rfl
   have x2 := hcell 2 _ rfl
   rw [show off + (k * zAS.size + 0) = off + k * 3 from rfl] at x0
   rw [show off + (k * zAS.size + 1) = off + k * 3 + 1 from rfl] at x1
   rw [show off + (k * zAS.size + 2) = off + k * 3 + 2 from rfl] at x2
   have HX : Hid (zBn.bk x.2.2 ≤ 1048576) := by unfold Hid; have := zFi zBE xs hx; rw [bk_way] at this; have := HB.out; omega
   have HR : Hid (zBh zBC wr ad x.2.2) := hd3
   have HI : Hid (zBk x.1 ∧ zBk x.2.1) := ⟨i1, i2⟩
   have FS : Hid (∀ w1 c, zAY zAS wr w1 c x → _) := fun w1 c hm => zF5 (w1 := w1) (c := c) hF (by simp; omega) hlt hm
   have HP : Hid (xs.take k ++ [x] = xs.take (k + 1)) := by unfold Hid; rw [List.take_add_one, hx]; rfl
   clear hx hrdx hcell hmk hF hd1 hd2 hd3 i1 i2
   go_wp2_with fail
   refine (zJf x.1 x.2.1 x.2.2 _ _ _ HI.out.1 HI.out.2 HR.out HX.out).mono ?_
   rintro e w1 ⟨av, cv, rfl, mm⟩
   obtain ⟨q1, q2, F1⟩ := FS.out _ _ mm
   obtain ⟨v0, hv0⟩ := q1 0 (by decide)
   obtain ⟨v1, hv1⟩ := q1 1 (by decide)
   obtain ⟨v2, hv2⟩ := q1 2 (by decide)
   have z0 := q2 (k * 3)
   have z1 := q2 (k * 3 + 1)
   have z2 := q2 (k * 3 + 2)
   rw [show k * zAS.size + 0 = k * 3 from rfl] at hv0
   rw [show k * zAS.size + 1 = k * 3 + 1 from rfl] at hv1
   rw [show k * zAS.size + 2 = k * 3 + 2 from rfl] at hv2
   rw [HP.out] at F1
   have HF : Hid _ := F1
   clear F1 mm q1 q2 FS x0 x1 x2
   go_wp2
   go_roundw
   case rel => exact ⟨k + 1, by omega, by go_num, HF.out⟩
   case measure => simp [intOf]; omega
  ·have hkl : k = xs.length := by omega
   subst hkl
   rw [List.take_length] at hF
   have FE := zGv hF rfl
   clear hF
   go_wp2
   go_ret
   exact ⟨_, rfl, FE⟩
theorem zEq {w w' : World} {D b o : Nat} {u : Value} (hb : Below D w w') (h : w.cell? ⟨b, o, none⟩ = some u) (hl : b < D) : w'.cell? ⟨b, o, none⟩ = some u :=
 (World.cell?_of_block (w := w) (a := ⟨b, o, none⟩) (hb.block b hl)).trans h
theorem zFT {w : World} {b o : Nat} {u : Value} (h : w.cell? ⟨b, o, none⟩ = some u) : b < w.heap.size := World.block_lt_of_cell? w _ h
theorem Tryz.infoWayS : (Tryz.prog.info? 115).map (fun i => (i.zero, i.size, i.bytes)) = some (some (.slice none 0 0), 1, 24) := by kernel_rfl
theorem zKl (a : Option Addr) (xs : List (List (Int × Int × List Int))) (cap : Nat) (w : World) (h : zBh zBl w a xs) (hm : zEU.bk xs ≤ 1048576) :
    Calls Tryz.prog 62 #[.slice a xs.length cap] w fun e w' => ∃ v, e = .returned v ∧ zAY zBu w w' [v] xs := by
 have hbk : zEU.bk xs = xs.length + zBz zBr xs := rfl
 have hln : xs.length ≤ 1048576 := by omega
 have HB : Hid (zBz zBr xs ≤ 1048576) := by unfold Hid; omega
 have H0 : Hid (zBh zBl w a xs) := h
 clear hbk hm h
 have hmk := Go.run_make_row' (P := Tryz.prog) 35 115 (.slice none 0 0) 24 Tryz.underlying35 Tryz.infoWayS rfl .i64 .i64 xs.length (by omega) (by omega)
 go_enter Tryz.func62, Tryz.ntmps62
 go_wp2
 go_loopw [4] (fun i wr => ∃ k : Nat, k ≤ xs.length ∧ i = .int .i64 k ∧ Fill 115 zBl w wr xs.length (xs.take k)) (fun i _ => xs.length - (intOf i).toNat)
 case atStart => exact ⟨0, Nat.zero_le _, rfl, by simpa using zEP (e := 115) (R := zBl) (w0 := w) (n := xs.length) (cs := madeCells #[.slice none 0 0] xs.length) (by unfold maxLen; omega) (by simp [size_madeCells]; exact (Nat.mul_one _).symm)⟩
 case round =>
  obtain ⟨k, hk, rfl, hF⟩ := hrel
  by_cases hlt : k < xs.length
  ·have hlt' : (k : Int) < (xs.length : Int) := by omega
   obtain ⟨x, hx⟩ : ∃ x, xs[k]? = some x := ⟨_, List.getElem?_eq_getElem hlt⟩
   obtain ⟨b, off, c, rfl, ⟨aj, cj, rfl, hc1, hc2, hrd⟩, hcell⟩ := zBG (zAG H0.out (zF7 hF)) hx
   have g1 := hcell 0 _ rfl
   rw [show k * zBl.size + 0 = k from Nat.mul_one k] at g1
   have HR : Hid _ := hrd
   have HX : Hid (zBr.bk x ≤ 1048576) := by unfold Hid; have := zFi zBr xs hx; have := HB.out; omega
   have FS : Hid (∀ w1 v, zAY zBl wr w1 [v] x → _) := fun w1 v hm => zF5 (w1 := w1) (c := [v]) hF (by simp; omega) hlt hm
   have HP : Hid (xs.take k ++ [x] = xs.take (k + 1)) := by unfold Hid; rw [List.take_add_one, hx]; rfl
   clear hx hrd hcell hmk hF
   go_wp2_with (go_at_call 88; refine (zLK _ x _ _ HR.out HX.out).mono ?_; rintro e w1 ⟨v, rfl, mm⟩; obtain ⟨av, cv, rfl⟩ := zBD mm.1; obtain ⟨q1, q2, F1⟩ := FS.out _ _ mm; obtain ⟨v0, hv0⟩ := q1 0 (Nat.zero_lt_one); have hfz := q2 k; rw [show k * zBl.size + 0 = k from Nat.mul_one k] at hv0; rw [show k * zBl.size = k from Nat.mul_one k, HP.out] at F1; have HF : Hid _ := F1; clear F1 mm q1 q2)
   go_roundw
   case rel => exact ⟨k + 1, by omega, by go_num, HF.out⟩
   case measure => simp [intOf]; omega
  ·have hkl : k = xs.length := by omega
   subst hkl
   rw [List.take_length] at hF
   have FE := zGv hF rfl
   clear hF
   go_wp2
   go_ret
   exact ⟨_, rfl, FE⟩
theorem zCd {w : World} {S S1 S2 : zAX} {c : List (List (Int × Int × List Int)) × List Int} {u v : Value} (h1 : zBu.own w S1 [u] c.1) (h2 : zA5.own w S2 [v] c.2) (s1 : Sub S1 S) (s2 : Sub S2 S) (hd : Dis S1 S2) : zAB.own w S [u, v] c :=
 ⟨[_], [_], S1, S2, rfl, h1, h2, s1, s2, hd⟩
theorem zCe {w : World} {S : zAX} {cs : List Value} {c : List (List (Int × Int × List Int)) × List Int} (h : zAB.own w S cs c) : ∃ u v S1 S2, cs = [u, v] ∧ zBu.own w S1 [u] c.1 ∧ zA5.own w S2 [v] c.2 ∧ Sub S1 S ∧ Sub S2 S ∧ Dis S1 S2 := by
 obtain ⟨c1, c2, S1, S2, rfl, h1, h2, a1, a2, d⟩ := h
 obtain ⟨u, rfl⟩ : ∃ u, c1 = [u] := List.length_eq_one_iff.1 (zBu.rd_len (zBu.own_rd h1))
 obtain ⟨v, rfl⟩ : ∃ v, c2 = [v] := List.length_eq_one_iff.1 (zA5.rd_len (zA5.own_rd h2))
 exact ⟨u, v, S1, S2, rfl, h1, h2, a1, a2, d⟩
theorem zBW {w : World} {g : Nat} {cs : Array Value} {t : TypeId} (h : w.heap[g]? = some (.cells cs t (0, 0))) : w.frozen? ⟨g, 0, none⟩ = false ∧ w.frozen? ⟨g, 1, none⟩ = false :=
 ⟨frozen_of_row w g 0 _ t h, frozen_of_row w g 1 _ t h⟩
theorem zKm (a b : Option Addr) (c : List (List (Int × Int × List Int)) × List Int) (cap cp : Nat) (w : World) (h1 : zBh zBl w a c.1) (h2 : zBh zBC w b c.2) (hm : zBb.bk c ≤ 1048576) :
    Calls Tryz.prog 26 #[.agg #[.slice a c.1.length cap, .slice b c.2.length cp]] w fun e w' => ∃ av cv bv dv, e = .returned (.agg #[.slice av c.1.length cv, .slice bv c.2.length dv]) ∧ zAY zAB w w' [.slice av c.1.length cv, .slice bv c.2.length dv] c := by
 have hbk : zBb.bk c = zEU.bk c.1 + zBn.bk c.2 := rfl
 have H1 : Hid (∀ W, Below w.heap.size w W → zBh zBl W a c.1) := fun W hb => zA7 h1 fun k hk => hb.block k hk
 have H2 : Hid (∀ W, Below w.heap.size w W → zBh zBC W b c.2) := fun W hb => zA7 h2 fun k hk => hb.block k hk
 have hm1 : Hid (zEU.bk c.1 ≤ 1048576) := by unfold Hid; omega
 have hm2 : Hid (zBn.bk c.2 ≤ 1048576) := by unfold Hid; omega
 clear h1 h2 hbk hm
 go_enter Tryz.func26, Tryz.ntmps26
 go_wp2_with fail
 have B0 : Below w.heap.size w (((w.alloc (.cells #[.slice a c.1.length cap, .slice b c.2.length cp] 25)).alloc (.cells #[.slice none 0 0, .slice none 0 0] 37)).alloc (.cells #[.slice none 0 0, .slice none 0 0] 37)) := (((Below.refl _ w).alloc (Nat.le_refl _) _).alloc (by simp) _).alloc (by simp; omega) _
 have X0 := zAK (.cells #[.slice none 0 0, .slice none 0 0] 37) (zAK (.cells #[.slice none 0 0, .slice none 0 0] 37) (zAy w (.cells #[.slice a c.1.length cap, .slice b c.2.length cp] 25)))
 have X1 := zAK (.cells #[.slice none 0 0, .slice none 0 0] 37) (zAy (w.alloc (.cells #[.slice a c.1.length cap, .slice b c.2.length cp] 25)) (.cells #[.slice none 0 0, .slice none 0 0] 37))
 have X2 := zAy ((w.alloc (.cells #[.slice a c.1.length cap, .slice b c.2.length cp] 25)).alloc (.cells #[.slice none 0 0, .slice none 0 0] 37)) (.cells #[.slice none 0 0, .slice none 0 0] 37)
 have e3 : (((w.alloc (.cells #[.slice a c.1.length cap, .slice b c.2.length cp] 25)).alloc (.cells #[.slice none 0 0, .slice none 0 0] 37)).alloc (.cells #[.slice none 0 0, .slice none 0 0] 37)).heap.size = w.heap.size + 1 + 1 + 1 := by simp
 rw [zAp] at X1
 rw [zAp, zAp] at X2
 generalize ((w.alloc (.cells #[.slice a c.1.length cap, .slice b c.2.length cp] 25)).alloc (.cells #[.slice none 0 0, .slice none 0 0] 37)).alloc (.cells #[.slice none 0 0, .slice none 0 0] 37) = W0 at B0 X0 X1 X2 e3 ⊢
 refine (zKl _ c.1 _ _ (H1.out _ B0) hm1.out).mono ?_
 rintro e w1 ⟨v, rfl, mm⟩
 obtain ⟨av, cv, rfl⟩ := zBD mm.1
 have hs1 := mm.2.size
 have B1 := zAb B0 mm.2
 have HO1 : Hid (zBu.own w1 (rng W0.heap.size w1.heap.size) [.slice av c.1.length cv] c.1) := mm.1
 replace X0 := zAa mm.2 X0
 replace X1 := zAa mm.2 X1
 replace X2 := zAa mm.2 X2
 obtain ⟨p0, p1⟩ := zBc X0
 obtain ⟨y0, y1⟩ := zBc X2
 obtain ⟨f0, f1⟩ := zBW X2
 have HX : Hid _ := And.intro X1 X2
 clear X0 X1 X2 mm H1 hm1
 go_wp2_with fail
 obtain ⟨X1, X2⟩ := HX.out
 have B2 := zAq (g := w.heap.size + 1 + 1) (o := 0) (v := .slice av c.1.length cv) B1 (by omega)
 have Y2 := heap_setCell_same w1 (w.heap.size + 1 + 1) 0 _ _ (.slice av c.1.length cv) X2
 have Y1 := zAP (g := w.heap.size + 1 + 1) (o := 0) (v := .slice av c.1.length cv) X1 (by omega)
 have HO2 := zAl (g := w.heap.size + 1 + 1) (o := 0) (v := .slice av c.1.length cv) HO1.out (fun h => by have := h.1; omega)
 have hs2 : (w1.setCell ⟨w.heap.size + 1 + 1, 0, none⟩ (.slice av c.1.length cv)).heap.size = w1.heap.size := by simp
 clear X1 X2 HX HO1 f0 f1 y0 y1 B0 B1 p0 p1
 generalize w1.setCell ⟨w.heap.size + 1 + 1, 0, none⟩ (.slice av c.1.length cv) = w2 at B2 Y1 Y2 HO2 hs2 ⊢
 refine (zDt _ c.2 _ _ (H2.out _ B2) hm2.out).mono ?_
 rintro e w3 ⟨v, rfl, mm⟩
 obtain ⟨bv, dv, rfl⟩ := zBD mm.1
 have hs3 := mm.2.size
 have B3 := zAb B2 mm.2
 have HO3 : Hid (zBu.own w3 (rng W0.heap.size w1.heap.size) [.slice av c.1.length cv] c.1) := zDs HO2 mm.2 (by omega)
 have HO4 : Hid (zA5.own w3 (rng w2.heap.size w3.heap.size) [.slice bv c.2.length dv] c.2) := mm.1
 replace Y1 := zAa mm.2 Y1
 replace Y2 := zAa mm.2 Y2
 obtain ⟨y0, y1⟩ := zBc Y2
 obtain ⟨f0, f1⟩ := zBW Y2
 obtain ⟨z0, z1⟩ := zBc Y1
 obtain ⟨g0, g1⟩ := zBW Y1
 have HX : Hid _ := And.intro Y1 Y2
 clear Y1 Y2 mm H2 hm2 HO2 B2
 go_wp2
 obtain ⟨Y1, Y2⟩ := HX.out
 have V1 := put2 (a := .slice av c.1.length cv) (b := .slice bv c.2.length dv) (zAP (g := w.heap.size + 1 + 1) (o := 1) (v := .slice bv c.2.length dv) Y1 (by omega))
 obtain ⟨r0, r1⟩ := zBc V1
 refine bodyPost_ret (v := .agg #[.slice av c.1.length cv, .slice bv c.2.length dv]) (by simp [results, Tryz.results26, go_sem, r0, r1]) rfl ⟨av, cv, bv, dv, rfl, zCd (S1 := rng W0.heap.size w1.heap.size) (S2 := rng w2.heap.size w3.heap.size) ?_ ?_ (zCb (by omega) (by simp; omega)) (zCb (by omega) (by simp)) (zC1 (.inl (by omega))), ?_⟩
 ·exact zAl (zAl (zAl HO3.out (fun h => by have := h.1; omega)) (fun h => by have := h.1; omega)) (fun h => by have := h.1; omega)
 ·exact zAl (zAl (zAl HO4.out (fun h => by have := h.1; omega)) (fun h => by have := h.1; omega)) (fun h => by have := h.1; omega)
 ·exact zAq (zAq (zAq B3 (by omega)) (by omega)) (by omega)
theorem zJg (l s : Int) (d : List Int) (a1 a2 : Option Addr) (c1 c2 : Nat) (w : World) (h1 : zBh zBC w a1 d) (h2 : zBh zBC w a2 d) (hm : zBn.bk d ≤ 1152921504606846976) :
    Calls Tryz.prog 39 #[.agg #[.int .i64 l, .int .i64 s, .slice a1 d.length c1], .agg #[.int .i64 l, .int .i64 s, .slice a2 d.length c2]] w fun e w' => e = .returned (.bool true) ∧ Below w.heap.size w w' := by
 have HB : Hid (∀ o o', Below w.heap.size w ((w.alloc o).alloc o')) := fun o o' => zAb (zAf w o) (zAf _ o')
 have H1 : Hid (∀ W, Below w.heap.size w W → zBh zBC W a1 d) := fun W hb => zA7 h1 fun k hk => hb.block k hk
 have H2 : Hid (∀ W, Below w.heap.size w W → zBh zBC W a2 d) := fun W hb => zA7 h2 fun k hk => hb.block k hk
 clear h1 h2
 go_enter Tryz.func39, Tryz.ntmps39
 go_wp2_with fail
 refine (zDu a1 a2 d c1 c2 _ (H1.out _ (HB.out _ _)) (H2.out _ (HB.out _ _)) hm).mono ?_
 rintro e w' ⟨rfl, n, rfl⟩
 go_wp2
 go_ret
 exact ⟨rfl, zBt (HB.out _ _) n⟩
theorem zLL (a1 a2 : Option Addr) (xs : List (Int × Int × List Int)) (c1 c2 : Nat) (w : World) (h1 : zBh zAS w a1 xs) (h2 : zBh zAS w a2 xs) (hm : (slM zBE).bk xs ≤ 1152921504606846976) :
    Calls Tryz.prog 107 #[.slice a1 xs.length c1, .slice a2 xs.length c2] w fun e w' => e = .returned (.bool true) ∧ Below w.heap.size w w' := by
 have hbk : (slM zBE).bk xs = xs.length + zBz zBE xs := rfl
 have hln : xs.length ≤ 1152921504606846976 := by omega
 have HB : Hid (zBz zBE xs ≤ 1152921504606846976) := by unfold Hid; omega
 have H1 : Hid (∀ W, Below w.heap.size w W → zBh zAS W a1 xs) := fun W hb => zA7 h1 fun k hk => hb.block k hk
 have H2 : Hid (∀ W, Below w.heap.size w W → zBh zAS W a2 xs) := fun W hb => zA7 h2 fun k hk => hb.block k hk
 clear hbk hm h1 h2
 go_enter Tryz.func107, Tryz.ntmps107
 go_wp2
 go_loopw [5] (fun i wr => ∃ k : Nat, k ≤ xs.length ∧ i = .int .i64 k ∧ Below w.heap.size w wr) (fun i _ => xs.length - (intOf i).toNat)
 case atStart => exact ⟨0, Nat.zero_le _, rfl, Below.refl _ _⟩
 case round =>
  obtain ⟨k, hk, rfl, BB⟩ := hrel
  by_cases hlt : k < xs.length
  ·have hlt' : (k : Int) < (xs.length : Int) := by omega
   obtain ⟨x, hx⟩ : ∃ x, xs[k]? = some x := ⟨_, List.getElem?_eq_getElem hlt⟩
   have HX : Hid ((zBE).bk x ≤ 1152921504606846976) := by unfold Hid; have := zFi zBE xs hx; have := HB.out; omega
   obtain ⟨b1, off1, cs1, rfl, hrd1, hcell1⟩ := zBG (H1.out _ BB) hx
   obtain ⟨ad1, cpw1, rfl, -, -, -, -, hd1⟩ := zAL hrd1
   have x10 := hcell1 0 _ rfl
   have x11 := hcell1 1 _ rfl
   have x12 := hcell1 2 _ rfl
   rw [show off1 + (k * zAS.size + 0) = off1 + k * 3 from rfl] at x10
   rw [show off1 + (k * zAS.size + 1) = off1 + k * 3 + 1 from rfl] at x11
   rw [show off1 + (k * zAS.size + 2) = off1 + k * 3 + 2 from rfl] at x12
   have HR1 : Hid (∀ n : Cls (fun wx => Below wr.heap.size wr wx), zBh zBC n.w ad1 x.2.2) := fun n => zAG hd1 n.h
   clear hcell1 hrd1 hd1
   obtain ⟨b2, off2, cs2, rfl, hrd2, hcell2⟩ := zBG (H2.out _ BB) hx
   obtain ⟨ad2, cpw2, rfl, -, -, -, -, hd2⟩ := zAL hrd2
   have x20 := hcell2 0 _ rfl
   have x21 := hcell2 1 _ rfl
   have x22 := hcell2 2 _ rfl
   rw [show off2 + (k * zAS.size + 0) = off2 + k * 3 from rfl] at x20
   rw [show off2 + (k * zAS.size + 1) = off2 + k * 3 + 1 from rfl] at x21
   rw [show off2 + (k * zAS.size + 2) = off2 + k * 3 + 2 from rfl] at x22
   have HR2 : Hid (∀ n : Cls (fun wx => Below wr.heap.size wr wx), zBh zBC n.w ad2 x.2.2) := fun n => zAG hd2 n.h
   clear hcell2 hrd2 hd2
   have x10c : ∀ n : Cls (fun wx => Below wr.heap.size wr wx), n.w.cell? ⟨b1, off1 + k * 3, none⟩ = some (.int .i64 x.1) := fun n => zEq n.h x10 (zFT x10)
   have x11c : ∀ n : Cls (fun wx => Below wr.heap.size wr wx), n.w.cell? ⟨b1, off1 + k * 3 + 1, none⟩ = some (.int .i64 x.2.1) := fun n => zEq n.h x11 (zFT x11)
   have x12c : ∀ n : Cls (fun wx => Below wr.heap.size wr wx), n.w.cell? ⟨b1, off1 + k * 3 + 2, none⟩ = some (.slice ad1 x.2.2.length cpw1) := fun n => zEq n.h x12 (zFT x12)
   have x20c : ∀ n : Cls (fun wx => Below wr.heap.size wr wx), n.w.cell? ⟨b2, off2 + k * 3, none⟩ = some (.int .i64 x.1) := fun n => zEq n.h x20 (zFT x20)
   have x21c : ∀ n : Cls (fun wx => Below wr.heap.size wr wx), n.w.cell? ⟨b2, off2 + k * 3 + 1, none⟩ = some (.int .i64 x.2.1) := fun n => zEq n.h x21 (zFT x21)
   have x22c : ∀ n : Cls (fun wx => Below wr.heap.size wr wx), n.w.cell? ⟨b2, off2 + k * 3 + 2, none⟩ = some (.slice ad2 x.2.2.length cpw2) := fun n => zEq n.h x22 (zFT x22)
   clear hx x10 x11 x12 x20 x21 x22
   go_wp2_with fail
   refine zA8 (fun wx => Below wr.heap.size wr wx) (by kernel_rfl) (by kernel_rfl) ((Below.refl _ wr).drew) ?_
   intro hne
   repeat (quiet_step ((go_at_call 39; exact zAz (zJg x.1 x.2.1 x.2.2 _ _ _ _ _ (HR1.out _) (HR2.out _) (by have := HX.out; rw [bk_way] at this; exact this)) (fun w' hc bb => zAb hc bb))))
   refine wpQuiet_nil ?_
   intro wx b2
   replace BB := zAb BB b2
   clear b2 hne x10c x11c x12c x20c x21c x22c
   go_wp2
   go_roundw
   case rel => exact ⟨k + 1, by omega, by go_num, BB⟩
   case measure => simp [intOf]; omega
  ·go_wp2
   go_ret
   exact ⟨rfl, BB⟩
theorem zKn (a1 a2 : Option Addr) (xs : List (List (Int × Int × List Int))) (c1 c2 : Nat) (w : World) (h1 : zBh zBl w a1 xs) (h2 : zBh zBl w a2 xs) (hm : (slM zBr).bk xs ≤ 1152921504606846976) :
    Calls Tryz.prog 76 #[.slice a1 xs.length c1, .slice a2 xs.length c2] w fun e w' => e = .returned (.bool true) ∧ Below w.heap.size w w' := by
 have hbk : (slM zBr).bk xs = xs.length + zBz zBr xs := rfl
 have hln : xs.length ≤ 1152921504606846976 := by omega
 have HB : Hid (zBz zBr xs ≤ 1152921504606846976) := by unfold Hid; omega
 have H1 : Hid (∀ W, Below w.heap.size w W → zBh zBl W a1 xs) := fun W hb => zA7 h1 fun k hk => hb.block k hk
 have H2 : Hid (∀ W, Below w.heap.size w W → zBh zBl W a2 xs) := fun W hb => zA7 h2 fun k hk => hb.block k hk
 clear hbk hm h1 h2
 go_enter Tryz.func76, Tryz.ntmps76
 go_wp2
 go_loopw [5] (fun i wr => ∃ k : Nat, k ≤ xs.length ∧ i = .int .i64 k ∧ Below w.heap.size w wr) (fun i _ => xs.length - (intOf i).toNat)
 case atStart => exact ⟨0, Nat.zero_le _, rfl, Below.refl _ _⟩
 case round =>
  obtain ⟨k, hk, rfl, BB⟩ := hrel
  by_cases hlt : k < xs.length
  ·have hlt' : (k : Int) < (xs.length : Int) := by omega
   obtain ⟨x, hx⟩ : ∃ x, xs[k]? = some x := ⟨_, List.getElem?_eq_getElem hlt⟩
   have HX : Hid ((zBr).bk x ≤ 1152921504606846976) := by unfold Hid; have := zFi zBr xs hx; have := HB.out; omega
   obtain ⟨b1, off1, cs1, rfl, ⟨aj1, cj1, rfl, -, -, hd1⟩, hcell1⟩ := zBG (H1.out _ BB) hx
   have x10 := hcell1 0 _ rfl
   rw [show k * zBl.size + 0 = k from Nat.mul_one k] at x10
   have HR1 : Hid (∀ n : Cls (fun wx => Below wr.heap.size wr wx), zBh zAS n.w aj1 x) := fun n => zAG hd1 n.h
   clear hcell1 hd1
   obtain ⟨b2, off2, cs2, rfl, ⟨aj2, cj2, rfl, -, -, hd2⟩, hcell2⟩ := zBG (H2.out _ BB) hx
   have x20 := hcell2 0 _ rfl
   rw [show k * zBl.size + 0 = k from Nat.mul_one k] at x20
   have HR2 : Hid (∀ n : Cls (fun wx => Below wr.heap.size wr wx), zBh zAS n.w aj2 x) := fun n => zAG hd2 n.h
   clear hcell2 hd2
   have x10c : ∀ n : Cls (fun wx => Below wr.heap.size wr wx), n.w.cell? ⟨b1, off1 + k, none⟩ = some (.slice aj1 x.length cj1) := fun n => zEq n.h x10 (zFT x10)
   have x20c : ∀ n : Cls (fun wx => Below wr.heap.size wr wx), n.w.cell? ⟨b2, off2 + k, none⟩ = some (.slice aj2 x.length cj2) := fun n => zEq n.h x20 (zFT x20)
   clear hx x10 x20
   go_wp2_with fail
   refine zA8 (fun wx => Below wr.heap.size wr wx) (by kernel_rfl) (by kernel_rfl) ((Below.refl _ wr).drew) ?_
   intro hne
   repeat (quiet_step ((go_at_call 107; exact zAz (zLL _ _ x _ _ _ (HR1.out _) (HR2.out _) HX.out) (fun w' hc bb => zAb hc bb))))
   refine wpQuiet_nil ?_
   intro wx b2
   replace BB := zAb BB b2
   clear b2 hne x10c x20c
   go_wp2
   go_roundw
   case rel => exact ⟨k + 1, by omega, by go_num, BB⟩
   case measure => simp [intOf]; omega
  ·go_wp2
   go_ret
   exact ⟨rfl, BB⟩
theorem zKo (c : List (List (Int × Int × List Int)) × List Int) (a1 b1 a2 b2 : Option Addr) (c1 d1 c2 d2 : Nat) (w : World) (h1 : zBh zBl w a1 c.1) (k1 : zBh zBC w b1 c.2) (h2 : zBh zBl w a2 c.1) (k2 : zBh zBC w b2 c.2) (hm : zBb.bk c ≤ 1152921504606846976) :
    Calls Tryz.prog 37 #[.agg #[.slice a1 c.1.length c1, .slice b1 c.2.length d1], .agg #[.slice a2 c.1.length c2, .slice b2 c.2.length d2]] w fun e w' => e = .returned (.bool true) ∧ Below w.heap.size w w' := by
 have hbk : zBb.bk c = zEU.bk c.1 + zBn.bk c.2 := rfl
 have hm1 : Hid (zEU.bk c.1 ≤ 1152921504606846976) := by unfold Hid; omega
 have hm2 : Hid (zBn.bk c.2 ≤ 1152921504606846976) := by unfold Hid; omega
 have H1 : Hid (∀ W, Below w.heap.size w W → zBh zBl W a1 c.1 ∧ zBh zBl W a2 c.1 ∧ zBh zBC W b1 c.2 ∧ zBh zBC W b2 c.2) := fun W hb => ⟨zA7 h1 fun k hk => hb.block k hk, zA7 h2 fun k hk => hb.block k hk, zA7 k1 fun k hk => hb.block k hk, zA7 k2 fun k hk => hb.block k hk⟩
 clear h1 h2 k1 k2 hbk hm
 have X0 := zAK (.cells #[.slice a2 c.1.length c2, .slice b2 c.2.length d2] 37) (zAy w (.cells #[.slice a1 c.1.length c1, .slice b1 c.2.length d1] 37))
 have X1 := zAy (w.alloc (.cells #[.slice a1 c.1.length c1, .slice b1 c.2.length d1] 37)) (.cells #[.slice a2 c.1.length c2, .slice b2 c.2.length d2] 37)
 have B0 := zAb (zAf w (.cells #[.slice a1 c.1.length c1, .slice b1 c.2.length d1] 37)) (zAf _ (.cells #[.slice a2 c.1.length c2, .slice b2 c.2.length d2] 37))
 rw [zAp] at X1
 go_enter Tryz.func37, Tryz.ntmps37
 go_wp2_with fail
 generalize (w.alloc (.cells #[.slice a1 c.1.length c1, .slice b1 c.2.length d1] 37)).alloc (.cells #[.slice a2 c.1.length c2, .slice b2 c.2.length d2] 37) = W0 at X0 X1 B0 ⊢
 refine (zKn a1 a2 c.1 c1 c2 _ (H1.out _ B0).1 (H1.out _ B0).2.1 hm1.out).mono ?_
 rintro e w1 ⟨rfl, b1'⟩
 replace B0 := zAb B0 b1'
 obtain ⟨y0, y1⟩ := zBc (zAa b1' X0)
 obtain ⟨z0, z1⟩ := zBc (zAa b1' X1)
 clear b1' X0 X1
 go_wp2_with fail
 refine (zDu b1 b2 c.2 d1 d2 _ (H1.out _ B0).2.2.1 (H1.out _ B0).2.2.2 hm2.out).mono ?_
 rintro e w2 ⟨rfl, n, rfl⟩
 have B2 := zBt B0 n
 clear y0 y1 z0 z1
 go_wp2
 go_ret
 exact ⟨rfl, B2⟩
end Go.Proofs.YtoihjejenjcokaaGreatDoor
