import Derived.Test.YtmdhblhdfcocjaaGreatDoorP00Box
import Derived.Test.YtmdhblhdfcocjaaGreatDoorP12
import Derived.Test.YtmdhblhdfcocjaaGreatDoorP13
namespace Go.Proofs.YtmdhblhdfcocjaaGreatDoor
set_option maxHeartbeats 2000000
open Go.ChangeShapes Go.WideShapes Go.ChangeAt Go.RowKit
set_option linter.unusedVariables false
theorem zEq (w : World) : Calls Tryz.prog 103 #[] w fun e w' => ∃ av cv, e = .returned (.agg #[nI (-1), nI 0, sL av 0 cv]) ∧ zBa zAR w w' [nI (-1), nI 0, sL av 0 cv] zAF := by
 have M := zDz (w.alloc (.cells #[nI (-1), nI 0, sL (some ⟨w.heap.size + 1, 0, none⟩) 0 0] 39));have X := zAJ (.cells #[] 2) (zAy w (.cells #[nI (-1), nI 0, sL (some ⟨w.heap.size + 1, 0, none⟩) 0 0] 39));rw [zAp] at M;obtain ⟨r0, r1, r2⟩ := zCl X;go_enter Tryz.func103, Tryz.ntmps103;go_wp2;refine bodyPost_ret (v := .agg #[nI (-1), nI 0, sL (some ⟨w.heap.size + 1, 0, none⟩) 0 0]) (by simp [results, Tryz.results103, go_sem]) rfl ⟨_, _, rfl, zCF (by constructor <;> decide) (by constructor <;> decide) ?_, zAb (zAf w _) M.2⟩;exact zA5.own_mono M.1 (zCb (by simp) (Nat.le_refl _))
theorem zDR (w : World) (S : zAW) : zA5.own w S [sL none 0 0] [] := ⟨_, [], fun _ => False, rfl, World.ownsRow_nil _ _ _ _, fun g hg => by simp [Value.ownBlock] at hg, fun _ h => h.elim, rfl⟩
theorem zKp (w : World) : Calls Tryz.prog 59 #[] w fun e w' => ∃ av cv, e = .returned (.agg #[nI (-1), nI 0, sL av 0 cv]) ∧ zBa zAR w w' [nI (-1), nI 0, sL av 0 cv] zAF := by
 go_enter Tryz.func59, Tryz.ntmps59;go_wp2;refine bodyPost_ret (v := .agg #[nI (-1), nI 0, sL none 0 0]) (by simp [results, Tryz.results59, go_sem]) rfl ⟨_, _, rfl, zCF (by constructor <;> decide) (by constructor <;> decide) (zDR _ _), zAf w _⟩
theorem zDS (l s : Int) (d : List Int) (a : Option Addr) (cap : Nat) (w : World) (i1 : zBk l) (i2 : zBk s) (h : zBg zBC w a d) (hm : d.length ≤ 1048576) :
    Calls Tryz.prog 71 #[.agg #[nI l, nI s, sL a d.length cap]] w fun e w' => ∃ y z, e = .returned (.agg #[nI l, nI s, sL y d.length z]) ∧ zBa zAR w w' [nI l, nI s, sL y d.length z] (l, s, d) := by
 cases a with
 | some ad =>
  obtain ⟨S, O, E, F, D⟩ := info_parts Tryz.infoI;have X := zAb (zAf w (.cells #[nI l, nI s, sL (some ad) d.length cap] 39)) (zAf _ (.cells #[nI 0, nI 0, sL none 0 0] 39));have m := zAJ (.cells #[nI 0, nI 0, sL none 0 0] 39) (zAy w (.cells #[nI l, nI s, sL (some ad) d.length cap] 39));have i := zAy (w.alloc (.cells #[nI l, nI s, sL (some ad) d.length cap] 39)) (.cells #[nI 0, nI 0, sL none 0 0] 39);rw [zAp] at i;have B : ((w.alloc (.cells #[nI l, nI s, sL (some ad) d.length cap] 39)).alloc (.cells #[nI 0, nI 0, sL none 0 0] 39)).heap.size = w.heap.size + 1 + 1 := by simp
  have f : (((w.alloc (.cells #[nI l, nI s, sL (some ad) d.length cap] 39)).alloc (.cells #[nI 0, nI 0, sL none 0 0] 39)).alloc (.cells #[] 2)).ownsRow ((w.alloc (.cells #[nI l, nI s, sL (some ad) d.length cap] 39)).alloc (.cells #[nI 0, nI 0, sL none 0 0] 39)).heap.size 2 1 (sL (some ⟨((w.alloc (.cells #[nI l, nI s, sL (some ad) d.length cap] 39)).alloc (.cells #[nI 0, nI 0, sL none 0 0] 39)).heap.size, 0, none⟩) 0 0) 0 [] := World.ownsRow_lit _ #[] 0 (Nat.le_refl _) (Nat.zero_le _) rfl;rw [B] at f;have G : Hid (zBk l ∧ zBk s) := ⟨i1, i2⟩;have Y : Hid (zDF w (some ad) d ∧ ∀ x ∈ d, zBk x) := ⟨zCw h, zHR h⟩;have L : Hid _ := aI m i;clear i1 i2 m i h;go_enter Tryz.func71, Tryz.ntmps71;go_wp2_with (at_builtin; refine wpList_append_own _ rfl _ _ 23 rfl (w.heap.size + 1 + 1) 2 S (nI 0) 1 8 Tryz.underlying23 O E F D rfl (by decide) _ _ _ rfl f ad d.length cap (d.map (Value.int .i64)) rfl (by simp) ?c1 ?c2 ?c3 ?c4 ?c5 ?_)
  case c1 =>
   intro j u hj;obtain ⟨q, rfl⟩ := List.getElem?_eq_some_iff.1 hj;simp at q
   rcases Y.out.1 with rfl | ⟨b, r, I, hc⟩
   ·simp at q
   simp only [Option.some.injEq] at I;subst I;have Z := hc j q;have V := cell_kp3 w (.cells #[nI l, nI s, sL (some ⟨b, r, none⟩) d.length cap] 39) (.cells #[nI 0, nI 0, sL none 0 0] 39) (.cells #[] 2) Z;rw [show (⟨b, r, none⟩ : Addr).add j = ⟨b, r + j, none⟩ from by simp [Addr.add], V];simp [List.getD_eq_getElem?_getD, q]
  case c2 => intro u hu; simp at hu; obtain ⟨x, _, rfl⟩ := hu; rfl
  case c3 => unfold maxLen; omega
  case c4 => omega
  case c5 => simp
  ·intro U J p n A;have hv : U ≠ sL none 0 0 := A;have k : J.ownsRow ((w.alloc (.cells #[nI l, nI s, sL (some ad) d.length cap] 39)).alloc (.cells #[nI 0, nI 0, sL none 0 0] 39)).heap.size 2 1 U d.length (d.map (Value.int .i64)) := by rw [B]; simpa using p
   have C := zD8 (zHQ (w := (w.alloc (.cells #[nI l, nI s, sL (some ad) d.length cap] 39)).alloc (.cells #[nI 0, nI 0, sL none 0 0] 39)) k (by rw [B]; exact n) hv) Y.out.2;obtain ⟨y, z, rfl⟩ := zBD C.1;obtain ⟨m, i⟩ := L.out;have B1 := zAb X C.2;replace m := zAa C.2 m;replace i := zAa C.2 i;obtain ⟨y0, y1, y2⟩ := zCl m;obtain ⟨f0, f1, f2⟩ := zCx m;obtain ⟨z0, z1, z2⟩ := zCl i;obtain ⟨Z, V, g2⟩ := zCx i;have K : Hid (zA5.own J (rng ((w.alloc (.cells #[nI l, nI s, sL (some ad) d.length cap] 39)).alloc (.cells #[nI 0, nI 0, sL none 0 0] 39)).heap.size J.heap.size) [sL y d.length z] d) := C.1;have R : Hid _ := aI m i;clear p n A f k C m i L hv;go_wp2;obtain ⟨m, i⟩ := R.out;have Y1 := put3 (a := nI l) (b := nI s) (c := sL y d.length z) (zAO (g := w.heap.size) (o := 2) (v := sL y d.length z) i (by omega));obtain ⟨r0, r1, r2⟩ := zCl Y1;refine bodyPost_ret (v := .agg #[nI l, nI s, sL y d.length z]) (by simp [results, Tryz.results71, go_sem, r0, r1, r2]) rfl ⟨y, z, rfl, zCF G.out.1 G.out.2 ?_, ?_⟩
   ·refine zA5.own_mono (zAl (zAl (zAl (zAl K.out (fun h => by have := h.1; omega)) (fun h => by have := h.1; omega)) (fun h => by have := h.1; omega)) (fun h => by have := h.1; omega)) ?_;exact zCb (by omega) (by simp)
   ·exact zAq (zAq (zAq (zAq B1 (by omega)) (by omega)) (by omega)) (by omega)
 | none =>
  obtain rfl : d = [] := by
   rcases h with h | ⟨b, r, T, I, _⟩
   ·exact h
   ·cases I
  rw [show ([] : List Int).length = 0 from rfl];obtain ⟨S, O, E, F, D⟩ := info_parts Tryz.infoI;have X := zAb (zAf w (.cells #[nI l, nI s, sL none 0 cap] 39)) (zAf _ (.cells #[nI 0, nI 0, sL none 0 0] 39));have m := zAJ (.cells #[nI 0, nI 0, sL none 0 0] 39) (zAy w (.cells #[nI l, nI s, sL none 0 cap] 39));have i := zAy (w.alloc (.cells #[nI l, nI s, sL none 0 cap] 39)) (.cells #[nI 0, nI 0, sL none 0 0] 39);rw [zAp] at i;have B : ((w.alloc (.cells #[nI l, nI s, sL none 0 cap] 39)).alloc (.cells #[nI 0, nI 0, sL none 0 0] 39)).heap.size = w.heap.size + 1 + 1 := by simp
  have f : (((w.alloc (.cells #[nI l, nI s, sL none 0 cap] 39)).alloc (.cells #[nI 0, nI 0, sL none 0 0] 39)).alloc (.cells #[] 2)).ownsRow ((w.alloc (.cells #[nI l, nI s, sL none 0 cap] 39)).alloc (.cells #[nI 0, nI 0, sL none 0 0] 39)).heap.size 2 1 (sL (some ⟨((w.alloc (.cells #[nI l, nI s, sL none 0 cap] 39)).alloc (.cells #[nI 0, nI 0, sL none 0 0] 39)).heap.size, 0, none⟩) 0 0) 0 [] := World.ownsRow_lit _ #[] 0 (Nat.le_refl _) (Nat.zero_le _) rfl;rw [B] at f;have G : Hid (zBk l ∧ zBk s) := ⟨i1, i2⟩;have M := zDz ((w.alloc (.cells #[nI l, nI s, sL none 0 cap] 39)).alloc (.cells #[nI 0, nI 0, sL none 0 0] 39));rw [B] at M;have HM : Hid _ := M;have L : Hid _ := aI m i;clear i1 i2 M m i;go_enter Tryz.func71, Tryz.ntmps71;go_wp2_with (at_builtin; refine zCG rfl _ _ 23 rfl (w.heap.size + 1 + 1) 2 S 1 Tryz.underlying23 O cap _ _ _ rfl f rfl ?_)
  have N := zDz ((w.alloc (.cells #[nI l, nI s, sL (some ⟨w.heap.size + 1 + 1, 0, none⟩) 0 0] 39)).alloc (.cells #[nI l, nI s, sL (some ⟨w.heap.size + 1 + 1, 0, none⟩) 0 0] 39));have H : ((w.alloc (.cells #[nI l, nI s, sL (some ⟨w.heap.size + 1 + 1, 0, none⟩) 0 0] 39)).alloc (.cells #[nI l, nI s, sL (some ⟨w.heap.size + 1 + 1, 0, none⟩) 0 0] 39)).heap.size = w.heap.size + 1 + 1 := by simp
  rw [H] at N;refine bodyPost_ret (v := .agg #[nI l, nI s, sL (some ⟨w.heap.size + 1 + 1, 0, none⟩) 0 0]) (by simp [results, Tryz.results71, go_sem]) rfl ⟨_, _, rfl, zCF G.out.1 G.out.2 (zA5.own_mono N.1 (zCb (by rw [H]; omega) (Nat.le_refl _))), zAb (zAb (zAf w _) (zAf _ _)) N.2⟩
theorem zDT (l s : Int) (d : List Int) (a : Option Addr) (cap : Nat) (w : World) (i1 : zBk l) (i2 : zBk s) (h : zBg zBC w a d) (hm : d.length ≤ 1048576) :
    Calls Tryz.prog 56 #[.agg #[nI l, nI s, sL a d.length cap]] w fun e w' => ∃ i j, e = .returned (.agg #[nI l, nI s, sL i d.length j]) ∧ zBa zAR w w' [nI l, nI s, sL i d.length j] (l, s, d) := by
 have z := zAb (zAf w (.cells #[nI l, nI s, sL a d.length cap] 39)) (zAf _ (.cells #[nI 0, nI 0, sL none 0 0] 39));have m := zAJ (.cells #[nI 0, nI 0, sL none 0 0] 39) (zAy w (.cells #[nI l, nI s, sL a d.length cap] 39));have f := zAy (w.alloc (.cells #[nI l, nI s, sL a d.length cap] 39)) (.cells #[nI 0, nI 0, sL none 0 0] 39);rw [zAp] at f;have sz : ((w.alloc (.cells #[nI l, nI s, sL a d.length cap] 39)).alloc (.cells #[nI 0, nI 0, sL none 0 0] 39)).heap.size = w.heap.size + 1 + 1 := by simp
 have y : Hid (zBk l ∧ zBk s) := ⟨i1, i2⟩;have A := zDc a d cap ((w.alloc (.cells #[nI l, nI s, sL a d.length cap] 39)).alloc (.cells #[nI 0, nI 0, sL none 0 0] 39)) (zA7 h fun k hk => z.block k hk) hm;clear i1 i2 h hm;go_enter Tryz.func56, Tryz.ntmps56;go_wp2_with fail
 refine A.mono ?_;rintro e r ⟨v, rfl, n⟩;obtain ⟨i, j, rfl⟩ := zBD n.1;have E := zAb z n.2;replace m := zAa n.2 m;replace f := zAa n.2 f;obtain ⟨y0, y1, y2⟩ := zCl m;obtain ⟨f0, f1, f2⟩ := zCx m;obtain ⟨z0, z1, z2⟩ := zCl f;obtain ⟨g0, g1, g2⟩ := zCx f;have p : Hid (zA5.own r (rng ((w.alloc (.cells #[nI l, nI s, sL a d.length cap] 39)).alloc (.cells #[nI 0, nI 0, sL none 0 0] 39)).heap.size r.heap.size) [sL i d.length j] d) := n.1;have q : Hid _ := aI m f;clear n m f A;go_wp2;obtain ⟨m, f⟩ := q.out;have F := put3 (a := nI l) (b := nI s) (c := sL i d.length j) (zAO (g := w.heap.size) (o := 2) (v := sL i d.length j) f (by omega));obtain ⟨C, D, B⟩ := zCl F;refine bodyPost_ret (v := .agg #[nI l, nI s, sL i d.length j]) (by simp [results, Tryz.results56, go_sem, C, D, B]) rfl ⟨i, j, rfl, zCF y.out.1 y.out.2 ?_, ?_⟩
 ·refine zA5.own_mono (zAl (zAl (zAl (zAl p.out (fun h => by have := h.1; omega)) (fun h => by have := h.1; omega)) (fun h => by have := h.1; omega)) (fun h => by have := h.1; omega)) ?_;exact zCb (by omega) (by simp)
 ·exact zAq (zAq (zAq (zAq E (by omega)) (by omega)) (by omega)) (by omega)
open Go.ChangeShapes Go.WideShapes Go.ChangeAt Go.RowKit Go.Shelf
theorem in64_w {k : Int} (h0 : 0 ≤ k) (h1 : k ≤ 1152921504606846976) : zBk k := by constructor <;> omega
theorem zMQ (xs : List (Int × Int × List Int)) : xs.length ≤ zA1 zBE xs := by
 induction xs with
 | nil => exact Nat.zero_le _
 | cons x xs ih =>
  simp only [zA1, List.map_cons, List.sum_cons, List.length_cons] at ih ⊢;have : 1 ≤ zBE.cE x := by show 1 ≤ 1 + _; omega
  omega
theorem zJg (k : Int) (w : World) :
    Calls Tryz.prog 108 #[sL none 0 0, nI k] w fun e' w' => e' = .returned (nI k) ∧ w' = w := by
 go_enter Tryz.func108, Tryz.ntmps108;go_wp2;refine wp_loop_rounds 1 ?_;rw [rounds_succ];go_wp2;go_ret
 exact ⟨rfl, rfl⟩
theorem zJh (S : zAW) (v : Value) (k : Int) (xs : List (Int × Int × List Int)) (w : World) (h0 : 0 ≤ k) (h1 : k ≤ 288230376151711744) (hm : zA1 zBE xs ≤ 288230376151711744) (h : zBl.own w S [v] xs) :
    Calls Tryz.prog 108 #[v, nI k] w fun e' d => e' = .returned (nI (k + zA1 zBE xs)) ∧ zBl.own d S [v] (zBv zBE k xs) ∧ Chg S w d := by
 have AA := zMQ xs;rcases zD9 h with ⟨rfl, rfl⟩ | ⟨G, y, rfl, hG⟩
 ·exact (zJg k w).mono fun e d ⟨e1, e2⟩ => ⟨by simpa [zA1] using e1, by rw [e2]; exact h, by rw [e2]; exact Chg.refl _ _⟩
 go_enter Tryz.func108, Tryz.ntmps108;go_wp2;go_loopw [1, 5] (fun q i wr => ∃ j : Nat, j ≤ xs.length ∧ i = nI j ∧ q = nI (k + zA1 zBE (xs.take j)) ∧ zBl.own wr S [sL (some ⟨G, 0, none⟩) xs.length y] (zEg zBE k xs j) ∧ Chg S w wr)
  (fun _ i _ => xs.length - (intOf i).toNat)
 case atStart => exact ⟨0, Nat.zero_le _, rfl, by simp [zA1], by rw [zE0]; exact h, Chg.refl _ _⟩
 case round =>
  obtain ⟨j, hj, rfl, rfl, E, hs⟩ := hrel;by_cases Z : j < xs.length
  ·have jA : (j : Int) < (xs.length : Int) := by omega
   obtain ⟨x, s⟩ : ∃ x, xs[j]? = some x := ⟨_, List.getElem?_eq_getElem Z⟩;have HT : Hid (zA1 zBE (xs.take (j + 1)) = zA1 zBE (xs.take j) + (1 + (1 + zA1 zBx x.2.2))) := zCv (M := zBE) s;have hT : zA1 zBE (xs.take j) + (1 + (1 + zA1 zBx x.2.2)) ≤ zA1 zBE xs := zCT (M := zBE) s;have p : Hid _ := zE1 (M := zBE) (k := k) s;obtain ⟨g, cA, l, Sj, T, c, hv, C, a, b, K, n, X, s2, s3, z, s5, f⟩ := zBH E (zFg s);simp only [Value.slice.injEq, Option.some.injEq, Addr.mk.injEq, and_true] at hv;obtain ⟨rfl, H⟩ := hv;obtain ⟨vd, rfl, -, -, o⟩ := zHX n;obtain ⟨D, F, rfl⟩ := zBD o;have q0 : wr.cell? ⟨G, j * 3, none⟩ = some (nI x.1) := by rw [cell_of_row wr G _ l _ (0, 0) a]; exact b 0 (by decide)
   have q1 : wr.cell? ⟨G, j * 3 + 1, none⟩ = some (nI x.2.1) := by rw [cell_of_row wr G _ l _ (0, 0) a]; exact b 1 (by decide)
   have q2 : wr.cell? ⟨G, j * 3 + 2, none⟩ = some (sL D x.2.2.length F) := by rw [cell_of_row wr G _ l _ (0, 0) a]; exact b 2 (by decide)
   have f0 : wr.frozen? ⟨G, j * 3, none⟩ = false := frozen_of_row wr G _ _ _ a;have f1 : wr.frozen? ⟨G, j * 3 + 1, none⟩ = false := frozen_of_row wr G _ _ _ a;have Y : j * 3 + 2 < l.size := by
    have := b 2 (by decide);exact (Array.getElem?_eq_some_iff.1 (this.trans rfl)).1
   clear H K;generalize U : k + (zA1 zBE (xs.take j) : Int) = kk at p ⊢;have I : 0 ≤ kk ∧ kk ≤ 576460752303423488 := by omega
   have HC : Hid (∀ d, Chg Sj ((wr.setCell ⟨G, j * 3, none⟩ (nI kk)).setCell ⟨G, j * 3 + 1, none⟩ (nI (kk + 1))) d → zA5.own d Sj [sL D x.2.2.length F] (zBv zBx (kk + 1 + 1) x.2.2) → zBl.own d S [sL (some ⟨G, 0, none⟩) xs.length y] (zEg zBE k xs (j + 1)) ∧ Chg S wr d) := by
    intro d V R;have y1 := heap_setCell_same wr G (j * 3) _ _ (nI kk) a;have y2 := heap_setCell_same _ G (j * 3 + 1) _ _ (nI (kk + 1)) y1;have O : G < wr.heap.size := (ltH a)
    have c1 : Chg S wr ((wr.setCell ⟨G, j * 3, none⟩ (nI kk)).setCell ⟨G, j * 3 + 1, none⟩ (nI (kk + 1))) := ⟨rfl, rfl, rfl, by simp, fun i r hn => by
     have : i ≠ G := fun e => hn (by rw [e]; exact C)
     rw [heap_setCell_other _ ⟨G, j * 3 + 1, none⟩ i _ this, heap_setCell_other _ ⟨G, j * 3, none⟩ i _ this]⟩
    refine ⟨?_, c1.trans (V.mono X)⟩;rw [← p.out];refine f d _ [nI kk, nI (kk + 1), sL D x.2.2.length F] _ Sj S ((V.block G (by simpa using O) z).trans y2) (by simp) ?_ ?_ ?_ (zCF (in64_w I.1 (by omega)) (in64_w (by omega) (by omega)) R) s3 z C X s2
    ·intro i r;rw [show zAR.size = 3 from rfl] at r;rw [Array.getElem?_setIfInBounds_ne (by omega), Array.getElem?_setIfInBounds_ne (by omega)]
    ·intro i r;rw [show zAR.size = 3 from rfl] at r;rw [show j * zAR.size = j * 3 from rfl];have h3 : i = 0 ∨ i = 1 ∨ i = 2 := by omega
     rcases h3 with rfl | rfl | rfl
     ·rw [Array.getElem?_setIfInBounds_ne (by omega), Nat.add_zero, Array.getElem?_setIfInBounds_self_of_lt (by omega)];rfl
     ·rw [Array.getElem?_setIfInBounds_self_of_lt (by simp; omega)];rfl
     ·rw [Array.getElem?_setIfInBounds_ne (by omega), Array.getElem?_setIfInBounds_ne (by omega)];exact b 2 (by decide)
    ·intro i r L;have A : i ≠ G := fun e => s5 (by rw [← e]; exact r);rw [V.block i (by simpa using L) (fun s => s3 i s r), heap_setCell_other _ ⟨G, j * 3 + 1, none⟩ i _ A, heap_setCell_other _ ⟨G, j * 3, none⟩ i _ A]
   have HO : Hid (zA5.own ((wr.setCell ⟨G, j * 3, none⟩ (nI kk)).setCell ⟨G, j * 3 + 1, none⟩ (nI (kk + 1))) Sj [sL D x.2.2.length F] x.2.2) := zAl (zAl o z) z;clear s E n f b a X s2 s3 z s5 p h o Y;generalize zA1 zBE (xs.take j) = TT at HT hT U;go_wp2_with fail
   refine (zCi Sj _ _ x.2.2 _ (by omega) (by omega) (by omega) HO.out).mono ?_;rintro e d ⟨rfl, m, gr⟩;obtain ⟨N, B⟩ := HC.out d gr m;have aA := hs.trans B;clear m gr B HC HO q0 q1 q2 f0 f1;go_wp2;go_roundw
   case rel => exact ⟨j + 1, by omega, by go_num, by rw [HT.out]; congr 1; omega, N, aA⟩
   case measure => simp [intOf]; omega
  ·have J : j = xs.length := by omega
   subst J;rw [List.take_length];rw [zFf] at E;go_wp2;go_ret
   exact ⟨rfl, E, hs⟩
theorem zJi (a : Option Addr) (cap : Nat) (k : Int) (xs : List (Int × Int × List Int)) (w : World) (h0 : 0 ≤ k) (h1 : k ≤ 288230376151711744) (hm : zA1 zBE xs ≤ 288230376151711744) (h : zBg zAR w a (zBv zBE k xs)) :
    Calls Tryz.prog 109 #[sL a xs.length cap, nI k] w fun e' v => e' = .returned (nI (k + zA1 zBE xs)) ∧ v = w := by
 have I := zMQ xs;go_enter Tryz.func109, Tryz.ntmps109;go_wp2;go_loop [1, 5] (fun q i => ∃ j : Nat, j ≤ xs.length ∧ i = nI j ∧ q = nI (k + zA1 zBE (xs.take j))) (fun _ i => xs.length - (intOf i).toNat)
 case atStart => exact ⟨0, Nat.zero_le _, rfl, by simp [zA1]⟩
 case round =>
  obtain ⟨j, hj, rfl, rfl⟩ := hrel;by_cases s : j < xs.length
  ·have B : (j : Int) < (xs.length : Int) := by omega
   obtain ⟨x, m⟩ : ∃ x, xs[j]? = some x := ⟨_, List.getElem?_eq_getElem s⟩;obtain ⟨b, d, cs, rfl, g, c⟩ := zBG h (zD7 (M := zBE) (k := k) m);obtain ⟨C, H, rfl, -, -, -, -, f⟩ := zAK g;have p := c 0 _ rfl;have o := c 1 _ rfl;have z := c 2 _ rfl;rw [show d + (j * zAR.size + 0) = d + j * 3 from rfl] at p;rw [show d + (j * zAR.size + 1) = d + j * 3 + 1 from rfl] at o;rw [show d + (j * zAR.size + 2) = d + j * 3 + 2 from rfl] at z;have l : (zBE.mE (k + zA1 zBE (xs.take j)) x).2.2.length = x.2.2.length := zBF _ _ _;rw [l] at z;have A : Hid (zBg zBC w C (zBv zBx (k + zA1 zBE (xs.take j) + 1 + 1) x.2.2)) := f;have E : w.cell? ⟨b, d + j * 3, none⟩ = some (nI (k + zA1 zBE (xs.take j))) := p;have F : w.cell? ⟨b, d + j * 3 + 1, none⟩ = some (nI (k + zA1 zBE (xs.take j) + 1)) := o;have y : Hid (zA1 zBE (xs.take (j + 1)) = zA1 zBE (xs.take j) + (1 + (1 + zA1 zBx x.2.2))) := zCv (M := zBE) m;have G : zA1 zBE (xs.take j) + (1 + (1 + zA1 zBx x.2.2)) ≤ zA1 zBE xs := zCT (M := zBE) m;clear m g c h l f p o;generalize r : k + (zA1 zBE (xs.take j) : Int) = kk at A E F ⊢;generalize zA1 zBE (xs.take j) = TT at y G r;have D : 0 ≤ kk ∧ kk ≤ 576460752303423488 := by omega
   have hn : ¬ (kk + 1 + 1 + ((zA1 zBx x.2.2 : Nat) : Int) < 0) := by omega
   go_wp2_with (go_at_call 48; refine (zC6 _ _ _ x.2.2 _ (by omega) (by omega) (by omega) A.out).mono ?_; rintro e v ⟨rfl, rfl⟩)
   go_round
   case rel => exact ⟨j + 1, by omega, by go_num, by rw [y.out]; congr 1; omega⟩
   case measure => simp [intOf]; omega
  ·have n : j = xs.length := by omega
   subst n;rw [List.take_length];go_wp2;go_ret
   exact ⟨rfl, rfl⟩
theorem zIh (k : Int) (w : World) :
    Calls Tryz.prog 78 #[sL none 0 0, nI k] w fun e' w' => e' = .returned (nI k) ∧ w' = w := by
 go_enter Tryz.func78, Tryz.ntmps78;go_wp2;refine wp_loop_rounds 1 ?_;rw [rounds_succ];go_wp2;go_ret
 exact ⟨rfl, rfl⟩
theorem zIi (S : zAW) (v : Value) (k : Int) (xs : List (List (Int × Int × List Int))) (w : World) (h0 : 0 ≤ k) (h1 : k ≤ 144115188075855872) (hm : zA1 zBr xs ≤ 144115188075855872) (hln : xs.length ≤ 144115188075855872) (h : (slR 115 zBl).own w S [v] xs) :
    Calls Tryz.prog 78 #[v, nI k] w fun e' b => e' = .returned (nI (k + zA1 zBr xs)) ∧ (slR 115 zBl).own b S [v] (zBv zBr k xs) ∧ Chg S w b := by
 rcases zD9 h with ⟨rfl, rfl⟩ | ⟨G, n, rfl, hG⟩
 ·exact (zIh k w).mono fun e b ⟨e1, e2⟩ => ⟨by simpa [zA1] using e1, by rw [e2]; exact h, by rw [e2]; exact Chg.refl _ _⟩
 go_enter Tryz.func78, Tryz.ntmps78;go_wp2;go_loopw [1, 5] (fun q i wr => ∃ j : Nat, j ≤ xs.length ∧ i = nI j ∧ q = nI (k + zA1 zBr (xs.take j)) ∧ (slR 115 zBl).own wr S [sL (some ⟨G, 0, none⟩) xs.length n] (zEg zBr k xs j) ∧ Chg S w wr)
  (fun _ i _ => xs.length - (intOf i).toNat)
 case atStart => exact ⟨0, Nat.zero_le _, rfl, by simp [zA1], by rw [zE0]; exact h, Chg.refl _ _⟩
 case round =>
  obtain ⟨j, hj, rfl, rfl, y, Y⟩ := hrel;by_cases L : j < xs.length
  ·have cA : (j : Int) < (xs.length : Int) := by omega
   obtain ⟨x, s⟩ : ∃ x, xs[j]? = some x := ⟨_, List.getElem?_eq_getElem L⟩;have Z : Hid (zA1 zBr (xs.take (j + 1)) = zA1 zBr (xs.take j) + zA1 zBE x) := zCv (M := zBr) s;have hT : zA1 zBr (xs.take j) + zA1 zBE x ≤ zA1 zBr xs := zCT (M := zBr) s;have p : Hid _ := zE1 (M := zBr) (k := k) s;obtain ⟨g, U, r, Sj, T, c, hv, I, a, l, o, d, J, X, R, C, s5, f⟩ := zBH y (zFg s);obtain ⟨V, rfl⟩ : ∃ V, c = [V] := List.length_eq_one_iff.1 o;obtain ⟨z, K, rfl⟩ := zBD d;simp only [Value.slice.injEq, Option.some.injEq, Addr.mk.injEq, and_true] at hv;obtain ⟨rfl, A⟩ := hv;clear A o;have q1 : wr.cell? ⟨G, j, none⟩ = some (sL z x.length K) := by
    rw [cell_of_row wr G j r _ (0, 0) a];have := l 0 Nat.zero_lt_one;rwa [show j * (zBl).size + 0 = j from Nat.mul_one j] at this
   have HO : Hid _ := d;have HC : Hid (∀ b, Chg Sj wr b → (zBl).own b Sj [sL z x.length K] (zBv zBE (k + zA1 zBr (xs.take j)) x) → (slR 115 zBl).own b S [sL (some ⟨G, 0, none⟩) xs.length n] (zEg zBr k xs (j + 1))) := by
    intro b hc H;rw [← p.out];have F : G < wr.heap.size := (ltH a);exact f b r [sL z x.length K] _ Sj S (by rw [hc.block G F C]; exact a) rfl (fun _ _ => rfl) l (hc.keeps R.symm) H R C I J X
   have D : Hid _ := J;clear s y d f l a X R C s5 J p h;generalize zA1 zBr (xs.take j) = T at Z hT HC ⊢;go_wp2_with (go_at_call 108; refine (zJh Sj _ _ x _ (by omega) (by omega) (by omega) HO.out).mono ?_; rintro e b ⟨rfl, m, N⟩)
   have E := HC.out b N m;have O := Y.trans (N.mono D.out);clear m N;go_roundw
   case rel => exact ⟨j + 1, by omega, by go_num, by rw [Z.out]; go_num, E, O⟩
   case measure => simp [intOf]; omega
  ·have B : j = xs.length := by omega
   subst B;rw [List.take_length];rw [zFf] at y;go_wp2;go_ret
   exact ⟨rfl, y, Y⟩
theorem zIj (a : Option Addr) (cap : Nat) (k : Int) (xs : List (List (Int × Int × List Int))) (w : World) (h0 : 0 ≤ k) (h1 : k ≤ 144115188075855872) (hm : zA1 zBr xs ≤ 144115188075855872) (hln : xs.length ≤ 144115188075855872) (h : zBg zBl w a (zBv zBr k xs)) :
    Calls Tryz.prog 79 #[sL a xs.length cap, nI k] w fun e' p => e' = .returned (nI (k + zA1 zBr xs)) ∧ p = w := by
 go_enter Tryz.func79, Tryz.ntmps79;go_wp2;go_loop [1, 5] (fun q i => ∃ j : Nat, j ≤ xs.length ∧ i = nI j ∧ q = nI (k + zA1 zBr (xs.take j))) (fun _ i => xs.length - (intOf i).toNat)
 case atStart => exact ⟨0, Nat.zero_le _, rfl, by simp [zA1]⟩
 case round =>
  obtain ⟨j, hj, rfl, rfl⟩ := hrel;by_cases o : j < xs.length
  ·have y : (j : Int) < (xs.length : Int) := by omega
   obtain ⟨x, l⟩ : ∃ x, xs[j]? = some x := ⟨_, List.getElem?_eq_getElem o⟩;obtain ⟨b, A, c, rfl, ⟨z, cj, rfl, n, C, f⟩, d⟩ := zBG h (zD7 (M := zBr) (k := k) l);have s := d 0 _ rfl;rw [show j * (zBl).size + 0 = j from Nat.mul_one j] at s;have g : ((zBr).mE (k + zA1 zBr (xs.take j)) x).length = x.length := zBF _ _ _;rw [g] at s;have v : Hid (zBg _ w z (zBv zBE (k + zA1 zBr (xs.take j)) x)) := f;have r : Hid (zA1 zBr (xs.take (j + 1)) = zA1 zBr (xs.take j) + zA1 zBE x) := zCv (M := zBr) l;have B : zA1 zBr (xs.take j) + zA1 zBE x ≤ zA1 zBr xs := zCT (M := zBr) l;clear l f d h g n;generalize zA1 zBr (xs.take j) = T at r B v ⊢;have hn : ¬ (k + (T : Int) + ((zA1 zBE x : Nat) : Int) < 0) := by omega
   go_wp2_with (go_at_call 109; refine (zJi _ _ _ x _ (by omega) (by omega) (by omega) v.out).mono ?_; rintro e p ⟨rfl, rfl⟩)
   go_round
   case rel => exact ⟨j + 1, by omega, by go_num, by rw [r.out]; go_num⟩
   case measure => simp [intOf]; omega
  ·have m : j = xs.length := by omega
   subst m;rw [List.take_length];go_wp2;go_ret
   exact ⟨rfl, rfl⟩
def zMR (k : Int) (c : List (List (Int × Int × List Int)) × List Int) : List (List (Int × Int × List Int)) × List Int := (zBv zBr k c.1, zBv zBx (k + zA1 zBr c.1) c.2)
def cntC (c : List (List (Int × Int × List Int)) × List Int) : Nat := zA1 zBr c.1 + zA1 zBx c.2
theorem zIk (S : zAW) (u v : Value) (k : Int) (c : List (List (Int × Int × List Int)) × List Int) (w : World) (h0 : 0 ≤ k) (h1 : k ≤ 72057594037927936) (hm : cntC c ≤ 72057594037927936) (hln : c.1.length ≤ 72057594037927936) (h : zAB.own w S [u, v] c) :
    Calls Tryz.prog 41 #[.agg #[u, v], nI k] w fun e' w' => e' = .returned (nI (k + cntC c)) ∧ zAB.own w' S [u, v] (zMR k c) ∧ Chg S w w' := by
 obtain ⟨u', v', q, A, e, z, C, n, o, d⟩ := zCe h;simp only [List.cons.injEq, and_true] at e;obtain ⟨rfl, rfl⟩ := e;obtain ⟨a, y, rfl⟩ := zBD z;obtain ⟨b, B, rfl⟩ := zBD C;have l : cntC c = zA1 zBr c.1 + zA1 zBx c.2 := rfl;have X := zAy w (.cells #[sL a c.1.length y, sL b c.2.length B] 37);have G := zBQ (.cells #[sL a c.1.length y, sL b c.2.length B] 37) (zBM z);have E := zBQ (.cells #[sL a c.1.length y, sL b c.2.length B] 37) (zBM C);have i : Dis (Old w q) (Old w A) := d.sub zB6 zB6;have f : ¬ Old w q w.heap.size := fun h => by have := h.2; omega
 clear h z C d;have r := zIi (Old w q) _ k c.1 _ h0 (by omega) (by omega) (by omega) G;have m : Hid _ := E;have F : Hid _ := X;have Y : Hid _ := aI i (aI f (aI n o));clear X G E i f n o;generalize V : zA1 zBr c.1 = T at r l;go_enter Tryz.func41, Tryz.ntmps41;go_wp2_with fail
 refine r.mono ?_;rintro e w1 ⟨rfl, j, g⟩;obtain ⟨i, f, n, o⟩ := Y.out;have I := (g.block w.heap.size (by simp) f).trans F.out;have J := zAN m.out g i.symm;obtain ⟨O, N⟩ := zBb I;have D : Hid _ := aI j g;have p : Hid _ := J;clear j g J r I m F;go_wp2_with fail
 refine (zCi (Old w A) _ _ c.2 _ (by omega) (by omega) (by omega) p.out).mono ?_;rintro e w2 ⟨rfl, H, s⟩;obtain ⟨j, g⟩ := D.out;have U : Hid _ := aI (zAN j s i) (aI H (zEi ((g.mono (zB6.trans n)).trans (s.mono (zB6.trans o)))));clear j g H s O N D p;go_wp2;go_ret
 obtain ⟨R, K, L⟩ := U.out;have M : (k : Int) + (T : Int) + (zA1 zBx c.2 : Int) = k + (cntC c : Int) := by omega
 refine ⟨zAV M, ⟨[_], [_], Old w q, Old w A, rfl, ?_, ?_, zB6.trans n, zB6.trans o, i⟩, L⟩
 ·have : (zMR k c).1.length = c.1.length := zBF _ _ _;exact R
 ·have Z : (zMR k c).2 = zBv zBx (k + (T : Int)) c.2 := by rw [← V]; rfl
  rw [Z];exact K
theorem zKq (S : zAW) (l s : Int) (v : Value) (k : Int) (d : List Int) (w : World) (h0 : 0 ≤ k) (h1 : k ≤ 72057594037927936) (hm : zA1 zBx d ≤ 72057594037927936) (h : zA5.own w S [v] d) :
    Calls Tryz.prog 43 #[.agg #[nI l, nI s, v], nI k] w fun e' w' => e' = .returned (nI (k + zA1 zBx d)) ∧ zA5.own w' S [v] (zBv zBx k d) ∧ Chg S w w' := by
 obtain ⟨a, i, rfl⟩ := zBD h;have c := zBQ (.cells #[nI l, nI s, sL a d.length i] 39) h;have b := zCi S _ k d _ h0 (by omega) (by omega) c;clear h c;go_enter Tryz.func43, Tryz.ntmps43;go_wp2_with fail
 refine b.mono ?_;rintro e w1 ⟨rfl, g, f⟩;have j := zEi f;clear f b;go_wp2;go_ret
 exact ⟨rfl, g, j⟩
theorem zIl (a b : Option Addr) (ca cb : Nat) (k : Int) (c : List (List (Int × Int × List Int)) × List Int) (w : World) (h0 : 0 ≤ k) (h1 : k ≤ 72057594037927936) (hm : cntC c ≤ 72057594037927936) (hln : c.1.length ≤ 72057594037927936) (r1 : zBg zBl w a (zMR k c).1) (r2 : zBg zBC w b (zMR k c).2) :
    Calls Tryz.prog 45 #[.agg #[sL a c.1.length ca, sL b c.2.length cb], nI k] w fun e' w' => e' = .returned (nI (k + cntC c)) ∧ Bl w w' := by
 have f : cntC c = zA1 zBr c.1 + zA1 zBx c.2 := rfl;have B := zAf w (.cells #[sL a c.1.length ca, sL b c.2.length cb] 37);have X := zAy w (.cells #[sL a c.1.length ca, sL b c.2.length cb] 37);have i := zIj a ca k c.1 _ h0 (by omega) (by omega) (by omega) (zAG r1 B);have j : Hid (zBg zBC (w.alloc (.cells #[sL a c.1.length ca, sL b c.2.length cb] 37)) b (zBv zBx (k + zA1 zBr c.1) c.2)) := zAG r2 B;clear r1 r2;generalize hT : zA1 zBr c.1 = T at i f j;have n1 : ¬ (k + (T : Int) < 0) := by omega
 have n2 : ¬ (k + (T : Int) + (zA1 zBx c.2 : Int) < 0) := by omega
 have l : Hid ((k : Int) + (T : Int) + (zA1 zBx c.2 : Int) = k + (cntC c : Int)) := by unfold Hid; omega
 obtain ⟨x0, x1⟩ := zBb X;go_enter Tryz.func45, Tryz.ntmps45;go_wp2_with fail
 refine i.mono ?_;rintro e m ⟨rfl, g⟩;rw [g];clear g m;go_wp2_with fail
 refine (zC6 b cb _ c.2 _ (by omega) (by omega) (by omega) j.out).mono ?_;rintro e n ⟨rfl, d⟩;rw [d];clear d n;go_wp2;go_ret
 exact ⟨zAV l.out, B⟩
theorem zKr (l s : Int) (a : Option Addr) (ca : Nat) (k : Int) (d : List Int) (w : World) (h0 : 0 ≤ k) (h1 : k ≤ 72057594037927936) (hm : zA1 zBx d ≤ 72057594037927936) (r : zBg zBC w a (zBv zBx k d)) :
    Calls Tryz.prog 47 #[.agg #[nI l, nI s, sL a d.length ca], nI k] w fun e' w' => e' = .returned (nI (k + zA1 zBx d)) ∧ Bl w w' := by
 have B := zAf w (.cells #[nI l, nI s, sL a d.length ca] 39);have f := zC6 a ca k d _ h0 (by omega) (by omega) (zAG r B);have n2 : ¬ (k + (zA1 zBx d : Int) < 0) := by omega
 clear r;go_enter Tryz.func47, Tryz.ntmps47;go_wp2_with fail
 refine f.mono ?_;rintro e c ⟨rfl, b⟩;rw [b];clear b c;go_wp2;go_ret
 exact ⟨rfl, B⟩
section
variable {α : Type}
end
theorem zIm {S : zAW} {w : World} {l s : Int} {v : Value} {u : zAT} (h : zAR.own w S [nI l, nI s, v] u) : zA5.own w S [v] u.2.2 := by
 obtain ⟨v', e, _, _, a⟩ := zHX h;simp only [List.cons.injEq, and_true] at e;rw [e.2.2];exact a
theorem bd_way : Bd zBE 3 := zDi zDh (zDi zDh (bd_sl zDh))
end Go.Proofs.YtmdhblhdfcocjaaGreatDoor
