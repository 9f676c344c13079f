import Derived.Test.YtmdhblhdfcocjaaGreatDoorP00Box
import Derived.Test.YtmdhblhdfcocjaaGreatDoorP12
import Derived.Test.YtmdhblhdfcocjaaGreatDoorP13
namespace Go.Proofs.YtmdhblhdfcocjaaGreatDoor
set_option maxHeartbeats 2000000
open Go.ChangeShapes Go.WideShapes Go.ChangeAt Go.RowKit
set_option linter.unusedVariables false
theorem zEr (w : World) : Calls Tryz.prog 103 #[] w fun e w' => ∃ av cv, e = .returned (.agg #[nI (-1), nI 0, sL av 0 cv]) ∧ zAX zAR w w' [nI (-1), nI 0, sL av 0 cv] zAF := by
 have M := zDz (w.alloc (.cells #[nI (-1), nI 0, sL (some ⟨w.heap.size + 1, 0, none⟩) 0 0] 39));have X := zAK (.cells #[] 2) (zAx w (.cells #[nI (-1), nI 0, sL (some ⟨w.heap.size + 1, 0, none⟩) 0 0] 39));rw [zAp] at M;obtain ⟨r0, r1, r2⟩ := zCm X;go_enter Tryz.func103, Tryz.ntmps103;go_wp2;refine bodyPost_ret (v := .agg #[nI (-1), nI 0, sL (some ⟨w.heap.size + 1, 0, none⟩) 0 0]) (by simp [results, Tryz.results103, go_sem]) rfl ⟨_, _, rfl, zCF (by constructor <;> decide) (by constructor <;> decide) ?_, zAb (zAf w _) M.2⟩;exact zA5.own_mono M.1 (zCb (by simp) (Nat.le_refl _))
theorem zDR (w : World) (S : zAW) : zA5.own w S [sL none 0 0] [] := ⟨_, [], fun _ => False, rfl, World.ownsRow_nil _ _ _ _, fun g hg => by simp [Value.ownBlock] at hg, fun _ h => h.elim, rfl⟩
theorem zKp (w : World) : Calls Tryz.prog 59 #[] w fun e w' => ∃ av cv, e = .returned (.agg #[nI (-1), nI 0, sL av 0 cv]) ∧ zAX zAR w w' [nI (-1), nI 0, sL av 0 cv] zAF := by
 go_enter Tryz.func59, Tryz.ntmps59;go_wp2;refine bodyPost_ret (v := .agg #[nI (-1), nI 0, sL none 0 0]) (by simp [results, Tryz.results59, go_sem]) rfl ⟨_, _, rfl, zCF (by constructor <;> decide) (by constructor <;> decide) (zDR _ _), zAf w _⟩
theorem zDS (l s : Int) (d : List Int) (a : Option Addr) (cap : Nat) (w : World) (i1 : zBk l) (i2 : zBk s) (h : zBg zBC w a d) (hm : d.length ≤ 1048576) :
    Calls Tryz.prog 71 #[.agg #[nI l, nI s, sL a d.length cap]] w fun e w' => ∃ A z, e = .returned (.agg #[nI l, nI s, sL A d.length z]) ∧ zAX zAR w w' [nI l, nI s, sL A d.length z] (l, s, d) := by
 cases a with
 | some ad =>
  obtain ⟨K, R, H, E, D⟩ := info_parts Tryz.infoI;have B0 := zAb (zAf w (.cells #[nI l, nI s, sL (some ad) d.length cap] 39)) (zAf _ (.cells #[nI 0, nI 0, sL none 0 0] 39));have m := zAK (.cells #[nI 0, nI 0, sL none 0 0] 39) (zAx w (.cells #[nI l, nI s, sL (some ad) d.length cap] 39));have i := zAx (w.alloc (.cells #[nI l, nI s, sL (some ad) d.length cap] 39)) (.cells #[nI 0, nI 0, sL none 0 0] 39);rw [zAp] at i;have B : ((w.alloc (.cells #[nI l, nI s, sL (some ad) d.length cap] 39)).alloc (.cells #[nI 0, nI 0, sL none 0 0] 39)).heap.size = w.heap.size + 1 + 1 := by simp
  have f : (((w.alloc (.cells #[nI l, nI s, sL (some ad) d.length cap] 39)).alloc (.cells #[nI 0, nI 0, sL none 0 0] 39)).alloc (.cells #[] 2)).ownsRow ((w.alloc (.cells #[nI l, nI s, sL (some ad) d.length cap] 39)).alloc (.cells #[nI 0, nI 0, sL none 0 0] 39)).heap.size 2 1 (.slice (some ⟨((w.alloc (.cells #[nI l, nI s, sL (some ad) d.length cap] 39)).alloc (.cells #[nI 0, nI 0, sL none 0 0] 39)).heap.size, 0, none⟩) 0 0) 0 [] := World.ownsRow_lit _ #[] 0 (Nat.le_refl _) (Nat.zero_le _) rfl;rw [B] at f;have F : Hid (zBk l ∧ zBk s) := ⟨i1, i2⟩;have Z : Hid (zDF w (some ad) d ∧ ∀ x ∈ d, zBk x) := ⟨zCw h, zHS h⟩;have J : Hid _ := aI m i;clear i1 i2 m i h;go_enter Tryz.func71, Tryz.ntmps71;go_wp2_with (at_builtin; refine wpList_append_own _ rfl _ _ 23 rfl (w.heap.size + 1 + 1) 2 K (nI 0) 1 8 Tryz.underlying23 R H E D rfl (by decide) _ _ _ rfl f ad d.length cap (d.map (Value.int .i64)) rfl (by simp) ?c1 ?c2 ?c3 ?c4 ?c5 ?_)
  case c1 =>
   intro j u hj;obtain ⟨q, rfl⟩ := List.getElem?_eq_some_iff.1 hj;simp at q
   rcases Z.out.1 with rfl | ⟨b, r, I, hc⟩
   ·simp at q
   simp only [Option.some.injEq] at I;subst I;have T := hc j q;have X := cell_kp3 w (.cells #[nI l, nI s, sL (some ⟨b, r, none⟩) d.length cap] 39) (.cells #[nI 0, nI 0, sL none 0 0] 39) (.cells #[] 2) T;rw [show (⟨b, r, none⟩ : Addr).add j = ⟨b, r + j, none⟩ from by simp [Addr.add], X];simp [List.getD_eq_getElem?_getD, q]
  case c2 => intro u Y; simp at Y; obtain ⟨x, _, rfl⟩ := Y; rfl
  case c3 => unfold maxLen; omega
  case c4 => omega
  case c5 => simp
  ·intro V L n p y;have U : V ≠ sL none 0 0 := y;have k : L.ownsRow ((w.alloc (.cells #[nI l, nI s, sL (some ad) d.length cap] 39)).alloc (.cells #[nI 0, nI 0, sL none 0 0] 39)).heap.size 2 1 V d.length (d.map (Value.int .i64)) := by rw [B]; simpa using n
   have C := zD8 (zHR (w := (w.alloc (.cells #[nI l, nI s, sL (some ad) d.length cap] 39)).alloc (.cells #[nI 0, nI 0, sL none 0 0] 39)) k (by rw [B]; exact p) U) Z.out.2;obtain ⟨A, z, rfl⟩ := zBD C.1;obtain ⟨m, i⟩ := J.out;have B1 := zAb B0 C.2;replace m := zAa C.2 m;replace i := zAa C.2 i;obtain ⟨y0, y1, y2⟩ := zCm m;obtain ⟨f0, f1, f2⟩ := zCx m;obtain ⟨z0, z1, z2⟩ := zCm i;obtain ⟨T, X, g2⟩ := zCx i;have S : Hid (zA5.own L (rng ((w.alloc (.cells #[nI l, nI s, sL (some ad) d.length cap] 39)).alloc (.cells #[nI 0, nI 0, sL none 0 0] 39)).heap.size L.heap.size) [sL A d.length z] d) := C.1;have O : Hid _ := aI m i;clear n p y f k C m i J U;go_wp2;obtain ⟨m, i⟩ := O.out;have Y1 := put3 (a := nI l) (b := nI s) (c := sL A d.length z) (zAO (g := w.heap.size) (o := 2) (v := sL A d.length z) i (by omega));obtain ⟨r0, r1, r2⟩ := zCm Y1;refine bodyPost_ret (v := .agg #[nI l, nI s, sL A d.length z]) (by simp [results, Tryz.results71, go_sem, r0, r1, r2]) rfl ⟨A, z, rfl, zCF F.out.1 F.out.2 ?_, ?_⟩
   ·refine zA5.own_mono (zAl (zAl (zAl (zAl S.out (fun h => by have := h.1; omega)) (fun h => by have := h.1; omega)) (fun h => by have := h.1; omega)) (fun h => by have := h.1; omega)) ?_;exact zCb (by omega) (by simp)
   ·exact zAq (zAq (zAq (zAq B1 (by omega)) (by omega)) (by omega)) (by omega)
 | none =>
  obtain rfl : d = [] := by
   rcases h with h | ⟨b, r, bA, I, _⟩
   ·exact h
   ·cases I
  rw [show ([] : List Int).length = 0 from rfl];obtain ⟨K, R, H, E, D⟩ := info_parts Tryz.infoI;have B0 := zAb (zAf w (.cells #[nI l, nI s, sL none 0 cap] 39)) (zAf _ (.cells #[nI 0, nI 0, sL none 0 0] 39));have m := zAK (.cells #[nI 0, nI 0, sL none 0 0] 39) (zAx w (.cells #[nI l, nI s, sL none 0 cap] 39));have i := zAx (w.alloc (.cells #[nI l, nI s, sL none 0 cap] 39)) (.cells #[nI 0, nI 0, sL none 0 0] 39);rw [zAp] at i;have B : ((w.alloc (.cells #[nI l, nI s, sL none 0 cap] 39)).alloc (.cells #[nI 0, nI 0, sL none 0 0] 39)).heap.size = w.heap.size + 1 + 1 := by simp
  have f : (((w.alloc (.cells #[nI l, nI s, sL none 0 cap] 39)).alloc (.cells #[nI 0, nI 0, sL none 0 0] 39)).alloc (.cells #[] 2)).ownsRow ((w.alloc (.cells #[nI l, nI s, sL none 0 cap] 39)).alloc (.cells #[nI 0, nI 0, sL none 0 0] 39)).heap.size 2 1 (.slice (some ⟨((w.alloc (.cells #[nI l, nI s, sL none 0 cap] 39)).alloc (.cells #[nI 0, nI 0, sL none 0 0] 39)).heap.size, 0, none⟩) 0 0) 0 [] := World.ownsRow_lit _ #[] 0 (Nat.le_refl _) (Nat.zero_le _) rfl;rw [B] at f;have F : Hid (zBk l ∧ zBk s) := ⟨i1, i2⟩;have M := zDz ((w.alloc (.cells #[nI l, nI s, sL none 0 cap] 39)).alloc (.cells #[nI 0, nI 0, sL none 0 0] 39));rw [B] at M;have HM : Hid _ := M;have J : Hid _ := aI m i;clear i1 i2 M m i;go_enter Tryz.func71, Tryz.ntmps71;go_wp2_with (at_builtin; refine zCG rfl _ _ 23 rfl (w.heap.size + 1 + 1) 2 K 1 Tryz.underlying23 R cap _ _ _ rfl f rfl ?_)
  have N := zDz ((w.alloc (.cells #[nI l, nI s, sL (some ⟨w.heap.size + 1 + 1, 0, none⟩) 0 0] 39)).alloc (.cells #[nI l, nI s, sL (some ⟨w.heap.size + 1 + 1, 0, none⟩) 0 0] 39));have G : ((w.alloc (.cells #[nI l, nI s, sL (some ⟨w.heap.size + 1 + 1, 0, none⟩) 0 0] 39)).alloc (.cells #[nI l, nI s, sL (some ⟨w.heap.size + 1 + 1, 0, none⟩) 0 0] 39)).heap.size = w.heap.size + 1 + 1 := by simp
  rw [G] at N;refine bodyPost_ret (v := .agg #[nI l, nI s, sL (some ⟨w.heap.size + 1 + 1, 0, none⟩) 0 0]) (by simp [results, Tryz.results71, go_sem]) rfl ⟨_, _, rfl, zCF F.out.1 F.out.2 (zA5.own_mono N.1 (zCb (by rw [G]; omega) (Nat.le_refl _))), zAb (zAb (zAf w _) (zAf _ _)) N.2⟩
theorem zDT (l s : Int) (d : List Int) (a : Option Addr) (cap : Nat) (w : World) (i1 : zBk l) (i2 : zBk s) (h : zBg zBC w a d) (hm : d.length ≤ 1048576) :
    Calls Tryz.prog 56 #[.agg #[nI l, nI s, sL a d.length cap]] w fun e w' => ∃ j i, e = .returned (.agg #[nI l, nI s, sL j d.length i]) ∧ zAX zAR w w' [nI l, nI s, sL j d.length i] (l, s, d) := by
 have A := zAb (zAf w (.cells #[nI l, nI s, sL a d.length cap] 39)) (zAf _ (.cells #[nI 0, nI 0, sL none 0 0] 39));have m := zAK (.cells #[nI 0, nI 0, sL none 0 0] 39) (zAx w (.cells #[nI l, nI s, sL a d.length cap] 39));have f := zAx (w.alloc (.cells #[nI l, nI s, sL a d.length cap] 39)) (.cells #[nI 0, nI 0, sL none 0 0] 39);rw [zAp] at f;have sz : ((w.alloc (.cells #[nI l, nI s, sL a d.length cap] 39)).alloc (.cells #[nI 0, nI 0, sL none 0 0] 39)).heap.size = w.heap.size + 1 + 1 := by simp
 have r : Hid (zBk l ∧ zBk s) := ⟨i1, i2⟩;have z := zDc a d cap ((w.alloc (.cells #[nI l, nI s, sL a d.length cap] 39)).alloc (.cells #[nI 0, nI 0, sL none 0 0] 39)) (zA7 h fun k hk => A.block k hk) hm;clear i1 i2 h hm;go_enter Tryz.func56, Tryz.ntmps56;go_wp2_with fail
 refine z.mono ?_;rintro e y ⟨v, rfl, n⟩;obtain ⟨j, i, rfl⟩ := zBD n.1;have B := zAb A n.2;replace m := zAa n.2 m;replace f := zAa n.2 f;obtain ⟨y0, y1, y2⟩ := zCm m;obtain ⟨f0, f1, f2⟩ := zCx m;obtain ⟨z0, z1, z2⟩ := zCm f;obtain ⟨g0, g1, g2⟩ := zCx f;have q : Hid (zA5.own y (rng ((w.alloc (.cells #[nI l, nI s, sL a d.length cap] 39)).alloc (.cells #[nI 0, nI 0, sL none 0 0] 39)).heap.size y.heap.size) [sL j d.length i] d) := n.1;have p : Hid _ := aI m f;clear n m f z;go_wp2;obtain ⟨m, f⟩ := p.out;have C := put3 (a := nI l) (b := nI s) (c := sL j d.length i) (zAO (g := w.heap.size) (o := 2) (v := sL j d.length i) f (by omega));obtain ⟨D, E, F⟩ := zCm C;refine bodyPost_ret (v := .agg #[nI l, nI s, sL j d.length i]) (by simp [results, Tryz.results56, go_sem, D, E, F]) rfl ⟨j, i, rfl, zCF r.out.1 r.out.2 ?_, ?_⟩
 ·refine zA5.own_mono (zAl (zAl (zAl (zAl q.out (fun h => by have := h.1; omega)) (fun h => by have := h.1; omega)) (fun h => by have := h.1; omega)) (fun h => by have := h.1; omega)) ?_;exact zCb (by omega) (by simp)
 ·exact zAq (zAq (zAq (zAq B (by omega)) (by omega)) (by omega)) (by omega)
open Go.ChangeShapes Go.WideShapes Go.ChangeAt Go.RowKit Go.Shelf
theorem in64_w {k : Int} (h0 : 0 ≤ k) (h1 : k ≤ 1152921504606846976) : zBk k := by constructor <;> omega
theorem zMQ (xs : List (Int × Int × List Int)) : xs.length ≤ zA1 zBE xs := by
 induction xs with
 | nil => exact Nat.zero_le _
 | cons x xs ih =>
  simp only [zA1, List.map_cons, List.sum_cons, List.length_cons] at ih ⊢;have : 1 ≤ zBE.cE x := by show 1 ≤ 1 + _; omega
  omega
theorem zJg (k : Int) (w : World) :
    Calls Tryz.prog 108 #[sL none 0 0, nI k] w fun e' w' => e' = .returned (nI k) ∧ w' = w := by
 go_enter Tryz.func108, Tryz.ntmps108;go_wp2;refine wp_loop_rounds 1 ?_;rw [rounds_succ];go_wp2;go_ret
 exact ⟨rfl, rfl⟩
theorem zJh (S : zAW) (v : Value) (k : Int) (xs : List (Int × Int × List Int)) (w : World) (h0 : 0 ≤ k) (h1 : k ≤ 288230376151711744) (hm : zA1 zBE xs ≤ 288230376151711744) (h : zBl.own w S [v] xs) :
    Calls Tryz.prog 108 #[v, nI k] w fun e' d => e' = .returned (nI (k + zA1 zBE xs)) ∧ zBl.own d S [v] (zBv zBE k xs) ∧ Chg S w d := by
 have pA := zMQ xs;rcases zD9 h with ⟨rfl, rfl⟩ | ⟨G, y, rfl, hG⟩
 ·exact (zJg k w).mono fun e d ⟨e1, e2⟩ => ⟨by simpa [zA1] using e1, by rw [e2]; exact h, by rw [e2]; exact Chg.refl _ _⟩
 go_enter Tryz.func108, Tryz.ntmps108;go_wp2;go_loopw [1, 5] (fun q i wr => ∃ j : Nat, j ≤ xs.length ∧ i = nI j ∧ q = nI (k + zA1 zBE (xs.take j)) ∧ zBl.own wr S [sL (some ⟨G, 0, none⟩) xs.length y] (zEh zBE k xs j) ∧ Chg S w wr)
  (fun _ i _ => xs.length - (intOf i).toNat)
 case atStart => exact ⟨0, Nat.zero_le _, rfl, by simp [zA1], by rw [zE0]; exact h, Chg.refl _ _⟩
 case round =>
  obtain ⟨j, hj, rfl, rfl, E, hs⟩ := hrel;by_cases K : j < xs.length
  ·have fA : (j : Int) < (xs.length : Int) := by omega
   obtain ⟨x, p⟩ : ∃ x, xs[j]? = some x := ⟨_, List.getElem?_eq_getElem K⟩;have HT : Hid (zA1 zBE (xs.take (j + 1)) = zA1 zBE (xs.take j) + (1 + (1 + zA1 zBx x.2.2))) := zCv (M := zBE) p;have hT : zA1 zBE (xs.take j) + (1 + (1 + zA1 zBx x.2.2)) ≤ zA1 zBE xs := zCT (M := zBE) p;have s : Hid _ := zE1 (M := zBE) (k := k) p;obtain ⟨g, lA, l, Sj, T, c, hv, C, a, b, aA, m, J, s2, Y, A, s5, f⟩ := zBH E (zFg p);simp only [Value.slice.injEq, Option.some.injEq, Addr.mk.injEq, and_true] at hv;obtain ⟨rfl, L⟩ := hv;obtain ⟨vd, rfl, -, -, o⟩ := zHY m;obtain ⟨F, D, rfl⟩ := zBD o;have q0 : wr.cell? ⟨G, j * 3, none⟩ = some (nI x.1) := by rw [cell_of_row wr G _ l _ (0, 0) a]; exact b 0 (by decide)
   have q1 : wr.cell? ⟨G, j * 3 + 1, none⟩ = some (nI x.2.1) := by rw [cell_of_row wr G _ l _ (0, 0) a]; exact b 1 (by decide)
   have q2 : wr.cell? ⟨G, j * 3 + 2, none⟩ = some (sL F x.2.2.length D) := by rw [cell_of_row wr G _ l _ (0, 0) a]; exact b 2 (by decide)
   have f0 : wr.frozen? ⟨G, j * 3, none⟩ = false := frozen_of_row wr G _ _ _ a;have f1 : wr.frozen? ⟨G, j * 3 + 1, none⟩ = false := frozen_of_row wr G _ _ _ a;have U : j * 3 + 2 < l.size := by
    have := b 2 (by decide);exact (Array.getElem?_eq_some_iff.1 (this.trans rfl)).1
   clear L aA;generalize X : k + (zA1 zBE (xs.take j) : Int) = kk at s ⊢;have bA : 0 ≤ kk ∧ kk ≤ 576460752303423488 := by omega
   have HC : Hid (∀ d, Chg Sj ((wr.setCell ⟨G, j * 3, none⟩ (nI kk)).setCell ⟨G, j * 3 + 1, none⟩ (nI (kk + 1))) d → zA5.own d Sj [sL F x.2.2.length D] (zBv zBx (kk + 1 + 1) x.2.2) → zBl.own d S [sL (some ⟨G, 0, none⟩) xs.length y] (zEh zBE k xs (j + 1)) ∧ Chg S wr d) := by
    intro d R N;have y1 := heap_setCell_same wr G (j * 3) _ _ (nI kk) a;have y2 := heap_setCell_same _ G (j * 3 + 1) _ _ (nI (kk + 1)) y1;have Z : G < wr.heap.size := (ltH a)
    have c1 : Chg S wr ((wr.setCell ⟨G, j * 3, none⟩ (nI kk)).setCell ⟨G, j * 3 + 1, none⟩ (nI (kk + 1))) := ⟨rfl, rfl, rfl, by simp, fun i r hn => by
     have : i ≠ G := fun e => hn (by rw [e]; exact C)
     rw [heap_setCell_other _ ⟨G, j * 3 + 1, none⟩ i _ this, heap_setCell_other _ ⟨G, j * 3, none⟩ i _ this]⟩
    refine ⟨?_, c1.trans (R.mono J)⟩;rw [← s.out];refine f d _ [nI kk, nI (kk + 1), sL F x.2.2.length D] _ Sj S ((R.block G (by simpa using Z) A).trans y2) (by simp) ?_ ?_ ?_ (zCF (in64_w bA.1 (by omega)) (in64_w (by omega) (by omega)) N) Y A C J s2
    ·intro i r;rw [show zAR.size = 3 from rfl] at r;rw [Array.getElem?_setIfInBounds_ne (by omega), Array.getElem?_setIfInBounds_ne (by omega)]
    ·intro i r;rw [show zAR.size = 3 from rfl] at r;rw [show j * zAR.size = j * 3 from rfl];have h3 : i = 0 ∨ i = 1 ∨ i = 2 := by omega
     rcases h3 with rfl | rfl | rfl
     ·rw [Array.getElem?_setIfInBounds_ne (by omega), Nat.add_zero, Array.getElem?_setIfInBounds_self_of_lt (by omega)];rfl
     ·rw [Array.getElem?_setIfInBounds_self_of_lt (by simp; omega)];rfl
     ·rw [Array.getElem?_setIfInBounds_ne (by omega), Array.getElem?_setIfInBounds_ne (by omega)];exact b 2 (by decide)
    ·intro i r V;have z : i ≠ G := fun e => s5 (by rw [← e]; exact r);rw [R.block i (by simpa using V) (fun p => Y i p r), heap_setCell_other _ ⟨G, j * 3 + 1, none⟩ i _ z, heap_setCell_other _ ⟨G, j * 3, none⟩ i _ z]
   have HO : Hid (zA5.own ((wr.setCell ⟨G, j * 3, none⟩ (nI kk)).setCell ⟨G, j * 3 + 1, none⟩ (nI (kk + 1))) Sj [sL F x.2.2.length D] x.2.2) := zAl (zAl o A) A;clear p E m f b a J s2 Y A s5 s h o U;generalize zA1 zBE (xs.take j) = TT at HT hT X;go_wp2_with fail
   refine (zCi Sj _ _ x.2.2 _ (by omega) (by omega) (by omega) HO.out).mono ?_;rintro e d ⟨rfl, n, gr⟩;obtain ⟨I, B⟩ := HC.out d gr n;have H := hs.trans B;clear n gr B HC HO q0 q1 q2 f0 f1;go_wp2;go_roundw
   case rel => exact ⟨j + 1, by omega, by go_num, by rw [HT.out]; congr 1; omega, I, H⟩
   case measure => simp [intOf]; omega
  ·have O : j = xs.length := by omega
   subst O;rw [List.take_length];rw [zFf] at E;go_wp2;go_ret
   exact ⟨rfl, E, hs⟩
theorem zJi (a : Option Addr) (cap : Nat) (k : Int) (xs : List (Int × Int × List Int)) (w : World) (h0 : 0 ≤ k) (h1 : k ≤ 288230376151711744) (hm : zA1 zBE xs ≤ 288230376151711744) (h : zBg zAR w a (zBv zBE k xs)) :
    Calls Tryz.prog 109 #[sL a xs.length cap, nI k] w fun e' A => e' = .returned (nI (k + zA1 zBE xs)) ∧ A = w := by
 have E := zMQ xs;go_enter Tryz.func109, Tryz.ntmps109;go_wp2;go_loop [1, 5] (fun q i => ∃ j : Nat, j ≤ xs.length ∧ i = nI j ∧ q = nI (k + zA1 zBE (xs.take j))) (fun _ i => xs.length - (intOf i).toNat)
 case atStart => exact ⟨0, Nat.zero_le _, rfl, by simp [zA1]⟩
 case round =>
  obtain ⟨j, hj, rfl, rfl⟩ := hrel;by_cases p : j < xs.length
  ·have v : (j : Int) < (xs.length : Int) := by omega
   obtain ⟨x, m⟩ : ∃ x, xs[j]? = some x := ⟨_, List.getElem?_eq_getElem p⟩;obtain ⟨b, d, cs, rfl, l, c⟩ := zBG h (zD7 (M := zBE) (k := k) m);obtain ⟨F, G, rfl, -, -, -, -, g⟩ := zAL l;have n := c 0 _ rfl;have o := c 1 _ rfl;have B := c 2 _ rfl;rw [show d + (j * zAR.size + 0) = d + j * 3 from rfl] at n;rw [show d + (j * zAR.size + 1) = d + j * 3 + 1 from rfl] at o;rw [show d + (j * zAR.size + 2) = d + j * 3 + 2 from rfl] at B;have f : (zBE.mE (k + zA1 zBE (xs.take j)) x).2.2.length = x.2.2.length := zBF _ _ _;rw [f] at B;have y : Hid (zBg zBC w F (zBv zBx (k + zA1 zBE (xs.take j) + 1 + 1) x.2.2)) := g;have C : w.cell? ⟨b, d + j * 3, none⟩ = some (nI (k + zA1 zBE (xs.take j))) := n;have D : w.cell? ⟨b, d + j * 3 + 1, none⟩ = some (nI (k + zA1 zBE (xs.take j) + 1)) := o;have z : Hid (zA1 zBE (xs.take (j + 1)) = zA1 zBE (xs.take j) + (1 + (1 + zA1 zBx x.2.2))) := zCv (M := zBE) m;have H : zA1 zBE (xs.take j) + (1 + (1 + zA1 zBx x.2.2)) ≤ zA1 zBE xs := zCT (M := zBE) m;clear m l c h f g n o;generalize s : k + (zA1 zBE (xs.take j) : Int) = kk at y C D ⊢;generalize zA1 zBE (xs.take j) = TT at z H s;have I : 0 ≤ kk ∧ kk ≤ 576460752303423488 := by omega
   have hn : ¬ (kk + 1 + 1 + ((zA1 zBx x.2.2 : Nat) : Int) < 0) := by omega
   go_wp2_with (go_at_call 48; refine (zC6 _ _ _ x.2.2 _ (by omega) (by omega) (by omega) y.out).mono ?_; rintro e A ⟨rfl, rfl⟩)
   go_round
   case rel => exact ⟨j + 1, by omega, by go_num, by rw [z.out]; congr 1; omega⟩
   case measure => simp [intOf]; omega
  ·have r : j = xs.length := by omega
   subst r;rw [List.take_length];go_wp2;go_ret
   exact ⟨rfl, rfl⟩
theorem zIi (k : Int) (w : World) :
    Calls Tryz.prog 78 #[sL none 0 0, nI k] w fun e' w' => e' = .returned (nI k) ∧ w' = w := by
 go_enter Tryz.func78, Tryz.ntmps78;go_wp2;refine wp_loop_rounds 1 ?_;rw [rounds_succ];go_wp2;go_ret
 exact ⟨rfl, rfl⟩
theorem zIj (S : zAW) (v : Value) (k : Int) (xs : List (List (Int × Int × List Int))) (w : World) (h0 : 0 ≤ k) (h1 : k ≤ 144115188075855872) (hm : zA1 zBr xs ≤ 144115188075855872) (hln : xs.length ≤ 144115188075855872) (h : (slR 115 zBl).own w S [v] xs) :
    Calls Tryz.prog 78 #[v, nI k] w fun e' l => e' = .returned (nI (k + zA1 zBr xs)) ∧ (slR 115 zBl).own l S [v] (zBv zBr k xs) ∧ Chg S w l := by
 rcases zD9 h with ⟨rfl, rfl⟩ | ⟨G, n, rfl, hG⟩
 ·exact (zIi k w).mono fun e l ⟨e1, e2⟩ => ⟨by simpa [zA1] using e1, by rw [e2]; exact h, by rw [e2]; exact Chg.refl _ _⟩
 go_enter Tryz.func78, Tryz.ntmps78;go_wp2;go_loopw [1, 5] (fun q i wr => ∃ j : Nat, j ≤ xs.length ∧ i = nI j ∧ q = nI (k + zA1 zBr (xs.take j)) ∧ (slR 115 zBl).own wr S [sL (some ⟨G, 0, none⟩) xs.length n] (zEh zBr k xs j) ∧ Chg S w wr)
  (fun _ i _ => xs.length - (intOf i).toNat)
 case atStart => exact ⟨0, Nat.zero_le _, rfl, by simp [zA1], by rw [zE0]; exact h, Chg.refl _ _⟩
 case round =>
  obtain ⟨j, hj, rfl, rfl, y, Y⟩ := hrel;by_cases D : j < xs.length
  ·have X : (j : Int) < (xs.length : Int) := by omega
   obtain ⟨x, p⟩ : ∃ x, xs[j]? = some x := ⟨_, List.getElem?_eq_getElem D⟩;have Z : Hid (zA1 zBr (xs.take (j + 1)) = zA1 zBr (xs.take j) + zA1 zBE x) := zCv (M := zBr) p;have hT : zA1 zBr (xs.take j) + zA1 zBE x ≤ zA1 zBr xs := zCT (M := zBr) p;have r : Hid _ := zE1 (M := zBr) (k := k) p;obtain ⟨g, dA, o, Sj, T, c, V, L, a, d, s, f, C, U, N, I, s5, b⟩ := zBH y (zFg p);obtain ⟨vj, rfl⟩ : ∃ vj, c = [vj] := List.length_eq_one_iff.1 s;obtain ⟨O, H, rfl⟩ := zBD f;simp only [Value.slice.injEq, Option.some.injEq, Addr.mk.injEq, and_true] at V;obtain ⟨rfl, E⟩ := V;clear E s;have q1 : wr.cell? ⟨G, j, none⟩ = some (sL O x.length H) := by
    rw [cell_of_row wr G j o _ (0, 0) a];have := d 0 Nat.zero_lt_one;rwa [show j * (zBl).size + 0 = j from Nat.mul_one j] at this
   have HO : Hid _ := f;have HC : Hid (∀ l, Chg Sj wr l → (zBl).own l Sj [sL O x.length H] (zBv zBE (k + zA1 zBr (xs.take j)) x) → (slR 115 zBl).own l S [sL (some ⟨G, 0, none⟩) xs.length n] (zEh zBr k xs (j + 1))) := by
    intro l hc F;rw [← r.out];have R : G < wr.heap.size := (ltH a);exact b l o [sL O x.length H] _ Sj S (by rw [hc.block G R I]; exact a) rfl (fun _ _ => rfl) d (hc.keeps N.symm) F N I L C U
   have K : Hid _ := C;clear p y f b d a U N I s5 C r h;generalize zA1 zBr (xs.take j) = T at Z hT HC ⊢;go_wp2_with (go_at_call 108; refine (zJh Sj _ _ x _ (by omega) (by omega) (by omega) HO.out).mono ?_; rintro e l ⟨rfl, m, z⟩)
   have B := HC.out l z m;have A := Y.trans (z.mono K.out);clear m z;go_roundw
   case rel => exact ⟨j + 1, by omega, by go_num, by rw [Z.out]; go_num, B, A⟩
   case measure => simp [intOf]; omega
  ·have J : j = xs.length := by omega
   subst J;rw [List.take_length];rw [zFf] at y;go_wp2;go_ret
   exact ⟨rfl, y, Y⟩
theorem zIk (a : Option Addr) (cap : Nat) (k : Int) (xs : List (List (Int × Int × List Int))) (w : World) (h0 : 0 ≤ k) (h1 : k ≤ 144115188075855872) (hm : zA1 zBr xs ≤ 144115188075855872) (hln : xs.length ≤ 144115188075855872) (h : zBg zBl w a (zBv zBr k xs)) :
    Calls Tryz.prog 79 #[sL a xs.length cap, nI k] w fun e' y => e' = .returned (nI (k + zA1 zBr xs)) ∧ y = w := by
 go_enter Tryz.func79, Tryz.ntmps79;go_wp2;go_loop [1, 5] (fun q i => ∃ j : Nat, j ≤ xs.length ∧ i = nI j ∧ q = nI (k + zA1 zBr (xs.take j))) (fun _ i => xs.length - (intOf i).toNat)
 case atStart => exact ⟨0, Nat.zero_le _, rfl, by simp [zA1]⟩
 case round =>
  obtain ⟨j, hj, rfl, rfl⟩ := hrel;by_cases m : j < xs.length
  ·have p : (j : Int) < (xs.length : Int) := by omega
   obtain ⟨x, l⟩ : ∃ x, xs[j]? = some x := ⟨_, List.getElem?_eq_getElem m⟩;obtain ⟨b, C, c, rfl, ⟨z, cj, rfl, o, A, g⟩, d⟩ := zBG h (zD7 (M := zBr) (k := k) l);have v := d 0 _ rfl;rw [show j * (zBl).size + 0 = j from Nat.mul_one j] at v;have f : ((zBr).mE (k + zA1 zBr (xs.take j)) x).length = x.length := zBF _ _ _;rw [f] at v;have r : Hid (zBg _ w z (zBv zBE (k + zA1 zBr (xs.take j)) x)) := g;have s : Hid (zA1 zBr (xs.take (j + 1)) = zA1 zBr (xs.take j) + zA1 zBE x) := zCv (M := zBr) l;have B : zA1 zBr (xs.take j) + zA1 zBE x ≤ zA1 zBr xs := zCT (M := zBr) l;clear l g d h f o;generalize zA1 zBr (xs.take j) = T at s B r ⊢;have hn : ¬ (k + (T : Int) + ((zA1 zBE x : Nat) : Int) < 0) := by omega
   go_wp2_with (go_at_call 109; refine (zJi _ _ _ x _ (by omega) (by omega) (by omega) r.out).mono ?_; rintro e y ⟨rfl, rfl⟩)
   go_round
   case rel => exact ⟨j + 1, by omega, by go_num, by rw [s.out]; go_num⟩
   case measure => simp [intOf]; omega
  ·have n : j = xs.length := by omega
   subst n;rw [List.take_length];go_wp2;go_ret
   exact ⟨rfl, rfl⟩
def zMR (k : Int) (c : List (List (Int × Int × List Int)) × List Int) : List (List (Int × Int × List Int)) × List Int := (zBv zBr k c.1, zBv zBx (k + zA1 zBr c.1) c.2)
def cntC (c : List (List (Int × Int × List Int)) × List Int) : Nat := zA1 zBr c.1 + zA1 zBx c.2
theorem zIl (S : zAW) (u v : Value) (k : Int) (c : List (List (Int × Int × List Int)) × List Int) (w : World) (h0 : 0 ≤ k) (h1 : k ≤ 72057594037927936) (hm : cntC c ≤ 72057594037927936) (hln : c.1.length ≤ 72057594037927936) (h : zAB.own w S [u, v] c) :
    Calls Tryz.prog 41 #[.agg #[u, v], nI k] w fun e' w' => e' = .returned (nI (k + cntC c)) ∧ zAB.own w' S [u, v] (zMR k c) ∧ Chg S w w' := by
 obtain ⟨u', v', q, C, e, B, r, p, n, d⟩ := zCe h;simp only [List.cons.injEq, and_true] at e;obtain ⟨rfl, rfl⟩ := e;obtain ⟨a, A, rfl⟩ := zBD B;obtain ⟨b, y, rfl⟩ := zBD r;have m : cntC c = zA1 zBr c.1 + zA1 zBx c.2 := rfl;have X := zAx w (.cells #[sL a c.1.length A, sL b c.2.length y] 37);have G := zBQ (.cells #[sL a c.1.length A, sL b c.2.length y] 37) (zBM B);have I := zBQ (.cells #[sL a c.1.length A, sL b c.2.length y] 37) (zBM r);have i : Dis (Old w q) (Old w C) := d.sub zB6 zB6;have f : ¬ Old w q w.heap.size := fun h => by have := h.2; omega
 clear h B r d;have z := zIj (Old w q) _ k c.1 _ h0 (by omega) (by omega) (by omega) G;have j : Hid _ := I;have E : Hid _ := X;have Z : Hid _ := aI i (aI f (aI p n));clear X G I i f p n;generalize U : zA1 zBr c.1 = T at z m;go_enter Tryz.func41, Tryz.ntmps41;go_wp2_with fail
 refine z.mono ?_;rintro e w1 ⟨rfl, o, g⟩;obtain ⟨i, f, p, n⟩ := Z.out;have J := (g.block w.heap.size (by simp) f).trans E.out;have D := zAN j.out g i.symm;obtain ⟨L, M⟩ := zBb J;have F : Hid _ := aI o g;have l : Hid _ := D;clear o g D z J j E;go_wp2_with fail
 refine (zCi (Old w C) _ _ c.2 _ (by omega) (by omega) (by omega) l.out).mono ?_;rintro e w2 ⟨rfl, H, s⟩;obtain ⟨o, g⟩ := F.out;have N : Hid _ := aI (zAN o s i) (aI H (zEj ((g.mono (zB6.trans p)).trans (s.mono (zB6.trans n)))));clear o g H s L M F l;go_wp2;go_ret
 obtain ⟨V, Y, K⟩ := N.out;have R : (k : Int) + (T : Int) + (zA1 zBx c.2 : Int) = k + (cntC c : Int) := by omega
 refine ⟨zAV R, ⟨[_], [_], Old w q, Old w C, rfl, ?_, ?_, zB6.trans p, zB6.trans n, i⟩, K⟩
 ·have : (zMR k c).1.length = c.1.length := zBF _ _ _;exact V
 ·have O : (zMR k c).2 = zBv zBx (k + (T : Int)) c.2 := by rw [← U]; rfl
  rw [O];exact Y
theorem zKq (S : zAW) (l s : Int) (v : Value) (k : Int) (d : List Int) (w : World) (h0 : 0 ≤ k) (h1 : k ≤ 72057594037927936) (hm : zA1 zBx d ≤ 72057594037927936) (h : zA5.own w S [v] d) :
    Calls Tryz.prog 43 #[.agg #[nI l, nI s, v], nI k] w fun e' w' => e' = .returned (nI (k + zA1 zBx d)) ∧ zA5.own w' S [v] (zBv zBx k d) ∧ Chg S w w' := by
 obtain ⟨a, i, rfl⟩ := zBD h;have c := zBQ (.cells #[nI l, nI s, sL a d.length i] 39) h;have b := zCi S _ k d _ h0 (by omega) (by omega) c;clear h c;go_enter Tryz.func43, Tryz.ntmps43;go_wp2_with fail
 refine b.mono ?_;rintro e w1 ⟨rfl, g, f⟩;have j := zEj f;clear f b;go_wp2;go_ret
 exact ⟨rfl, g, j⟩
theorem zIm (a b : Option Addr) (ca cb : Nat) (k : Int) (c : List (List (Int × Int × List Int)) × List Int) (w : World) (h0 : 0 ≤ k) (h1 : k ≤ 72057594037927936) (hm : cntC c ≤ 72057594037927936) (hln : c.1.length ≤ 72057594037927936) (r1 : zBg zBl w a (zMR k c).1) (r2 : zBg zBC w b (zMR k c).2) :
    Calls Tryz.prog 45 #[.agg #[sL a c.1.length ca, sL b c.2.length cb], nI k] w fun e' w' => e' = .returned (nI (k + cntC c)) ∧ Bl w w' := by
 have g : cntC c = zA1 zBr c.1 + zA1 zBx c.2 := rfl;have B := zAf w (.cells #[sL a c.1.length ca, sL b c.2.length cb] 37);have X := zAx w (.cells #[sL a c.1.length ca, sL b c.2.length cb] 37);have j := zIk a ca k c.1 _ h0 (by omega) (by omega) (by omega) (zAG r1 B);have i : Hid (zBg zBC (w.alloc (.cells #[sL a c.1.length ca, sL b c.2.length cb] 37)) b (zBv zBx (k + zA1 zBr c.1) c.2)) := zAG r2 B;clear r1 r2;generalize hT : zA1 zBr c.1 = T at j g i;have n1 : ¬ (k + (T : Int) < 0) := by omega
 have n2 : ¬ (k + (T : Int) + (zA1 zBx c.2 : Int) < 0) := by omega
 have m : Hid ((k : Int) + (T : Int) + (zA1 zBx c.2 : Int) = k + (cntC c : Int)) := by unfold Hid; omega
 obtain ⟨x0, x1⟩ := zBb X;go_enter Tryz.func45, Tryz.ntmps45;go_wp2_with fail
 refine j.mono ?_;rintro e n ⟨rfl, f⟩;rw [f];clear f n;go_wp2_with fail
 refine (zC6 b cb _ c.2 _ (by omega) (by omega) (by omega) i.out).mono ?_;rintro e l ⟨rfl, d⟩;rw [d];clear d l;go_wp2;go_ret
 exact ⟨zAV m.out, B⟩
theorem zKr (l s : Int) (a : Option Addr) (ca : Nat) (k : Int) (d : List Int) (w : World) (h0 : 0 ≤ k) (h1 : k ≤ 72057594037927936) (hm : zA1 zBx d ≤ 72057594037927936) (r : zBg zBC w a (zBv zBx k d)) :
    Calls Tryz.prog 47 #[.agg #[nI l, nI s, sL a d.length ca], nI k] w fun e' w' => e' = .returned (nI (k + zA1 zBx d)) ∧ Bl w w' := by
 have B := zAf w (.cells #[nI l, nI s, sL a d.length ca] 39);have c := zC6 a ca k d _ h0 (by omega) (by omega) (zAG r B);have n2 : ¬ (k + (zA1 zBx d : Int) < 0) := by omega
 clear r;go_enter Tryz.func47, Tryz.ntmps47;go_wp2_with fail
 refine c.mono ?_;rintro e f ⟨rfl, b⟩;rw [b];clear b f;go_wp2;go_ret
 exact ⟨rfl, B⟩
section
variable {α : Type}
end
theorem zIn {S : zAW} {w : World} {l s : Int} {v : Value} {u : zAT} (h : zAR.own w S [nI l, nI s, v] u) : zA5.own w S [v] u.2.2 := by
 obtain ⟨v', e, _, _, a⟩ := zHY h;simp only [List.cons.injEq, and_true] at e;rw [e.2.2];exact a
theorem bd_way : Bd zBE 3 := zDi zDh (zDi zDh (bd_sl zDh))
end Go.Proofs.YtmdhblhdfcocjaaGreatDoor
