import Derived.Test.YtmdhblhdfcocjaaGreatDoorP00Box
import Derived.Test.YtmdhblhdfcocjaaGreatDoorP12
import Derived.Test.YtmdhblhdfcocjaaGreatDoorP13
namespace Go.Proofs.YtmdhblhdfcocjaaGreatDoor
set_option maxHeartbeats 2000000
open Go.ChangeShapes Go.WideShapes Go.ChangeAt Go.RowKit
set_option linter.unusedVariables false
theorem zEr (w : World) : Calls Tryz.prog 103 #[] w fun e w' => ∃ av cv, e = .returned (.agg #[nI (-1), nI 0, sL av 0 cv]) ∧ zAX zAR w w' [nI (-1), nI 0, sL av 0 cv] zAF := by
 have M := zDz (w.alloc (.cells #[nI (-1), nI 0, sL (some ⟨w.heap.size + 1, 0, none⟩) 0 0] 39));have X := zAK (.cells #[] 2) (zAx w (.cells #[nI (-1), nI 0, sL (some ⟨w.heap.size + 1, 0, none⟩) 0 0] 39));rw [zAp] at M;obtain ⟨r0, r1, r2⟩ := zCm X;go_enter Tryz.func103, Tryz.ntmps103;go_wp2;refine bodyPost_ret (v := .agg #[nI (-1), nI 0, sL (some ⟨w.heap.size + 1, 0, none⟩) 0 0]) (by simp [results, Tryz.results103, go_sem]) rfl ⟨_, _, rfl, zCF (by constructor <;> decide) (by constructor <;> decide) ?_, zAb (zAf w _) M.2⟩;exact zA5.own_mono M.1 (zCb (by simp) (Nat.le_refl _))
theorem zDR (w : World) (S : zAW) : zA5.own w S [sL none 0 0] [] := ⟨_, [], fun _ => False, rfl, World.ownsRow_nil _ _ _ _, fun g hg => by simp [Value.ownBlock] at hg, fun _ h => h.elim, rfl⟩
theorem zKp (w : World) : Calls Tryz.prog 59 #[] w fun e w' => ∃ av cv, e = .returned (.agg #[nI (-1), nI 0, sL av 0 cv]) ∧ zAX zAR w w' [nI (-1), nI 0, sL av 0 cv] zAF := by
 go_enter Tryz.func59, Tryz.ntmps59;go_wp2;refine bodyPost_ret (v := .agg #[nI (-1), nI 0, sL none 0 0]) (by simp [results, Tryz.results59, go_sem]) rfl ⟨_, _, rfl, zCF (by constructor <;> decide) (by constructor <;> decide) (zDR _ _), zAf w _⟩
theorem zDS (l s : Int) (d : List Int) (a : Option Addr) (cap : Nat) (w : World) (i1 : zBk l) (i2 : zBk s) (h : zBg zBC w a d) (hm : d.length ≤ 1048576) :
    Calls Tryz.prog 71 #[.agg #[nI l, nI s, sL a d.length cap]] w fun e w' => ∃ A z, e = .returned (.agg #[nI l, nI s, sL A d.length z]) ∧ zAX zAR w w' [nI l, nI s, sL A d.length z] (l, s, d) := by
 cases a with
 | some ad =>
  obtain ⟨J, S, E, H, F⟩ := info_parts Tryz.infoI;have B0 := zAb (zAf w (.cells #[nI l, nI s, sL (some ad) d.length cap] 39)) (zAf _ (.cells #[nI 0, nI 0, sL none 0 0] 39));have m := zAK (.cells #[nI 0, nI 0, sL none 0 0] 39) (zAx w (.cells #[nI l, nI s, sL (some ad) d.length cap] 39));have i := zAx (w.alloc (.cells #[nI l, nI s, sL (some ad) d.length cap] 39)) (.cells #[nI 0, nI 0, sL none 0 0] 39);rw [zAp] at i;have C : ((w.alloc (.cells #[nI l, nI s, sL (some ad) d.length cap] 39)).alloc (.cells #[nI 0, nI 0, sL none 0 0] 39)).heap.size = w.heap.size + 1 + 1 := by simp
  have f : (((w.alloc (.cells #[nI l, nI s, sL (some ad) d.length cap] 39)).alloc (.cells #[nI 0, nI 0, sL none 0 0] 39)).alloc (.cells #[] 2)).ownsRow ((w.alloc (.cells #[nI l, nI s, sL (some ad) d.length cap] 39)).alloc (.cells #[nI 0, nI 0, sL none 0 0] 39)).heap.size 2 1 (.slice (some ⟨((w.alloc (.cells #[nI l, nI s, sL (some ad) d.length cap] 39)).alloc (.cells #[nI 0, nI 0, sL none 0 0] 39)).heap.size, 0, none⟩) 0 0) 0 [] := World.ownsRow_lit _ #[] 0 (Nat.le_refl _) (Nat.zero_le _) rfl;rw [C] at f;have G : Hid (zBk l ∧ zBk s) := ⟨i1, i2⟩;have V : Hid (zDF w (some ad) d ∧ ∀ x ∈ d, zBk x) := ⟨zCw h, zHT h⟩;have R : Hid _ := aI m i;clear i1 i2 m i h;go_enter Tryz.func71, Tryz.ntmps71;go_wp2_with (at_builtin; refine wpList_append_own _ rfl _ _ 23 rfl (w.heap.size + 1 + 1) 2 J (nI 0) 1 8 Tryz.underlying23 S E H F rfl (by decide) _ _ _ rfl f ad d.length cap (d.map (Value.int .i64)) rfl (by simp) ?c1 ?c2 ?c3 ?c4 ?c5 ?_)
  case c1 =>
   intro j u hj;obtain ⟨q, rfl⟩ := List.getElem?_eq_some_iff.1 hj;simp at q
   rcases V.out.1 with rfl | ⟨b, r, I, hc⟩
   ·simp at q
   simp only [Option.some.injEq] at I;subst I;have T := hc j q;have Y := cell_kp3 w (.cells #[nI l, nI s, sL (some ⟨b, r, none⟩) d.length cap] 39) (.cells #[nI 0, nI 0, sL none 0 0] 39) (.cells #[] 2) T;rw [show (⟨b, r, none⟩ : Addr).add j = ⟨b, r + j, none⟩ from by simp [Addr.add], Y];simp [List.getD_eq_getElem?_getD, q]
  case c2 => intro u Z; simp at Z; obtain ⟨x, _, rfl⟩ := Z; rfl
  case c3 => unfold maxLen; omega
  case c4 => omega
  case c5 => simp
  ·intro v' L n p y;have X : v' ≠ sL none 0 0 := y;have k : L.ownsRow ((w.alloc (.cells #[nI l, nI s, sL (some ad) d.length cap] 39)).alloc (.cells #[nI 0, nI 0, sL none 0 0] 39)).heap.size 2 1 v' d.length (d.map (Value.int .i64)) := by rw [C]; simpa using n
   have B := zD8 (zHS (w := (w.alloc (.cells #[nI l, nI s, sL (some ad) d.length cap] 39)).alloc (.cells #[nI 0, nI 0, sL none 0 0] 39)) k (by rw [C]; exact p) X) V.out.2;obtain ⟨A, z, rfl⟩ := zBD B.1;obtain ⟨m, i⟩ := R.out;have B1 := zAb B0 B.2;replace m := zAa B.2 m;replace i := zAa B.2 i;obtain ⟨y0, y1, y2⟩ := zCm m;obtain ⟨f0, f1, f2⟩ := zCx m;obtain ⟨z0, z1, z2⟩ := zCm i;obtain ⟨T, Y, g2⟩ := zCx i;have K : Hid (zA5.own L (rng ((w.alloc (.cells #[nI l, nI s, sL (some ad) d.length cap] 39)).alloc (.cells #[nI 0, nI 0, sL none 0 0] 39)).heap.size L.heap.size) [sL A d.length z] d) := B.1;have O : Hid _ := aI m i;clear n p y f k B m i R X;go_wp2;obtain ⟨m, i⟩ := O.out;have Y1 := put3 (a := nI l) (b := nI s) (c := sL A d.length z) (zAO (g := w.heap.size) (o := 2) (v := sL A d.length z) i (by omega));obtain ⟨r0, r1, r2⟩ := zCm Y1;refine bodyPost_ret (v := .agg #[nI l, nI s, sL A d.length z]) (by simp [results, Tryz.results71, go_sem, r0, r1, r2]) rfl ⟨A, z, rfl, zCF G.out.1 G.out.2 ?_, ?_⟩
   ·refine zA5.own_mono (zAl (zAl (zAl (zAl K.out (fun h => by have := h.1; omega)) (fun h => by have := h.1; omega)) (fun h => by have := h.1; omega)) (fun h => by have := h.1; omega)) ?_;exact zCb (by omega) (by simp)
   ·exact zAq (zAq (zAq (zAq B1 (by omega)) (by omega)) (by omega)) (by omega)
 | none =>
  obtain rfl : d = [] := by
   rcases h with h | ⟨b, r, U, I, _⟩
   ·exact h
   ·cases I
  rw [show ([] : List Int).length = 0 from rfl];obtain ⟨J, S, E, H, F⟩ := info_parts Tryz.infoI;have B0 := zAb (zAf w (.cells #[nI l, nI s, sL none 0 cap] 39)) (zAf _ (.cells #[nI 0, nI 0, sL none 0 0] 39));have m := zAK (.cells #[nI 0, nI 0, sL none 0 0] 39) (zAx w (.cells #[nI l, nI s, sL none 0 cap] 39));have i := zAx (w.alloc (.cells #[nI l, nI s, sL none 0 cap] 39)) (.cells #[nI 0, nI 0, sL none 0 0] 39);rw [zAp] at i;have C : ((w.alloc (.cells #[nI l, nI s, sL none 0 cap] 39)).alloc (.cells #[nI 0, nI 0, sL none 0 0] 39)).heap.size = w.heap.size + 1 + 1 := by simp
  have f : (((w.alloc (.cells #[nI l, nI s, sL none 0 cap] 39)).alloc (.cells #[nI 0, nI 0, sL none 0 0] 39)).alloc (.cells #[] 2)).ownsRow ((w.alloc (.cells #[nI l, nI s, sL none 0 cap] 39)).alloc (.cells #[nI 0, nI 0, sL none 0 0] 39)).heap.size 2 1 (.slice (some ⟨((w.alloc (.cells #[nI l, nI s, sL none 0 cap] 39)).alloc (.cells #[nI 0, nI 0, sL none 0 0] 39)).heap.size, 0, none⟩) 0 0) 0 [] := World.ownsRow_lit _ #[] 0 (Nat.le_refl _) (Nat.zero_le _) rfl;rw [C] at f;have G : Hid (zBk l ∧ zBk s) := ⟨i1, i2⟩;have M := zDz ((w.alloc (.cells #[nI l, nI s, sL none 0 cap] 39)).alloc (.cells #[nI 0, nI 0, sL none 0 0] 39));rw [C] at M;have HM : Hid _ := M;have R : Hid _ := aI m i;clear i1 i2 M m i;go_enter Tryz.func71, Tryz.ntmps71;go_wp2_with (at_builtin; refine zCG rfl _ _ 23 rfl (w.heap.size + 1 + 1) 2 J 1 Tryz.underlying23 S cap _ _ _ rfl f rfl ?_)
  have N := zDz ((w.alloc (.cells #[nI l, nI s, sL (some ⟨w.heap.size + 1 + 1, 0, none⟩) 0 0] 39)).alloc (.cells #[nI l, nI s, sL (some ⟨w.heap.size + 1 + 1, 0, none⟩) 0 0] 39));have D : ((w.alloc (.cells #[nI l, nI s, sL (some ⟨w.heap.size + 1 + 1, 0, none⟩) 0 0] 39)).alloc (.cells #[nI l, nI s, sL (some ⟨w.heap.size + 1 + 1, 0, none⟩) 0 0] 39)).heap.size = w.heap.size + 1 + 1 := by simp
  rw [D] at N;refine bodyPost_ret (v := .agg #[nI l, nI s, sL (some ⟨w.heap.size + 1 + 1, 0, none⟩) 0 0]) (by simp [results, Tryz.results71, go_sem]) rfl ⟨_, _, rfl, zCF G.out.1 G.out.2 (zA5.own_mono N.1 (zCb (by rw [D]; omega) (Nat.le_refl _))), zAb (zAb (zAf w _) (zAf _ _)) N.2⟩
theorem zDT (l s : Int) (d : List Int) (a : Option Addr) (cap : Nat) (w : World) (i1 : zBk l) (i2 : zBk s) (h : zBg zBC w a d) (hm : d.length ≤ 1048576) :
    Calls Tryz.prog 56 #[.agg #[nI l, nI s, sL a d.length cap]] w fun e w' => ∃ j i, e = .returned (.agg #[nI l, nI s, sL j d.length i]) ∧ zAX zAR w w' [nI l, nI s, sL j d.length i] (l, s, d) := by
 have z := zAb (zAf w (.cells #[nI l, nI s, sL a d.length cap] 39)) (zAf _ (.cells #[nI 0, nI 0, sL none 0 0] 39));have m := zAK (.cells #[nI 0, nI 0, sL none 0 0] 39) (zAx w (.cells #[nI l, nI s, sL a d.length cap] 39));have f := zAx (w.alloc (.cells #[nI l, nI s, sL a d.length cap] 39)) (.cells #[nI 0, nI 0, sL none 0 0] 39);rw [zAp] at f;have sz : ((w.alloc (.cells #[nI l, nI s, sL a d.length cap] 39)).alloc (.cells #[nI 0, nI 0, sL none 0 0] 39)).heap.size = w.heap.size + 1 + 1 := by simp
 have y : Hid (zBk l ∧ zBk s) := ⟨i1, i2⟩;have A := zDc a d cap ((w.alloc (.cells #[nI l, nI s, sL a d.length cap] 39)).alloc (.cells #[nI 0, nI 0, sL none 0 0] 39)) (zA7 h fun k hk => z.block k hk) hm;clear i1 i2 h hm;go_enter Tryz.func56, Tryz.ntmps56;go_wp2_with fail
 refine A.mono ?_;rintro e r ⟨v, rfl, n⟩;obtain ⟨j, i, rfl⟩ := zBD n.1;have C := zAb z n.2;replace m := zAa n.2 m;replace f := zAa n.2 f;obtain ⟨y0, y1, y2⟩ := zCm m;obtain ⟨f0, f1, f2⟩ := zCx m;obtain ⟨z0, z1, z2⟩ := zCm f;obtain ⟨g0, g1, g2⟩ := zCx f;have p : Hid (zA5.own r (rng ((w.alloc (.cells #[nI l, nI s, sL a d.length cap] 39)).alloc (.cells #[nI 0, nI 0, sL none 0 0] 39)).heap.size r.heap.size) [sL j d.length i] d) := n.1;have q : Hid _ := aI m f;clear n m f A;go_wp2;obtain ⟨m, f⟩ := q.out;have E := put3 (a := nI l) (b := nI s) (c := sL j d.length i) (zAO (g := w.heap.size) (o := 2) (v := sL j d.length i) f (by omega));obtain ⟨D, B, F⟩ := zCm E;refine bodyPost_ret (v := .agg #[nI l, nI s, sL j d.length i]) (by simp [results, Tryz.results56, go_sem, D, B, F]) rfl ⟨j, i, rfl, zCF y.out.1 y.out.2 ?_, ?_⟩
 ·refine zA5.own_mono (zAl (zAl (zAl (zAl p.out (fun h => by have := h.1; omega)) (fun h => by have := h.1; omega)) (fun h => by have := h.1; omega)) (fun h => by have := h.1; omega)) ?_;exact zCb (by omega) (by simp)
 ·exact zAq (zAq (zAq (zAq C (by omega)) (by omega)) (by omega)) (by omega)
open Go.ChangeShapes Go.WideShapes Go.ChangeAt Go.RowKit Go.Shelf
theorem in64_w {k : Int} (h0 : 0 ≤ k) (h1 : k ≤ 1152921504606846976) : zBk k := by constructor <;> omega
theorem zMQ (xs : List (Int × Int × List Int)) : xs.length ≤ zA1 zBE xs := by
 induction xs with
 | nil => exact Nat.zero_le _
 | cons x xs ih =>
  simp only [zA1, List.map_cons, List.sum_cons, List.length_cons] at ih ⊢;have : 1 ≤ zBE.cE x := by show 1 ≤ 1 + _; omega
  omega
theorem zJh (k : Int) (w : World) :
    Calls Tryz.prog 108 #[sL none 0 0, nI k] w fun e' w' => e' = .returned (nI k) ∧ w' = w := by
 go_enter Tryz.func108, Tryz.ntmps108;go_wp2;refine wp_loop_rounds 1 ?_;rw [rounds_succ];go_wp2;go_ret
 exact ⟨rfl, rfl⟩
theorem zJi (S : zAW) (v : Value) (k : Int) (xs : List (Int × Int × List Int)) (w : World) (h0 : 0 ≤ k) (h1 : k ≤ 288230376151711744) (hm : zA1 zBE xs ≤ 288230376151711744) (h : zBl.own w S [v] xs) :
    Calls Tryz.prog 108 #[v, nI k] w fun e' d => e' = .returned (nI (k + zA1 zBE xs)) ∧ zBl.own d S [v] (zBw zBE k xs) ∧ Chg S w d := by
 have BA := zMQ xs;rcases zD9 h with ⟨rfl, rfl⟩ | ⟨G, B, rfl, hG⟩
 ·exact (zJh k w).mono fun e d ⟨e1, e2⟩ => ⟨by simpa [zA1] using e1, by rw [e2]; exact h, by rw [e2]; exact Chg.refl _ _⟩
 go_enter Tryz.func108, Tryz.ntmps108;go_wp2;go_loopw [1, 5] (fun q i wr => ∃ j : Nat, j ≤ xs.length ∧ i = nI j ∧ q = nI (k + zA1 zBE (xs.take j)) ∧ zBl.own wr S [sL (some ⟨G, 0, none⟩) xs.length B] (zEh zBE k xs j) ∧ Chg S w wr)
  (fun _ i _ => xs.length - (intOf i).toNat)
 case atStart => exact ⟨0, Nat.zero_le _, rfl, by simp [zA1], by rw [zE0]; exact h, Chg.refl _ _⟩
 case round =>
  obtain ⟨j, hj, rfl, rfl, F, hs⟩ := hrel;by_cases U : j < xs.length
  ·have gA : (j : Int) < (xs.length : Int) := by omega
   obtain ⟨x, r⟩ : ∃ x, xs[j]? = some x := ⟨_, List.getElem?_eq_getElem U⟩;have HT : Hid (zA1 zBE (xs.take (j + 1)) = zA1 zBE (xs.take j) + (1 + (1 + zA1 zBx x.2.2))) := zCv (M := zBE) r;have hT : zA1 zBE (xs.take j) + (1 + (1 + zA1 zBx x.2.2)) ≤ zA1 zBE xs := zCT (M := zBE) r;have o : Hid _ := zE1 (M := zBE) (k := k) r;obtain ⟨g, iA, l, Sj, T, c, hv, z, a, b, O, m, N, s2, H, A, s5, f⟩ := zBH F (zFg r);simp only [Value.slice.injEq, Option.some.injEq, Addr.mk.injEq, and_true] at hv;obtain ⟨rfl, Y⟩ := hv;obtain ⟨vd, rfl, -, -, p⟩ := zHZ m;obtain ⟨E, D, rfl⟩ := zBD p;have q0 : wr.cell? ⟨G, j * 3, none⟩ = some (nI x.1) := by rw [cell_of_row wr G _ l _ (0, 0) a]; exact b 0 (by decide)
   have q1 : wr.cell? ⟨G, j * 3 + 1, none⟩ = some (nI x.2.1) := by rw [cell_of_row wr G _ l _ (0, 0) a]; exact b 1 (by decide)
   have q2 : wr.cell? ⟨G, j * 3 + 2, none⟩ = some (sL E x.2.2.length D) := by rw [cell_of_row wr G _ l _ (0, 0) a]; exact b 2 (by decide)
   have f0 : wr.frozen? ⟨G, j * 3, none⟩ = false := frozen_of_row wr G _ _ _ a;have f1 : wr.frozen? ⟨G, j * 3 + 1, none⟩ = false := frozen_of_row wr G _ _ _ a;have Z : j * 3 + 2 < l.size := by
    have := b 2 (by decide);exact (Array.getElem?_eq_some_iff.1 (this.trans rfl)).1
   clear Y O;generalize K : k + (zA1 zBE (xs.take j) : Int) = kk at o ⊢;have J : 0 ≤ kk ∧ kk ≤ 576460752303423488 := by omega
   have HC : Hid (∀ d, Chg Sj ((wr.setCell ⟨G, j * 3, none⟩ (nI kk)).setCell ⟨G, j * 3 + 1, none⟩ (nI (kk + 1))) d → zA5.own d Sj [sL E x.2.2.length D] (zBw zBx (kk + 1 + 1) x.2.2) → zBl.own d S [sL (some ⟨G, 0, none⟩) xs.length B] (zEh zBE k xs (j + 1)) ∧ Chg S wr d) := by
    intro d R V;have y1 := heap_setCell_same wr G (j * 3) _ _ (nI kk) a;have y2 := heap_setCell_same _ G (j * 3 + 1) _ _ (nI (kk + 1)) y1;have bA : G < wr.heap.size := (ltH a)
    have c1 : Chg S wr ((wr.setCell ⟨G, j * 3, none⟩ (nI kk)).setCell ⟨G, j * 3 + 1, none⟩ (nI (kk + 1))) := ⟨rfl, rfl, rfl, by simp, fun i s hn => by
     have : i ≠ G := fun e => hn (by rw [e]; exact z)
     rw [heap_setCell_other _ ⟨G, j * 3 + 1, none⟩ i _ this, heap_setCell_other _ ⟨G, j * 3, none⟩ i _ this]⟩
    refine ⟨?_, c1.trans (R.mono N)⟩;rw [← o.out];refine f d _ [nI kk, nI (kk + 1), sL E x.2.2.length D] _ Sj S ((R.block G (by simpa using bA) A).trans y2) (by simp) ?_ ?_ ?_ (zCF (in64_w J.1 (by omega)) (in64_w (by omega) (by omega)) V) H A z N s2
    ·intro i s;rw [show zAR.size = 3 from rfl] at s;rw [Array.getElem?_setIfInBounds_ne (by omega), Array.getElem?_setIfInBounds_ne (by omega)]
    ·intro i s;rw [show zAR.size = 3 from rfl] at s;rw [show j * zAR.size = j * 3 from rfl];have h3 : i = 0 ∨ i = 1 ∨ i = 2 := by omega
     rcases h3 with rfl | rfl | rfl
     ·rw [Array.getElem?_setIfInBounds_ne (by omega), Nat.add_zero, Array.getElem?_setIfInBounds_self_of_lt (by omega)];rfl
     ·rw [Array.getElem?_setIfInBounds_self_of_lt (by simp; omega)];rfl
     ·rw [Array.getElem?_setIfInBounds_ne (by omega), Array.getElem?_setIfInBounds_ne (by omega)];exact b 2 (by decide)
    ·intro i s X;have C : i ≠ G := fun e => s5 (by rw [← e]; exact s);rw [R.block i (by simpa using X) (fun r => H i r s), heap_setCell_other _ ⟨G, j * 3 + 1, none⟩ i _ C, heap_setCell_other _ ⟨G, j * 3, none⟩ i _ C]
   have HO : Hid (zA5.own ((wr.setCell ⟨G, j * 3, none⟩ (nI kk)).setCell ⟨G, j * 3 + 1, none⟩ (nI (kk + 1))) Sj [sL E x.2.2.length D] x.2.2) := zAl (zAl p A) A;clear r F m f b a N s2 H A s5 o h p Z;generalize zA1 zBE (xs.take j) = TT at HT hT K;go_wp2_with fail
   refine (zCi Sj _ _ x.2.2 _ (by omega) (by omega) (by omega) HO.out).mono ?_;rintro e d ⟨rfl, n, gr⟩;obtain ⟨aA, y⟩ := HC.out d gr n;have I := hs.trans y;clear n gr y HC HO q0 q1 q2 f0 f1;go_wp2;go_roundw
   case rel => exact ⟨j + 1, by omega, by go_num, by rw [HT.out]; congr 1; omega, aA, I⟩
   case measure => simp [intOf]; omega
  ·have L : j = xs.length := by omega
   subst L;rw [List.take_length];rw [zFf] at F;go_wp2;go_ret
   exact ⟨rfl, F, hs⟩
theorem zJj (a : Option Addr) (cap : Nat) (k : Int) (xs : List (Int × Int × List Int)) (w : World) (h0 : 0 ≤ k) (h1 : k ≤ 288230376151711744) (hm : zA1 zBE xs ≤ 288230376151711744) (h : zBg zAR w a (zBw zBE k xs)) :
    Calls Tryz.prog 109 #[sL a xs.length cap, nI k] w fun e' A => e' = .returned (nI (k + zA1 zBE xs)) ∧ A = w := by
 have I := zMQ xs;go_enter Tryz.func109, Tryz.ntmps109;go_wp2;go_loop [1, 5] (fun q i => ∃ j : Nat, j ≤ xs.length ∧ i = nI j ∧ q = nI (k + zA1 zBE (xs.take j))) (fun _ i => xs.length - (intOf i).toNat)
 case atStart => exact ⟨0, Nat.zero_le _, rfl, by simp [zA1]⟩
 case round =>
  obtain ⟨j, hj, rfl, rfl⟩ := hrel;by_cases r : j < xs.length
  ·have v : (j : Int) < (xs.length : Int) := by omega
   obtain ⟨x, m⟩ : ∃ x, xs[j]? = some x := ⟨_, List.getElem?_eq_getElem r⟩;obtain ⟨b, d, cs, rfl, g, c⟩ := zBG h (zD7 (M := zBE) (k := k) m);obtain ⟨C, F, rfl, -, -, -, -, l⟩ := zAL g;have n := c 0 _ rfl;have s := c 1 _ rfl;have z := c 2 _ rfl;rw [show d + (j * zAR.size + 0) = d + j * 3 from rfl] at n;rw [show d + (j * zAR.size + 1) = d + j * 3 + 1 from rfl] at s;rw [show d + (j * zAR.size + 2) = d + j * 3 + 2 from rfl] at z;have f : (zBE.mE (k + zA1 zBE (xs.take j)) x).2.2.length = x.2.2.length := zBF _ _ _;rw [f] at z;have y : Hid (zBg zBC w C (zBw zBx (k + zA1 zBE (xs.take j) + 1 + 1) x.2.2)) := l;have E : w.cell? ⟨b, d + j * 3, none⟩ = some (nI (k + zA1 zBE (xs.take j))) := n;have H : w.cell? ⟨b, d + j * 3 + 1, none⟩ = some (nI (k + zA1 zBE (xs.take j) + 1)) := s;have B : Hid (zA1 zBE (xs.take (j + 1)) = zA1 zBE (xs.take j) + (1 + (1 + zA1 zBx x.2.2))) := zCv (M := zBE) m;have G : zA1 zBE (xs.take j) + (1 + (1 + zA1 zBx x.2.2)) ≤ zA1 zBE xs := zCT (M := zBE) m;clear m g c h f l n s;generalize o : k + (zA1 zBE (xs.take j) : Int) = kk at y E H ⊢;generalize zA1 zBE (xs.take j) = TT at B G o;have D : 0 ≤ kk ∧ kk ≤ 576460752303423488 := by omega
   have hn : ¬ (kk + 1 + 1 + ((zA1 zBx x.2.2 : Nat) : Int) < 0) := by omega
   go_wp2_with (go_at_call 48; refine (zC6 _ _ _ x.2.2 _ (by omega) (by omega) (by omega) y.out).mono ?_; rintro e A ⟨rfl, rfl⟩)
   go_round
   case rel => exact ⟨j + 1, by omega, by go_num, by rw [B.out]; congr 1; omega⟩
   case measure => simp [intOf]; omega
  ·have p : j = xs.length := by omega
   subst p;rw [List.take_length];go_wp2;go_ret
   exact ⟨rfl, rfl⟩
theorem zIj (k : Int) (w : World) :
    Calls Tryz.prog 78 #[sL none 0 0, nI k] w fun e' w' => e' = .returned (nI k) ∧ w' = w := by
 go_enter Tryz.func78, Tryz.ntmps78;go_wp2;refine wp_loop_rounds 1 ?_;rw [rounds_succ];go_wp2;go_ret
 exact ⟨rfl, rfl⟩
theorem zIk (S : zAW) (v : Value) (k : Int) (xs : List (List (Int × Int × List Int))) (w : World) (h0 : 0 ≤ k) (h1 : k ≤ 144115188075855872) (hm : zA1 zBr xs ≤ 144115188075855872) (hln : xs.length ≤ 144115188075855872) (h : (slR 115 zBl).own w S [v] xs) :
    Calls Tryz.prog 78 #[v, nI k] w fun e' l => e' = .returned (nI (k + zA1 zBr xs)) ∧ (slR 115 zBl).own l S [v] (zBw zBr k xs) ∧ Chg S w l := by
 rcases zD9 h with ⟨rfl, rfl⟩ | ⟨G, p, rfl, hG⟩
 ·exact (zIj k w).mono fun e l ⟨e1, e2⟩ => ⟨by simpa [zA1] using e1, by rw [e2]; exact h, by rw [e2]; exact Chg.refl _ _⟩
 go_enter Tryz.func78, Tryz.ntmps78;go_wp2;go_loopw [1, 5] (fun q i wr => ∃ j : Nat, j ≤ xs.length ∧ i = nI j ∧ q = nI (k + zA1 zBr (xs.take j)) ∧ (slR 115 zBl).own wr S [sL (some ⟨G, 0, none⟩) xs.length p] (zEh zBr k xs j) ∧ Chg S w wr)
  (fun _ i _ => xs.length - (intOf i).toNat)
 case atStart => exact ⟨0, Nat.zero_le _, rfl, by simp [zA1], by rw [zE0]; exact h, Chg.refl _ _⟩
 case round =>
  obtain ⟨j, hj, rfl, rfl, y, X⟩ := hrel;by_cases I : j < xs.length
  ·have Y : (j : Int) < (xs.length : Int) := by omega
   obtain ⟨x, s⟩ : ∃ x, xs[j]? = some x := ⟨_, List.getElem?_eq_getElem I⟩;have HT : Hid (zA1 zBr (xs.take (j + 1)) = zA1 zBr (xs.take j) + zA1 zBE x) := zCv (M := zBr) s;have hT : zA1 zBr (xs.take j) + zA1 zBE x ≤ zA1 zBr xs := zCT (M := zBr) s;have n : Hid _ := zE1 (M := zBr) (k := k) s;obtain ⟨g, Z, r, Sj, T, c, hv, F, a, f, o, b, E, U, A, J, s5, d⟩ := zBH y (zFg s);obtain ⟨V, rfl⟩ : ∃ V, c = [V] := List.length_eq_one_iff.1 o;obtain ⟨H, C, rfl⟩ := zBD b;simp only [Value.slice.injEq, Option.some.injEq, Addr.mk.injEq, and_true] at hv;obtain ⟨rfl, L⟩ := hv;clear L o;have q1 : wr.cell? ⟨G, j, none⟩ = some (sL H x.length C) := by
    rw [cell_of_row wr G j r _ (0, 0) a];have := f 0 Nat.zero_lt_one;rwa [show j * (zBl).size + 0 = j from Nat.mul_one j] at this
   have HO : Hid _ := b;have HC : Hid (∀ l, Chg Sj wr l → (zBl).own l Sj [sL H x.length C] (zBw zBE (k + zA1 zBr (xs.take j)) x) → (slR 115 zBl).own l S [sL (some ⟨G, 0, none⟩) xs.length p] (zEh zBr k xs (j + 1))) := by
    intro l hc K;rw [← n.out];have R : G < wr.heap.size := (ltH a);exact d l r [sL H x.length C] _ Sj S (by rw [hc.block G R J]; exact a) rfl (fun _ _ => rfl) f (hc.keeps A.symm) K A J F E U
   have z : Hid _ := E;clear s y b d f a U A J s5 E n h;generalize zA1 zBr (xs.take j) = T at HT hT HC ⊢;go_wp2_with (go_at_call 108; refine (zJi Sj _ _ x _ (by omega) (by omega) (by omega) HO.out).mono ?_; rintro e l ⟨rfl, m, O⟩)
   have N := HC.out l O m;have B := X.trans (O.mono z.out);clear m O;go_roundw
   case rel => exact ⟨j + 1, by omega, by go_num, by rw [HT.out]; go_num, N, B⟩
   case measure => simp [intOf]; omega
  ·have D : j = xs.length := by omega
   subst D;rw [List.take_length];rw [zFf] at y;go_wp2;go_ret
   exact ⟨rfl, y, X⟩
theorem zIl (a : Option Addr) (cap : Nat) (k : Int) (xs : List (List (Int × Int × List Int))) (w : World) (h0 : 0 ≤ k) (h1 : k ≤ 144115188075855872) (hm : zA1 zBr xs ≤ 144115188075855872) (hln : xs.length ≤ 144115188075855872) (h : zBg zBl w a (zBw zBr k xs)) :
    Calls Tryz.prog 79 #[sL a xs.length cap, nI k] w fun e' v => e' = .returned (nI (k + zA1 zBr xs)) ∧ v = w := by
 go_enter Tryz.func79, Tryz.ntmps79;go_wp2;go_loop [1, 5] (fun q i => ∃ j : Nat, j ≤ xs.length ∧ i = nI j ∧ q = nI (k + zA1 zBr (xs.take j))) (fun _ i => xs.length - (intOf i).toNat)
 case atStart => exact ⟨0, Nat.zero_le _, rfl, by simp [zA1]⟩
 case round =>
  obtain ⟨j, hj, rfl, rfl⟩ := hrel;by_cases n : j < xs.length
  ·have p : (j : Int) < (xs.length : Int) := by omega
   obtain ⟨x, l⟩ : ∃ x, xs[j]? = some x := ⟨_, List.getElem?_eq_getElem n⟩;obtain ⟨b, B, c, rfl, ⟨z, cj, rfl, o, A, g⟩, d⟩ := zBG h (zD7 (M := zBr) (k := k) l);have s := d 0 _ rfl;rw [show j * (zBl).size + 0 = j from Nat.mul_one j] at s;have f : ((zBr).mE (k + zA1 zBr (xs.take j)) x).length = x.length := zBF _ _ _;rw [f] at s;have r : Hid (zBg _ w z (zBw zBE (k + zA1 zBr (xs.take j)) x)) := g;have y : Hid (zA1 zBr (xs.take (j + 1)) = zA1 zBr (xs.take j) + zA1 zBE x) := zCv (M := zBr) l;have C : zA1 zBr (xs.take j) + zA1 zBE x ≤ zA1 zBr xs := zCT (M := zBr) l;clear l g d h f o;generalize zA1 zBr (xs.take j) = T at y C r ⊢;have hn : ¬ (k + (T : Int) + ((zA1 zBE x : Nat) : Int) < 0) := by omega
   go_wp2_with (go_at_call 109; refine (zJj _ _ _ x _ (by omega) (by omega) (by omega) r.out).mono ?_; rintro e v ⟨rfl, rfl⟩)
   go_round
   case rel => exact ⟨j + 1, by omega, by go_num, by rw [y.out]; go_num⟩
   case measure => simp [intOf]; omega
  ·have m : j = xs.length := by omega
   subst m;rw [List.take_length];go_wp2;go_ret
   exact ⟨rfl, rfl⟩
def zMR (k : Int) (c : List (List (Int × Int × List Int)) × List Int) : List (List (Int × Int × List Int)) × List Int := (zBw zBr k c.1, zBw zBx (k + zA1 zBr c.1) c.2)
def cntC (c : List (List (Int × Int × List Int)) × List Int) : Nat := zA1 zBr c.1 + zA1 zBx c.2
theorem zIm (S : zAW) (u v : Value) (k : Int) (c : List (List (Int × Int × List Int)) × List Int) (w : World) (h0 : 0 ≤ k) (h1 : k ≤ 72057594037927936) (hm : cntC c ≤ 72057594037927936) (hln : c.1.length ≤ 72057594037927936) (h : zAA.own w S [u, v] c) :
    Calls Tryz.prog 41 #[.agg #[u, v], nI k] w fun e' w' => e' = .returned (nI (k + cntC c)) ∧ zAA.own w' S [u, v] (zMR k c) ∧ Chg S w w' := by
 obtain ⟨u', v', q, r, e, B, A, l, m, d⟩ := zCe h;simp only [List.cons.injEq, and_true] at e;obtain ⟨rfl, rfl⟩ := e;obtain ⟨a, C, rfl⟩ := zBD B;obtain ⟨b, y, rfl⟩ := zBD A;have j : cntC c = zA1 zBr c.1 + zA1 zBx c.2 := rfl;have X := zAx w (.cells #[sL a c.1.length C, sL b c.2.length y] 37);have I := zBQ (.cells #[sL a c.1.length C, sL b c.2.length y] 37) (zBM B);have G := zBQ (.cells #[sL a c.1.length C, sL b c.2.length y] 37) (zBM A);have i : Dis (Old w q) (Old w r) := d.sub zB6 zB6;have f : ¬ Old w q w.heap.size := fun h => by have := h.2; omega
 clear h B A d;have z := zIk (Old w q) _ k c.1 _ h0 (by omega) (by omega) (by omega) I;have n : Hid _ := G;have D : Hid _ := X;have M : Hid _ := aI i (aI f (aI l m));clear X I G i f l m;generalize Y : zA1 zBr c.1 = T at z j;go_enter Tryz.func41, Tryz.ntmps41;go_wp2_with fail
 refine z.mono ?_;rintro e w1 ⟨rfl, o, g⟩;obtain ⟨i, f, l, m⟩ := M.out;have E := (g.block w.heap.size (by simp) f).trans D.out;have F := zAN n.out g i.symm;obtain ⟨K, U⟩ := zBb E;have H : Hid _ := aI o g;have p : Hid _ := F;clear o g F z E n D;go_wp2_with fail
 refine (zCi (Old w r) _ _ c.2 _ (by omega) (by omega) (by omega) p.out).mono ?_;rintro e w2 ⟨rfl, J, s⟩;obtain ⟨o, g⟩ := H.out;have L : Hid _ := aI (zAN o s i) (aI J (zEj ((g.mono (zB6.trans l)).trans (s.mono (zB6.trans m)))));clear o g J s K U H p;go_wp2;go_ret
 obtain ⟨N, Z, V⟩ := L.out;have R : (k : Int) + (T : Int) + (zA1 zBx c.2 : Int) = k + (cntC c : Int) := by omega
 refine ⟨zAV R, ⟨[_], [_], Old w q, Old w r, rfl, ?_, ?_, zB6.trans l, zB6.trans m, i⟩, V⟩
 ·have : (zMR k c).1.length = c.1.length := zBF _ _ _;exact N
 ·have O : (zMR k c).2 = zBw zBx (k + (T : Int)) c.2 := by rw [← Y]; rfl
  rw [O];exact Z
theorem zKq (S : zAW) (l s : Int) (v : Value) (k : Int) (d : List Int) (w : World) (h0 : 0 ≤ k) (h1 : k ≤ 72057594037927936) (hm : zA1 zBx d ≤ 72057594037927936) (h : zA5.own w S [v] d) :
    Calls Tryz.prog 43 #[.agg #[nI l, nI s, v], nI k] w fun e' w' => e' = .returned (nI (k + zA1 zBx d)) ∧ zA5.own w' S [v] (zBw zBx k d) ∧ Chg S w w' := by
 obtain ⟨a, g, rfl⟩ := zBD h;have f := zBQ (.cells #[nI l, nI s, sL a d.length g] 39) h;have b := zCi S _ k d _ h0 (by omega) (by omega) f;clear h f;go_enter Tryz.func43, Tryz.ntmps43;go_wp2_with fail
 refine b.mono ?_;rintro e w1 ⟨rfl, i, c⟩;have j := zEj c;clear c b;go_wp2;go_ret
 exact ⟨rfl, i, j⟩
theorem zIn (a b : Option Addr) (ca cb : Nat) (k : Int) (c : List (List (Int × Int × List Int)) × List Int) (w : World) (h0 : 0 ≤ k) (h1 : k ≤ 72057594037927936) (hm : cntC c ≤ 72057594037927936) (hln : c.1.length ≤ 72057594037927936) (r1 : zBg zBl w a (zMR k c).1) (r2 : zBg zBC w b (zMR k c).2) :
    Calls Tryz.prog 45 #[.agg #[sL a c.1.length ca, sL b c.2.length cb], nI k] w fun e' w' => e' = .returned (nI (k + cntC c)) ∧ Bl w w' := by
 have g : cntC c = zA1 zBr c.1 + zA1 zBx c.2 := rfl;have B := zAf w (.cells #[sL a c.1.length ca, sL b c.2.length cb] 37);have X := zAx w (.cells #[sL a c.1.length ca, sL b c.2.length cb] 37);have i := zIl a ca k c.1 _ h0 (by omega) (by omega) (by omega) (zAG r1 B);have j : Hid (zBg zBC (w.alloc (.cells #[sL a c.1.length ca, sL b c.2.length cb] 37)) b (zBw zBx (k + zA1 zBr c.1) c.2)) := zAG r2 B;clear r1 r2;generalize hT : zA1 zBr c.1 = T at i g j;have n1 : ¬ (k + (T : Int) < 0) := by omega
 have n2 : ¬ (k + (T : Int) + (zA1 zBx c.2 : Int) < 0) := by omega
 have m : Hid ((k : Int) + (T : Int) + (zA1 zBx c.2 : Int) = k + (cntC c : Int)) := by unfold Hid; omega
 obtain ⟨x0, x1⟩ := zBb X;go_enter Tryz.func45, Tryz.ntmps45;go_wp2_with fail
 refine i.mono ?_;rintro e l ⟨rfl, d⟩;rw [d];clear d l;go_wp2_with fail
 refine (zC6 b cb _ c.2 _ (by omega) (by omega) (by omega) j.out).mono ?_;rintro e n ⟨rfl, f⟩;rw [f];clear f n;go_wp2;go_ret
 exact ⟨zAV m.out, B⟩
theorem zKr (l s : Int) (a : Option Addr) (ca : Nat) (k : Int) (d : List Int) (w : World) (h0 : 0 ≤ k) (h1 : k ≤ 72057594037927936) (hm : zA1 zBx d ≤ 72057594037927936) (r : zBg zBC w a (zBw zBx k d)) :
    Calls Tryz.prog 47 #[.agg #[nI l, nI s, sL a d.length ca], nI k] w fun e' w' => e' = .returned (nI (k + zA1 zBx d)) ∧ Bl w w' := by
 have B := zAf w (.cells #[nI l, nI s, sL a d.length ca] 39);have c := zC6 a ca k d _ h0 (by omega) (by omega) (zAG r B);have n2 : ¬ (k + (zA1 zBx d : Int) < 0) := by omega
 clear r;go_enter Tryz.func47, Tryz.ntmps47;go_wp2_with fail
 refine c.mono ?_;rintro e f ⟨rfl, b⟩;rw [b];clear b f;go_wp2;go_ret
 exact ⟨rfl, B⟩
section
variable {α : Type}
end
theorem zIo {S : zAW} {w : World} {l s : Int} {v : Value} {u : zAT} (h : zAR.own w S [nI l, nI s, v] u) : zA5.own w S [v] u.2.2 := by
 obtain ⟨v', e, _, _, a⟩ := zHZ h;simp only [List.cons.injEq, and_true] at e;rw [e.2.2];exact a
theorem bd_way : Bd zBE 3 := zDi zDh (zDi zDh (bd_sl zDh))
end Go.Proofs.YtmdhblhdfcocjaaGreatDoor
