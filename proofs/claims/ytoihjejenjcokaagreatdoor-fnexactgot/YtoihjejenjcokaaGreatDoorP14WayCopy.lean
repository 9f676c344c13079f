import Derived.Test.YtoihjejenjcokaaGreatDoorP00Box
import Derived.Test.YtoihjejenjcokaaGreatDoorP12Finds
import Derived.Test.YtoihjejenjcokaaGreatDoorP13Ways2
import Derived.Test.YtoihjejenjcokaaGreatDoorP07Door
import Derived.Test.YtoihjejenjcokaaGreatDoorP11OkLink
import Derived.Deep.DeepCutAuto
import Derived.BigRegion
import Derived.Test.YtoihjejenjcokaaGreatDoorP03OpensBase
import Derived.Test.YtoihjejenjcokaaGreatDoorP08Iters
namespace Go.Proofs.YtoihjejenjcokaaGreatDoor
set_option maxHeartbeats 2000000
open Go.ChangeShapes Go.WideShapes Go.ChangeAt Go.RowKit
set_option linter.unusedVariables false
theorem zEr (w : World) : Calls Tryz.prog 103 #[] w fun e w' => ∃ av cv, e = .returned (.agg #[.int .i64 (-1), .int .i64 0, .slice av 0 cv]) ∧ zAY zAS w w' [.int .i64 (-1), .int .i64 0, .slice av 0 cv] zAA := by
 have M := zDz (w.alloc (.cells #[.int .i64 (-1), .int .i64 0, .slice (some ⟨w.heap.size + 1, 0, none⟩) 0 0] 39))
 have X := zAK (.cells #[] 2) (zAy w (.cells #[.int .i64 (-1), .int .i64 0, .slice (some ⟨w.heap.size + 1, 0, none⟩) 0 0] 39))
 rw [zAp] at M
 obtain ⟨r0, r1, r2⟩ := zCm X
 go_enter Tryz.func103, Tryz.ntmps103
 go_wp2
 refine bodyPost_ret (v := .agg #[.int .i64 (-1), .int .i64 0, .slice (some ⟨w.heap.size + 1, 0, none⟩) 0 0]) (by simp [results, Tryz.results103, go_sem]) rfl ⟨_, _, rfl, zCF (by constructor <;> decide) (by constructor <;> decide) ?_, zAb (zAf w _) M.2⟩
 exact zA5.own_mono M.1 (zCb (by simp) (Nat.le_refl _))
theorem zDR (w : World) (S : zAX) : zA5.own w S [.slice none 0 0] [] := ⟨_, [], fun _ => False, rfl, World.ownsRow_nil _ _ _ _, fun g hg => by simp [Value.ownBlock] at hg, fun _ h => h.elim, rfl⟩
theorem zKp (w : World) : Calls Tryz.prog 59 #[] w fun e w' => ∃ av cv, e = .returned (.agg #[.int .i64 (-1), .int .i64 0, .slice av 0 cv]) ∧ zAY zAS w w' [.int .i64 (-1), .int .i64 0, .slice av 0 cv] zAA := by
 go_enter Tryz.func59, Tryz.ntmps59
 go_wp2
 refine bodyPost_ret (v := .agg #[.int .i64 (-1), .int .i64 0, .slice none 0 0]) (by simp [results, Tryz.results59, go_sem]) rfl ⟨_, _, rfl, zCF (by constructor <;> decide) (by constructor <;> decide) (zDR _ _), zAf w _⟩
theorem zDS (l s : Int) (d : List Int) (a : Option Addr) (cap : Nat) (w : World) (i1 : zBk l) (i2 : zBk s) (h : zBh zBC w a d) (hm : d.length ≤ 1048576) :
    Calls Tryz.prog 71 #[.agg #[.int .i64 l, .int .i64 s, .slice a d.length cap]] w fun e w' => ∃ av cv, e = .returned (.agg #[.int .i64 l, .int .i64 s, .slice av d.length cv]) ∧ zAY zAS w w' [.int .i64 l, .int .i64 s, .slice av d.length cv] (l, s, d) := by
 cases a with
 | some ad =>
  obtain ⟨i0, hi, hz0, hz1, hz2⟩ := info_parts Tryz.infoI
  have B0 := zAb (zAf w (.cells #[.int .i64 l, .int .i64 s, .slice (some ad) d.length cap] 39)) (zAf _ (.cells #[.int .i64 0, .int .i64 0, .slice none 0 0] 39))
  have X0 := zAK (.cells #[.int .i64 0, .int .i64 0, .slice none 0 0] 39) (zAy w (.cells #[.int .i64 l, .int .i64 s, .slice (some ad) d.length cap] 39))
  have X1 := zAy (w.alloc (.cells #[.int .i64 l, .int .i64 s, .slice (some ad) d.length cap] 39)) (.cells #[.int .i64 0, .int .i64 0, .slice none 0 0] 39)
  rw [zAp] at X1
  have sz : ((w.alloc (.cells #[.int .i64 l, .int .i64 s, .slice (some ad) d.length cap] 39)).alloc (.cells #[.int .i64 0, .int .i64 0, .slice none 0 0] 39)).heap.size = w.heap.size + 1 + 1 := by simp
  have hown : (((w.alloc (.cells #[.int .i64 l, .int .i64 s, .slice (some ad) d.length cap] 39)).alloc (.cells #[.int .i64 0, .int .i64 0, .slice none 0 0] 39)).alloc (.cells #[] 2)).ownsRow ((w.alloc (.cells #[.int .i64 l, .int .i64 s, .slice (some ad) d.length cap] 39)).alloc (.cells #[.int .i64 0, .int .i64 0, .slice none 0 0] 39)).heap.size 2 1 (.slice (some ⟨((w.alloc (.cells #[.int .i64 l, .int .i64 s, .slice (some ad) d.length cap] 39)).alloc (.cells #[.int .i64 0, .int .i64 0, .slice none 0 0] 39)).heap.size, 0, none⟩) 0 0) 0 [] := World.ownsRow_lit _ #[] 0 (Nat.le_refl _) (Nat.zero_le _) rfl
  rw [sz] at hown
  have HI : Hid (zBk l ∧ zBk s) := ⟨i1, i2⟩
  have HS : Hid (zDF w (some ad) d ∧ ∀ x ∈ d, zBk x) := ⟨zCw h, zHS h⟩
  have HX : Hid _ := And.intro X0 X1
  clear i1 i2 X0 X1 h
  go_enter Tryz.func71, Tryz.ntmps71
  go_wp2_with (at_builtin; refine wpList_append_own _ rfl _ _ 23 rfl (w.heap.size + 1 + 1) 2 i0 (.int .i64 0) 1 8 Tryz.underlying23 hi hz0 hz1 hz2 rfl (by decide) _ _ _ rfl hown ad d.length cap (d.map (Value.int .i64)) rfl (by simp) ?c1 ?c2 ?c3 ?c4 ?c5 ?_)
  case c1 =>
   intro j u hj
   obtain ⟨hjl, rfl⟩ := List.getElem?_eq_some_iff.1 hj
   simp at hjl
   rcases HS.out.1 with rfl | ⟨b, off, ha, hc⟩
   ·simp at hjl
   simp only [Option.some.injEq] at ha
   subst ha
   have g0 := hc j hjl
   have g1 := cell_kp3 w (.cells #[.int .i64 l, .int .i64 s, .slice (some ⟨b, off, none⟩) d.length cap] 39) (.cells #[.int .i64 0, .int .i64 0, .slice none 0 0] 39) (.cells #[] 2) g0
   rw [show (⟨b, off, none⟩ : Addr).add j = ⟨b, off + j, none⟩ from by simp [Addr.add], g1]
   simp [List.getD_eq_getElem?_getD, hjl]
  case c2 => intro u hu; simp at hu; obtain ⟨x, _, rfl⟩ := hu; rfl
  case c3 => unfold maxLen; omega
  case c4 => omega
  case c5 => simp
  ·intro v' w1 hown' hgrow hnil
   have hv : v' ≠ .slice none 0 0 := hnil
   have hown'' : w1.ownsRow ((w.alloc (.cells #[.int .i64 l, .int .i64 s, .slice (some ad) d.length cap] 39)).alloc (.cells #[.int .i64 0, .int .i64 0, .slice none 0 0] 39)).heap.size 2 1 v' d.length (d.map (Value.int .i64)) := by rw [sz]; simpa using hown'
   have HO := zD8 (zHR (w := (w.alloc (.cells #[.int .i64 l, .int .i64 s, .slice (some ad) d.length cap] 39)).alloc (.cells #[.int .i64 0, .int .i64 0, .slice none 0 0] 39)) hown'' (by rw [sz]; exact hgrow) hv) HS.out.2
   obtain ⟨av, cv, rfl⟩ := zBD HO.1
   obtain ⟨X0, X1⟩ := HX.out
   have B1 := zAb B0 HO.2
   replace X0 := zAa HO.2 X0
   replace X1 := zAa HO.2 X1
   obtain ⟨y0, y1, y2⟩ := zCm X0
   obtain ⟨f0, f1, f2⟩ := zCx X0
   obtain ⟨z0, z1, z2⟩ := zCm X1
   obtain ⟨g0, g1, g2⟩ := zCx X1
   have HOO : Hid (zA5.own w1 (rng ((w.alloc (.cells #[.int .i64 l, .int .i64 s, .slice (some ad) d.length cap] 39)).alloc (.cells #[.int .i64 0, .int .i64 0, .slice none 0 0] 39)).heap.size w1.heap.size) [.slice av d.length cv] d) := HO.1
   have HX2 : Hid _ := And.intro X0 X1
   clear hown' hgrow hnil hown hown'' HO X0 X1 HX hv
   go_wp2
   obtain ⟨X0, X1⟩ := HX2.out
   have Y1 := put3 (a := .int .i64 l) (b := .int .i64 s) (c := .slice av d.length cv) (zAP (g := w.heap.size) (o := 2) (v := .slice av d.length cv) X1 (by omega))
   obtain ⟨r0, r1, r2⟩ := zCm Y1
   refine bodyPost_ret (v := .agg #[.int .i64 l, .int .i64 s, .slice av d.length cv]) (by simp [results, Tryz.results71, go_sem, r0, r1, r2]) rfl ⟨av, cv, rfl, zCF HI.out.1 HI.out.2 ?_, ?_⟩
   ·refine zA5.own_mono (zAl (zAl (zAl (zAl HOO.out (fun h => by have := h.1; omega)) (fun h => by have := h.1; omega)) (fun h => by have := h.1; omega)) (fun h => by have := h.1; omega)) ?_
    exact zCb (by omega) (by simp)
   ·exact zAq (zAq (zAq (zAq B1 (by omega)) (by omega)) (by omega)) (by omega)
 | none =>
  obtain rfl : d = [] := by
   rcases h with h | ⟨b, off, rows, ha, _⟩
   ·exact h
   ·cases ha
  rw [show ([] : List Int).length = 0 from rfl]
  obtain ⟨i0, hi, hz0, hz1, hz2⟩ := info_parts Tryz.infoI
  have B0 := zAb (zAf w (.cells #[.int .i64 l, .int .i64 s, .slice none 0 cap] 39)) (zAf _ (.cells #[.int .i64 0, .int .i64 0, .slice none 0 0] 39))
  have X0 := zAK (.cells #[.int .i64 0, .int .i64 0, .slice none 0 0] 39) (zAy w (.cells #[.int .i64 l, .int .i64 s, .slice none 0 cap] 39))
  have X1 := zAy (w.alloc (.cells #[.int .i64 l, .int .i64 s, .slice none 0 cap] 39)) (.cells #[.int .i64 0, .int .i64 0, .slice none 0 0] 39)
  rw [zAp] at X1
  have sz : ((w.alloc (.cells #[.int .i64 l, .int .i64 s, .slice none 0 cap] 39)).alloc (.cells #[.int .i64 0, .int .i64 0, .slice none 0 0] 39)).heap.size = w.heap.size + 1 + 1 := by simp
  have hown : (((w.alloc (.cells #[.int .i64 l, .int .i64 s, .slice none 0 cap] 39)).alloc (.cells #[.int .i64 0, .int .i64 0, .slice none 0 0] 39)).alloc (.cells #[] 2)).ownsRow ((w.alloc (.cells #[.int .i64 l, .int .i64 s, .slice none 0 cap] 39)).alloc (.cells #[.int .i64 0, .int .i64 0, .slice none 0 0] 39)).heap.size 2 1 (.slice (some ⟨((w.alloc (.cells #[.int .i64 l, .int .i64 s, .slice none 0 cap] 39)).alloc (.cells #[.int .i64 0, .int .i64 0, .slice none 0 0] 39)).heap.size, 0, none⟩) 0 0) 0 [] := World.ownsRow_lit _ #[] 0 (Nat.le_refl _) (Nat.zero_le _) rfl
  rw [sz] at hown
  have HI : Hid (zBk l ∧ zBk s) := ⟨i1, i2⟩
  have M := zDz ((w.alloc (.cells #[.int .i64 l, .int .i64 s, .slice none 0 cap] 39)).alloc (.cells #[.int .i64 0, .int .i64 0, .slice none 0 0] 39))
  rw [sz] at M
  have HM : Hid _ := M
  have HX : Hid _ := And.intro X0 X1
  clear i1 i2 M X0 X1
  go_enter Tryz.func71, Tryz.ntmps71
  go_wp2_with (at_builtin; refine zCG rfl _ _ 23 rfl (w.heap.size + 1 + 1) 2 i0 1 Tryz.underlying23 hi cap _ _ _ rfl hown rfl ?_)
  have N := zDz ((w.alloc (.cells #[.int .i64 l, .int .i64 s, .slice (some ⟨w.heap.size + 1 + 1, 0, none⟩) 0 0] 39)).alloc (.cells #[.int .i64 l, .int .i64 s, .slice (some ⟨w.heap.size + 1 + 1, 0, none⟩) 0 0] 39))
  have sz2 : ((w.alloc (.cells #[.int .i64 l, .int .i64 s, .slice (some ⟨w.heap.size + 1 + 1, 0, none⟩) 0 0] 39)).alloc (.cells #[.int .i64 l, .int .i64 s, .slice (some ⟨w.heap.size + 1 + 1, 0, none⟩) 0 0] 39)).heap.size = w.heap.size + 1 + 1 := by simp
  rw [sz2] at N
  refine bodyPost_ret (v := .agg #[.int .i64 l, .int .i64 s, .slice (some ⟨w.heap.size + 1 + 1, 0, none⟩) 0 0]) (by simp [results, Tryz.results71, go_sem]) rfl ⟨_, _, rfl, zCF HI.out.1 HI.out.2 (zA5.own_mono N.1 (zCb (by rw [sz2]; omega) (Nat.le_refl _))), zAb (zAb (zAf w _) (zAf _ _)) N.2⟩
theorem zDT (l s : Int) (d : List Int) (a : Option Addr) (cap : Nat) (w : World) (i1 : zBk l) (i2 : zBk s) (h : zBh zBC w a d) (hm : d.length ≤ 1048576) :
    Calls Tryz.prog 56 #[.agg #[.int .i64 l, .int .i64 s, .slice a d.length cap]] w fun e w' => ∃ av cv, e = .returned (.agg #[.int .i64 l, .int .i64 s, .slice av d.length cv]) ∧ zAY zAS w w' [.int .i64 l, .int .i64 s, .slice av d.length cv] (l, s, d) := by
 have B0 := zAb (zAf w (.cells #[.int .i64 l, .int .i64 s, .slice a d.length cap] 39)) (zAf _ (.cells #[.int .i64 0, .int .i64 0, .slice none 0 0] 39))
 have X0 := zAK (.cells #[.int .i64 0, .int .i64 0, .slice none 0 0] 39) (zAy w (.cells #[.int .i64 l, .int .i64 s, .slice a d.length cap] 39))
 have X1 := zAy (w.alloc (.cells #[.int .i64 l, .int .i64 s, .slice a d.length cap] 39)) (.cells #[.int .i64 0, .int .i64 0, .slice none 0 0] 39)
 rw [zAp] at X1
 have sz : ((w.alloc (.cells #[.int .i64 l, .int .i64 s, .slice a d.length cap] 39)).alloc (.cells #[.int .i64 0, .int .i64 0, .slice none 0 0] 39)).heap.size = w.heap.size + 1 + 1 := by simp
 have HI : Hid (zBk l ∧ zBk s) := ⟨i1, i2⟩
 have HC := zDc a d cap ((w.alloc (.cells #[.int .i64 l, .int .i64 s, .slice a d.length cap] 39)).alloc (.cells #[.int .i64 0, .int .i64 0, .slice none 0 0] 39)) (zA7 h fun k hk => B0.block k hk) hm
 clear i1 i2 h hm
 go_enter Tryz.func56, Tryz.ntmps56
 go_wp2_with fail
 refine HC.mono ?_
 rintro e w1 ⟨v, rfl, HO⟩
 obtain ⟨av, cv, rfl⟩ := zBD HO.1
 have B1 := zAb B0 HO.2
 replace X0 := zAa HO.2 X0
 replace X1 := zAa HO.2 X1
 obtain ⟨y0, y1, y2⟩ := zCm X0
 obtain ⟨f0, f1, f2⟩ := zCx X0
 obtain ⟨z0, z1, z2⟩ := zCm X1
 obtain ⟨g0, g1, g2⟩ := zCx X1
 have HOO : Hid (zA5.own w1 (rng ((w.alloc (.cells #[.int .i64 l, .int .i64 s, .slice a d.length cap] 39)).alloc (.cells #[.int .i64 0, .int .i64 0, .slice none 0 0] 39)).heap.size w1.heap.size) [.slice av d.length cv] d) := HO.1
 have HX2 : Hid _ := And.intro X0 X1
 clear HO X0 X1 HC
 go_wp2
 obtain ⟨X0, X1⟩ := HX2.out
 have Y1 := put3 (a := .int .i64 l) (b := .int .i64 s) (c := .slice av d.length cv) (zAP (g := w.heap.size) (o := 2) (v := .slice av d.length cv) X1 (by omega))
 obtain ⟨r0, r1, r2⟩ := zCm Y1
 refine bodyPost_ret (v := .agg #[.int .i64 l, .int .i64 s, .slice av d.length cv]) (by simp [results, Tryz.results56, go_sem, r0, r1, r2]) rfl ⟨av, cv, rfl, zCF HI.out.1 HI.out.2 ?_, ?_⟩
 ·refine zA5.own_mono (zAl (zAl (zAl (zAl HOO.out (fun h => by have := h.1; omega)) (fun h => by have := h.1; omega)) (fun h => by have := h.1; omega)) (fun h => by have := h.1; omega)) ?_
  exact zCb (by omega) (by simp)
 ·exact zAq (zAq (zAq (zAq B1 (by omega)) (by omega)) (by omega)) (by omega)
open Go.ChangeShapes Go.WideShapes Go.ChangeAt Go.RowKit Go.Shelf
theorem in64_w {k : Int} (h0 : 0 ≤ k) (h1 : k ≤ 1152921504606846976) : zBk k := by constructor <;> omega
theorem zMQ (xs : List (Int × Int × List Int)) : xs.length ≤ zA1 zBE xs := by
 induction xs with
 | nil => exact Nat.zero_le _
 | cons x xs ih =>
  simp only [zA1, List.map_cons, List.sum_cons, List.length_cons] at ih ⊢
  have : 1 ≤ zBE.cE x := by show 1 ≤ 1 + _; omega
  omega
theorem zJh (k : Int) (w : World) :
    Calls Tryz.prog 108 #[.slice none 0 0, .int .i64 k] w fun e' w' => e' = .returned (.int .i64 k) ∧ w' = w := by
 go_enter Tryz.func108, Tryz.ntmps108
 go_wp2
 refine wp_loop_rounds 1 ?_
 rw [rounds_succ]
 go_wp2
 go_ret
 exact ⟨rfl, rfl⟩
theorem zJi (S : zAX) (v : Value) (k : Int) (xs : List (Int × Int × List Int)) (w : World) (h0 : 0 ≤ k) (h1 : k ≤ 288230376151711744) (hm : zA1 zBE xs ≤ 288230376151711744) (h : zBl.own w S [v] xs) :
    Calls Tryz.prog 108 #[v, .int .i64 k] w fun e' w' => e' = .returned (.int .i64 (k + zA1 zBE xs)) ∧ zBl.own w' S [v] (zBw zBE k xs) ∧ Chg S w w' := by
 have hln := zMQ xs
 rcases zD9 h with ⟨rfl, rfl⟩ | ⟨G, cap, rfl, hG⟩
 ·exact (zJh k w).mono fun e w' ⟨e1, e2⟩ => ⟨by simpa [zA1] using e1, by rw [e2]; exact h, by rw [e2]; exact Chg.refl _ _⟩
 go_enter Tryz.func108, Tryz.ntmps108
 go_wp2
 go_loopw [1, 5] (fun q i wr => ∃ j : Nat, j ≤ xs.length ∧ i = .int .i64 j ∧ q = .int .i64 (k + zA1 zBE (xs.take j)) ∧ zBl.own wr S [.slice (some ⟨G, 0, none⟩) xs.length cap] (zEh zBE k xs j) ∧ Chg S w wr)
  (fun _ i _ => xs.length - (intOf i).toNat)
 case atStart => exact ⟨0, Nat.zero_le _, rfl, by simp [zA1], by rw [zE0]; exact h, Chg.refl _ _⟩
 case round =>
  obtain ⟨j, hj, rfl, rfl, ho, hs⟩ := hrel
  by_cases hlt : j < xs.length
  ·have hlt' : (j : Int) < (xs.length : Int) := by omega
   obtain ⟨x, hx⟩ : ∃ x, xs[j]? = some x := ⟨_, List.getElem?_eq_getElem hlt⟩
   have HT : Hid (zA1 zBE (xs.take (j + 1)) = zA1 zBE (xs.take j) + (1 + (1 + zA1 zBx x.2.2))) := zCv (M := zBE) hx
   have hT : zA1 zBE (xs.take j) + (1 + (1 + zA1 zBx x.2.2)) ≤ zA1 zBE xs := zCT (M := zBE) hx
   have HPS : Hid _ := zE1 (M := zBE) (k := k) hx
   obtain ⟨g, cap', cur, Sj, T, c, hv, hSg, hblk, hcur, hcl, hown, s1, s2, s3, s4, s5, close⟩ := zBH ho (zFg hx)
   simp only [Value.slice.injEq, Option.some.injEq, Addr.mk.injEq, and_true] at hv
   obtain ⟨rfl, hvx⟩ := hv
   obtain ⟨vd, rfl, -, -, hod⟩ := zHY hown
   obtain ⟨av, cv, rfl⟩ := zBD hod
   have q0 : wr.cell? ⟨G, j * 3, none⟩ = some (.int .i64 x.1) := by rw [cell_of_row wr G _ cur _ (0, 0) hblk]; exact hcur 0 (by decide)
   have q1 : wr.cell? ⟨G, j * 3 + 1, none⟩ = some (.int .i64 x.2.1) := by rw [cell_of_row wr G _ cur _ (0, 0) hblk]; exact hcur 1 (by decide)
   have q2 : wr.cell? ⟨G, j * 3 + 2, none⟩ = some (.slice av x.2.2.length cv) := by rw [cell_of_row wr G _ cur _ (0, 0) hblk]; exact hcur 2 (by decide)
   have f0 : wr.frozen? ⟨G, j * 3, none⟩ = false := frozen_of_row wr G _ _ _ hblk
   have f1 : wr.frozen? ⟨G, j * 3 + 1, none⟩ = false := frozen_of_row wr G _ _ _ hblk
   have hcs : j * 3 + 2 < cur.size := by
    have := hcur 2 (by decide)
    exact (Array.getElem?_eq_some_iff.1 (this.trans rfl)).1
   clear hvx hcl
   generalize hkk : k + (zA1 zBE (xs.take j) : Int) = kk at HPS ⊢
   have hk0 : 0 ≤ kk ∧ kk ≤ 576460752303423488 := by omega
   have HC : Hid (∀ w', Chg Sj ((wr.setCell ⟨G, j * 3, none⟩ (.int .i64 kk)).setCell ⟨G, j * 3 + 1, none⟩ (.int .i64 (kk + 1))) w' → zA5.own w' Sj [.slice av x.2.2.length cv] (zBw zBx (kk + 1 + 1) x.2.2) → zBl.own w' S [.slice (some ⟨G, 0, none⟩) xs.length cap] (zEh zBE k xs (j + 1)) ∧ Chg S wr w') := by
    intro w' hc ho'
    have y1 := heap_setCell_same wr G (j * 3) _ _ (.int .i64 kk) hblk
    have y2 := heap_setCell_same _ G (j * 3 + 1) _ _ (.int .i64 (kk + 1)) y1
    have hlg : G < wr.heap.size := (Array.getElem?_eq_some_iff.1 hblk).1
    have c1 : Chg S wr ((wr.setCell ⟨G, j * 3, none⟩ (.int .i64 kk)).setCell ⟨G, j * 3 + 1, none⟩ (.int .i64 (kk + 1))) := ⟨rfl, rfl, rfl, by simp, fun i hi hn => by
     have : i ≠ G := fun e => hn (by rw [e]; exact hSg)
     rw [heap_setCell_other _ ⟨G, j * 3 + 1, none⟩ i _ this, heap_setCell_other _ ⟨G, j * 3, none⟩ i _ this]⟩
    refine ⟨?_, c1.trans (hc.mono s1)⟩
    rw [← HPS.out]
    refine close w' _ [.int .i64 kk, .int .i64 (kk + 1), .slice av x.2.2.length cv] _ Sj S ((hc.block G (by simpa using hlg) s4).trans y2) (by simp) ?_ ?_ ?_ (zCF (in64_w hk0.1 (by omega)) (in64_w (by omega) (by omega)) ho') s3 s4 hSg s1 s2
    ·intro i hi
     rw [show zAS.size = 3 from rfl] at hi
     rw [Array.getElem?_setIfInBounds_ne (by omega), Array.getElem?_setIfInBounds_ne (by omega)]
    ·intro i hi
     rw [show zAS.size = 3 from rfl] at hi
     rw [show j * zAS.size = j * 3 from rfl]
     have h3 : i = 0 ∨ i = 1 ∨ i = 2 := by omega
     rcases h3 with rfl | rfl | rfl
     ·rw [Array.getElem?_setIfInBounds_ne (by omega), Nat.add_zero, Array.getElem?_setIfInBounds_self_of_lt (by omega)]
      rfl
     ·rw [Array.getElem?_setIfInBounds_self_of_lt (by simp; omega)]
      rfl
     ·rw [Array.getElem?_setIfInBounds_ne (by omega), Array.getElem?_setIfInBounds_ne (by omega)]
      exact hcur 2 (by decide)
    ·intro i hi hil
     have hne : i ≠ G := fun e => s5 (by rw [← e]; exact hi)
     rw [hc.block i (by simpa using hil) (fun hx => s3 i hx hi), heap_setCell_other _ ⟨G, j * 3 + 1, none⟩ i _ hne, heap_setCell_other _ ⟨G, j * 3, none⟩ i _ hne]
   have HO : Hid (zA5.own ((wr.setCell ⟨G, j * 3, none⟩ (.int .i64 kk)).setCell ⟨G, j * 3 + 1, none⟩ (.int .i64 (kk + 1))) Sj [.slice av x.2.2.length cv] x.2.2) := zAl (zAl hod s4) s4
   clear hx ho hown close hcur hblk s1 s2 s3 s4 s5 HPS h hod hcs
   generalize zA1 zBE (xs.take j) = TT at HT hT hkk
   go_wp2_with fail
   refine (zCi Sj _ _ x.2.2 _ (by omega) (by omega) (by omega) HO.out).mono ?_
   rintro e w' ⟨rfl, own2, gr⟩
   obtain ⟨ho2, gr2⟩ := HC.out w' gr own2
   have hs2 := hs.trans gr2
   clear own2 gr gr2 HC HO q0 q1 q2 f0 f1
   go_wp2
   go_roundw
   case rel => exact ⟨j + 1, by omega, by go_num, by rw [HT.out]; congr 1; omega, ho2, hs2⟩
   case measure => simp [intOf]; omega
  ·have hjn : j = xs.length := by omega
   subst hjn
   rw [List.take_length]
   rw [zFf] at ho
   go_wp2
   go_ret
   exact ⟨rfl, ho, hs⟩
theorem zJj (a : Option Addr) (cap : Nat) (k : Int) (xs : List (Int × Int × List Int)) (w : World) (h0 : 0 ≤ k) (h1 : k ≤ 288230376151711744) (hm : zA1 zBE xs ≤ 288230376151711744) (h : zBh zAS w a (zBw zBE k xs)) :
    Calls Tryz.prog 109 #[.slice a xs.length cap, .int .i64 k] w fun e' w' => e' = .returned (.int .i64 (k + zA1 zBE xs)) ∧ w' = w := by
 have hln := zMQ xs
 go_enter Tryz.func109, Tryz.ntmps109
 go_wp2
 go_loop [1, 5] (fun q i => ∃ j : Nat, j ≤ xs.length ∧ i = .int .i64 j ∧ q = .int .i64 (k + zA1 zBE (xs.take j))) (fun _ i => xs.length - (intOf i).toNat)
 case atStart => exact ⟨0, Nat.zero_le _, rfl, by simp [zA1]⟩
 case round =>
  obtain ⟨j, hj, rfl, rfl⟩ := hrel
  by_cases hlt : j < xs.length
  ·have hlt' : (j : Int) < (xs.length : Int) := by omega
   obtain ⟨x, hx⟩ : ∃ x, xs[j]? = some x := ⟨_, List.getElem?_eq_getElem hlt⟩
   obtain ⟨b, off, cs, rfl, hrd, hcell⟩ := zBG h (zD7 (M := zBE) (k := k) hx)
   obtain ⟨ad, cpw, rfl, -, -, -, -, hd3⟩ := zAL hrd
   have x0 := hcell 0 _ rfl
   have x1 := hcell 1 _ rfl
   have x2 := hcell 2 _ rfl
   rw [show off + (j * zAS.size + 0) = off + j * 3 from rfl] at x0
   rw [show off + (j * zAS.size + 1) = off + j * 3 + 1 from rfl] at x1
   rw [show off + (j * zAS.size + 2) = off + j * 3 + 2 from rfl] at x2
   have hml : (zBE.mE (k + zA1 zBE (xs.take j)) x).2.2.length = x.2.2.length := zBF _ _ _
   rw [hml] at x2
   have HR : Hid (zBh zBC w ad (zBw zBx (k + zA1 zBE (xs.take j) + 1 + 1) x.2.2)) := hd3
   have y0 : w.cell? ⟨b, off + j * 3, none⟩ = some (.int .i64 (k + zA1 zBE (xs.take j))) := x0
   have y1 : w.cell? ⟨b, off + j * 3 + 1, none⟩ = some (.int .i64 (k + zA1 zBE (xs.take j) + 1)) := x1
   have HT : Hid (zA1 zBE (xs.take (j + 1)) = zA1 zBE (xs.take j) + (1 + (1 + zA1 zBx x.2.2))) := zCv (M := zBE) hx
   have hT : zA1 zBE (xs.take j) + (1 + (1 + zA1 zBx x.2.2)) ≤ zA1 zBE xs := zCT (M := zBE) hx
   clear hx hrd hcell h hml hd3 x0 x1
   generalize hkk : k + (zA1 zBE (xs.take j) : Int) = kk at HR y0 y1 ⊢
   generalize zA1 zBE (xs.take j) = TT at HT hT hkk
   have hk0 : 0 ≤ kk ∧ kk ≤ 576460752303423488 := by omega
   have hn : ¬ (kk + 1 + 1 + ((zA1 zBx x.2.2 : Nat) : Int) < 0) := by omega
   go_wp2_with (go_at_call 48; refine (zC6 _ _ _ x.2.2 _ (by omega) (by omega) (by omega) HR.out).mono ?_; rintro e w' ⟨rfl, rfl⟩)
   go_round
   case rel => exact ⟨j + 1, by omega, by go_num, by rw [HT.out]; congr 1; omega⟩
   case measure => simp [intOf]; omega
  ·have hjn : j = xs.length := by omega
   subst hjn
   rw [List.take_length]
   go_wp2
   go_ret
   exact ⟨rfl, rfl⟩
theorem zIi (k : Int) (w : World) :
    Calls Tryz.prog 78 #[.slice none 0 0, .int .i64 k] w fun e' w' => e' = .returned (.int .i64 k) ∧ w' = w := by
 go_enter Tryz.func78, Tryz.ntmps78
 go_wp2
 refine wp_loop_rounds 1 ?_
 rw [rounds_succ]
 go_wp2
 go_ret
 exact ⟨rfl, rfl⟩
theorem zIj (S : zAX) (v : Value) (k : Int) (xs : List (List (Int × Int × List Int))) (w : World) (h0 : 0 ≤ k) (h1 : k ≤ 144115188075855872) (hm : zA1 zBr xs ≤ 144115188075855872) (hln : xs.length ≤ 144115188075855872) (h : (slR 115 zBl).own w S [v] xs) :
    Calls Tryz.prog 78 #[v, .int .i64 k] w fun e' w' => e' = .returned (.int .i64 (k + zA1 zBr xs)) ∧ (slR 115 zBl).own w' S [v] (zBw zBr k xs) ∧ Chg S w w' := by
 rcases zD9 h with ⟨rfl, rfl⟩ | ⟨G, cap, rfl, hG⟩
 ·exact (zIi k w).mono fun e w' ⟨e1, e2⟩ => ⟨by simpa [zA1] using e1, by rw [e2]; exact h, by rw [e2]; exact Chg.refl _ _⟩
 go_enter Tryz.func78, Tryz.ntmps78
 go_wp2
 go_loopw [1, 5] (fun q i wr => ∃ j : Nat, j ≤ xs.length ∧ i = .int .i64 j ∧ q = .int .i64 (k + zA1 zBr (xs.take j)) ∧ (slR 115 zBl).own wr S [.slice (some ⟨G, 0, none⟩) xs.length cap] (zEh zBr k xs j) ∧ Chg S w wr)
  (fun _ i _ => xs.length - (intOf i).toNat)
 case atStart => exact ⟨0, Nat.zero_le _, rfl, by simp [zA1], by rw [zE0]; exact h, Chg.refl _ _⟩
 case round =>
  obtain ⟨j, hj, rfl, rfl, ho, hs⟩ := hrel
  by_cases hlt : j < xs.length
  ·have hlt' : (j : Int) < (xs.length : Int) := by omega
   obtain ⟨x, hx⟩ : ∃ x, xs[j]? = some x := ⟨_, List.getElem?_eq_getElem hlt⟩
   have HT : Hid (zA1 zBr (xs.take (j + 1)) = zA1 zBr (xs.take j) + zA1 zBE x) := zCv (M := zBr) hx
   have hT : zA1 zBr (xs.take j) + zA1 zBE x ≤ zA1 zBr xs := zCT (M := zBr) hx
   have HPS : Hid _ := zE1 (M := zBr) (k := k) hx
   obtain ⟨g, cap', cur, Sj, T, c, hv, hSg, hblk, hcur, hcl, hown, s1, s2, s3, s4, s5, close⟩ := zBH ho (zFg hx)
   obtain ⟨vj, rfl⟩ : ∃ vj, c = [vj] := List.length_eq_one_iff.1 hcl
   obtain ⟨av, cv, rfl⟩ := zBD hown
   simp only [Value.slice.injEq, Option.some.injEq, Addr.mk.injEq, and_true] at hv
   obtain ⟨rfl, hvx⟩ := hv
   clear hvx hcl
   have q1 : wr.cell? ⟨G, j, none⟩ = some (.slice av x.length cv) := by
    rw [cell_of_row wr G j cur _ (0, 0) hblk]
    have := hcur 0 Nat.zero_lt_one
    rwa [show j * (zBl).size + 0 = j from Nat.mul_one j] at this
   have HO : Hid _ := hown
   have HC : Hid (∀ w', Chg Sj wr w' → (zBl).own w' Sj [.slice av x.length cv] (zBw zBE (k + zA1 zBr (xs.take j)) x) → (slR 115 zBl).own w' S [.slice (some ⟨G, 0, none⟩) xs.length cap] (zEh zBr k xs (j + 1))) := by
    intro w' hc ho'
    rw [← HPS.out]
    have hlg : G < wr.heap.size := (Array.getElem?_eq_some_iff.1 hblk).1
    exact close w' cur [.slice av x.length cv] _ Sj S (by rw [hc.block G hlg s4]; exact hblk) rfl (fun _ _ => rfl) hcur (hc.keeps s3.symm) ho' s3 s4 hSg s1 s2
   have HS1 : Hid _ := s1
   clear hx ho hown close hcur hblk s2 s3 s4 s5 s1 HPS h
   generalize zA1 zBr (xs.take j) = T at HT hT HC ⊢
   go_wp2_with (go_at_call 108; refine (zJi Sj _ _ x _ (by omega) (by omega) (by omega) HO.out).mono ?_; rintro e w' ⟨rfl, own2, gr⟩)
   have ho2 := HC.out w' gr own2
   have hs2 := hs.trans (gr.mono HS1.out)
   clear own2 gr
   go_roundw
   case rel => exact ⟨j + 1, by omega, by go_num, by rw [HT.out]; go_num, ho2, hs2⟩
   case measure => simp [intOf]; omega
  ·have hjn : j = xs.length := by omega
   subst hjn
   rw [List.take_length]
   rw [zFf] at ho
   go_wp2
   go_ret
   exact ⟨rfl, ho, hs⟩
theorem zIk (a : Option Addr) (cap : Nat) (k : Int) (xs : List (List (Int × Int × List Int))) (w : World) (h0 : 0 ≤ k) (h1 : k ≤ 144115188075855872) (hm : zA1 zBr xs ≤ 144115188075855872) (hln : xs.length ≤ 144115188075855872) (h : zBh zBl w a (zBw zBr k xs)) :
    Calls Tryz.prog 79 #[.slice a xs.length cap, .int .i64 k] w fun e' w' => e' = .returned (.int .i64 (k + zA1 zBr xs)) ∧ w' = w := by
 go_enter Tryz.func79, Tryz.ntmps79
 go_wp2
 go_loop [1, 5] (fun q i => ∃ j : Nat, j ≤ xs.length ∧ i = .int .i64 j ∧ q = .int .i64 (k + zA1 zBr (xs.take j))) (fun _ i => xs.length - (intOf i).toNat)
 case atStart => exact ⟨0, Nat.zero_le _, rfl, by simp [zA1]⟩
 case round =>
  obtain ⟨j, hj, rfl, rfl⟩ := hrel
  by_cases hlt : j < xs.length
  ·have hlt' : (j : Int) < (xs.length : Int) := by omega
   obtain ⟨x, hx⟩ : ∃ x, xs[j]? = some x := ⟨_, List.getElem?_eq_getElem hlt⟩
   obtain ⟨b, off, c, rfl, ⟨aj, cj, rfl, hc1, hc2, hrd⟩, hcell⟩ := zBG h (zD7 (M := zBr) (k := k) hx)
   have g1 := hcell 0 _ rfl
   rw [show j * (zBl).size + 0 = j from Nat.mul_one j] at g1
   have hml : ((zBr).mE (k + zA1 zBr (xs.take j)) x).length = x.length := zBF _ _ _
   rw [hml] at g1
   have HR : Hid (zBh _ w aj (zBw zBE (k + zA1 zBr (xs.take j)) x)) := hrd
   have HT : Hid (zA1 zBr (xs.take (j + 1)) = zA1 zBr (xs.take j) + zA1 zBE x) := zCv (M := zBr) hx
   have hT : zA1 zBr (xs.take j) + zA1 zBE x ≤ zA1 zBr xs := zCT (M := zBr) hx
   clear hx hrd hcell h hml hc1
   generalize zA1 zBr (xs.take j) = T at HT hT HR ⊢
   have hn : ¬ (k + (T : Int) + ((zA1 zBE x : Nat) : Int) < 0) := by omega
   go_wp2_with (go_at_call 109; refine (zJj _ _ _ x _ (by omega) (by omega) (by omega) HR.out).mono ?_; rintro e w' ⟨rfl, rfl⟩)
   go_round
   case rel => exact ⟨j + 1, by omega, by go_num, by rw [HT.out]; go_num⟩
   case measure => simp [intOf]; omega
  ·have hjn : j = xs.length := by omega
   subst hjn
   rw [List.take_length]
   go_wp2
   go_ret
   exact ⟨rfl, rfl⟩
def zMR (k : Int) (c : List (List (Int × Int × List Int)) × List Int) : List (List (Int × Int × List Int)) × List Int := (zBw zBr k c.1, zBw zBx (k + zA1 zBr c.1) c.2)
def cntC (c : List (List (Int × Int × List Int)) × List Int) : Nat := zA1 zBr c.1 + zA1 zBx c.2
theorem zIl (S : zAX) (u v : Value) (k : Int) (c : List (List (Int × Int × List Int)) × List Int) (w : World) (h0 : 0 ≤ k) (h1 : k ≤ 72057594037927936) (hm : cntC c ≤ 72057594037927936) (hln : c.1.length ≤ 72057594037927936) (h : zAB.own w S [u, v] c) :
    Calls Tryz.prog 41 #[.agg #[u, v], .int .i64 k] w fun e' w' => e' = .returned (.int .i64 (k + cntC c)) ∧ zAB.own w' S [u, v] (zMR k c) ∧ Chg S w w' := by
 obtain ⟨u', v', S1, S2, e, o1, o2, a1, a2, d⟩ := zCe h
 simp only [List.cons.injEq, and_true] at e
 obtain ⟨rfl, rfl⟩ := e
 obtain ⟨a, ca, rfl⟩ := zBD o1
 obtain ⟨b, cb, rfl⟩ := zBD o2
 have hcnt : cntC c = zA1 zBr c.1 + zA1 zBx c.2 := rfl
 have X := zAy w (.cells #[.slice a c.1.length ca, .slice b c.2.length cb] 37)
 have HA := zBQ (.cells #[.slice a c.1.length ca, .slice b c.2.length cb] 37) (zBM o1)
 have HB := zBQ (.cells #[.slice a c.1.length ca, .slice b c.2.length cb] 37) (zBM o2)
 have dd : Dis (Old w S1) (Old w S2) := d.sub zB6 zB6
 have hn1 : ¬ Old w S1 w.heap.size := fun h => by have := h.2; omega
 clear h o1 o2 d
 have C1 := zIj (Old w S1) _ k c.1 _ h0 (by omega) (by omega) (by omega) HA
 have HB' : Hid _ := HB
 have HX : Hid _ := X
 have HD : Hid _ := And.intro dd (And.intro hn1 (And.intro a1 a2))
 clear X HA HB dd hn1 a1 a2
 generalize hT : zA1 zBr c.1 = T at C1 hcnt
 go_enter Tryz.func41, Tryz.ntmps41
 go_wp2_with fail
 refine C1.mono ?_
 rintro e w1 ⟨rfl, p1, p2⟩
 obtain ⟨dd, hn1, a1, a2⟩ := HD.out
 have X1 := (p2.block w.heap.size (by simp) hn1).trans HX.out
 have B1 := zAO HB'.out p2 dd.symm
 obtain ⟨x0, x1⟩ := zBc X1
 have HP : Hid _ := And.intro p1 p2
 have HB1 : Hid _ := B1
 clear p1 p2 B1 C1 X1 HB' HX
 go_wp2_with fail
 refine (zCi (Old w S2) _ _ c.2 _ (by omega) (by omega) (by omega) HB1.out).mono ?_
 rintro e w2 ⟨rfl, q1, q2⟩
 obtain ⟨p1, p2⟩ := HP.out
 have HF : Hid _ := And.intro (zAO p1 q2 dd) (And.intro q1 (zEj ((p2.mono (zB6.trans a1)).trans (q2.mono (zB6.trans a2)))))
 clear p1 p2 q1 q2 x0 x1 HP HB1
 go_wp2
 go_ret
 obtain ⟨r1, r2, r3⟩ := HF.out
 have hE : (k : Int) + (T : Int) + (zA1 zBx c.2 : Int) = k + (cntC c : Int) := by omega
 refine ⟨zAW hE, ⟨[_], [_], Old w S1, Old w S2, rfl, ?_, ?_, zB6.trans a1, zB6.trans a2, dd⟩, r3⟩
 ·have : (zMR k c).1.length = c.1.length := zBF _ _ _
  exact r1
 ·have e2 : (zMR k c).2 = zBw zBx (k + (T : Int)) c.2 := by rw [← hT]; rfl
  rw [e2]
  exact r2
theorem zKq (S : zAX) (l s : Int) (v : Value) (k : Int) (d : List Int) (w : World) (h0 : 0 ≤ k) (h1 : k ≤ 72057594037927936) (hm : zA1 zBx d ≤ 72057594037927936) (h : zA5.own w S [v] d) :
    Calls Tryz.prog 43 #[.agg #[.int .i64 l, .int .i64 s, v], .int .i64 k] w fun e' w' => e' = .returned (.int .i64 (k + zA1 zBx d)) ∧ zA5.own w' S [v] (zBw zBx k d) ∧ Chg S w w' := by
 obtain ⟨a, ca, rfl⟩ := zBD h
 have HA := zBQ (.cells #[.int .i64 l, .int .i64 s, .slice a d.length ca] 39) h
 have C1 := zCi S _ k d _ h0 (by omega) (by omega) HA
 clear h HA
 go_enter Tryz.func43, Tryz.ntmps43
 go_wp2_with fail
 refine C1.mono ?_
 rintro e w1 ⟨rfl, p1, p2⟩
 have p3 := zEj p2
 clear p2 C1
 go_wp2
 go_ret
 exact ⟨rfl, p1, p3⟩
theorem zIm (a b : Option Addr) (ca cb : Nat) (k : Int) (c : List (List (Int × Int × List Int)) × List Int) (w : World) (h0 : 0 ≤ k) (h1 : k ≤ 72057594037927936) (hm : cntC c ≤ 72057594037927936) (hln : c.1.length ≤ 72057594037927936) (r1 : zBh zBl w a (zMR k c).1) (r2 : zBh zBC w b (zMR k c).2) :
    Calls Tryz.prog 45 #[.agg #[.slice a c.1.length ca, .slice b c.2.length cb], .int .i64 k] w fun e' w' => e' = .returned (.int .i64 (k + cntC c)) ∧ Below w.heap.size w w' := by
 have hcnt : cntC c = zA1 zBr c.1 + zA1 zBx c.2 := rfl
 have B := zAf w (.cells #[.slice a c.1.length ca, .slice b c.2.length cb] 37)
 have X := zAy w (.cells #[.slice a c.1.length ca, .slice b c.2.length cb] 37)
 have C1 := zIk a ca k c.1 _ h0 (by omega) (by omega) (by omega) (zAG r1 B)
 have R2 : Hid (zBh zBC (w.alloc (.cells #[.slice a c.1.length ca, .slice b c.2.length cb] 37)) b (zBw zBx (k + zA1 zBr c.1) c.2)) := zAG r2 B
 clear r1 r2
 generalize hT : zA1 zBr c.1 = T at C1 hcnt R2
 have n1 : ¬ (k + (T : Int) < 0) := by omega
 have n2 : ¬ (k + (T : Int) + (zA1 zBx c.2 : Int) < 0) := by omega
 have hE : Hid ((k : Int) + (T : Int) + (zA1 zBx c.2 : Int) = k + (cntC c : Int)) := by unfold Hid; omega
 obtain ⟨x0, x1⟩ := zBc X
 go_enter Tryz.func45, Tryz.ntmps45
 go_wp2_with fail
 refine C1.mono ?_
 rintro e w1 ⟨rfl, hw1⟩
 rw [hw1]
 clear hw1 w1
 go_wp2_with fail
 refine (zC6 b cb _ c.2 _ (by omega) (by omega) (by omega) R2.out).mono ?_
 rintro e w2 ⟨rfl, hw2⟩
 rw [hw2]
 clear hw2 w2
 go_wp2
 go_ret
 exact ⟨zAW hE.out, B⟩
theorem zKr (l s : Int) (a : Option Addr) (ca : Nat) (k : Int) (d : List Int) (w : World) (h0 : 0 ≤ k) (h1 : k ≤ 72057594037927936) (hm : zA1 zBx d ≤ 72057594037927936) (r : zBh zBC w a (zBw zBx k d)) :
    Calls Tryz.prog 47 #[.agg #[.int .i64 l, .int .i64 s, .slice a d.length ca], .int .i64 k] w fun e' w' => e' = .returned (.int .i64 (k + zA1 zBx d)) ∧ Below w.heap.size w w' := by
 have B := zAf w (.cells #[.int .i64 l, .int .i64 s, .slice a d.length ca] 39)
 have C1 := zC6 a ca k d _ h0 (by omega) (by omega) (zAG r B)
 have n2 : ¬ (k + (zA1 zBx d : Int) < 0) := by omega
 clear r
 go_enter Tryz.func47, Tryz.ntmps47
 go_wp2_with fail
 refine C1.mono ?_
 rintro e w1 ⟨rfl, hw1⟩
 rw [hw1]
 clear hw1 w1
 go_wp2
 go_ret
 exact ⟨rfl, B⟩
section
variable {α : Type}
end
theorem zIn {S : zAX} {w : World} {l s : Int} {v : Value} {u : zAU} (h : zAS.own w S [.int .i64 l, .int .i64 s, v] u) : zA5.own w S [v] u.2.2 := by
 obtain ⟨v', e, _, _, ho⟩ := zHY h
 simp only [List.cons.injEq, and_true] at e
 rw [e.2.2]
 exact ho
theorem bd_way : Bd zBE 3 := zDi zDh (zDi zDh (bd_sl zDh))
end Go.Proofs.YtoihjejenjcokaaGreatDoor
