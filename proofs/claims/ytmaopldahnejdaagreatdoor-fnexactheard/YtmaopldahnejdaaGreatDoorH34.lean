import Derived.Test.YtmaopldahnejdaaGreatDoorH00Box
import Derived.Test.YtmaopldahnejdaaGreatDoorH33
namespace Go.Proofs.YtmaopldahnejdaaGreatDoor
open Go.ChangeShapes Go.WideShapes Go.ChangeAt Go.RowKit
set_option linter.unusedVariables false
set_option linter.unusedSimpArgs false
def EndC (a : AccD) : Prop := a.1.length ≤ 1048576 ∧ whoB a.2.1 a.2.2.1 = true ∧ (1 ≤ a.2.2.2.2.1 ∧ a.2.2.2.2.1 ≤ 4) ∧ (a.2.2.2.2.1 = 1 → betw a.2.2.2.2.2.1 0 3 = true) ∧ (3 ≤ a.2.2.2.2.1 → a.2.2.2.2.2.1 = 5) ∧ (a.2.2.2.2.1 = 4 → isL a.1 = true ∧ isL a.2.2.2.2.2.2.2.2 = true ∧ betw a.2.2.2.2.2.2.2.1 0 3 = true)
def EndQ (t g mb mc bb bc k : Nat) (x : HouseD) : Prop := ∀ B W a, HK t g mb mc bb bc k x B W a → EndC a → Calls Tryz.prog 124 #[.pointer (some ⟨g, 0, none⟩), .int .i64 k] W fun e w' => ∃ ms, e = .returned ms ∧ SQ t g mb mc bb bc k x W (endA k a).1 (endA k a).2 ms w'
theorem fg_row {w : World} {b q off : Nat} {ob : Obj} {o s c : Int} (h : w.heap[q]? = some ob) (hq : q ≠ b) : (fgW w b off o s c).heap[q]? = some ob := by
 unfold fgW;split
 ·exact heap_setC (heap_setC h hq) hq
 ·exact heap_setC h hq
set_option maxHeartbeats 8000000 in
set_option maxRecDepth 20000 in
theorem l13Answer_yes {t g mb mc bb bc k B : Nat} {x : HouseD} (ws : List Int) (o s : Int) (kd f l mk : Int) (d : List Int) (r c tq n gg : Int) (dt : List Int) (ma : Option Addr) (mc2 : Nat) (w : World) (h : HK t g mb mc bb bc k x B w (ws, (o, s, true, kd, f, l, mk, d))) (hd : Hid (∀ W, Below t w W → SlRd intR W ma dt)) (hm : dt.length ≤ 1048576) (hw : whoB o s = true) (c0 : 0 ≤ c) (c3 : c ≤ 3) (hho : holB o s c = true) (hl : 0 < l) (hec : EndC (toldW ws dt, ansE (o, s, true, kd, f, l, mk, d) c gg)) (HE : Hid (EndQ t g mb mc bb bc k x)) :
    Calls Tryz.prog 98 #[.pointer (some ⟨g, 0, none⟩), .agg #[nI r, nI c, nI tq, nI n, nI k, sL ma dt.length mc2, nI gg]] w fun e w' => ∃ ms, e = .returned (.tuple #[ms, nI 1]) ∧ SQ t g mb mc bb bc k x w (ansA k (ws, (o, s, true, kd, f, l, mk, d)) (r, c, tq, n, (k : Int), dt, gg)).1 (ansA k (ws, (o, s, true, kd, f, l, mk, d)) (r, c, tq, n, (k : Int), dt, gg)).2 ms w' := by
 have dC := who_bd hw;have qA := (hk_ei h).2.2.2.2.1;simp only at qA
 obtain ⟨bC, qA⟩ := qA;have dB := h.2.2.2.2.1;have YA := h.2.2.2.2.2.1;have ZB : (k : Int) < (x.1.length : Int) := by omega
 have TB : (k : Int) < (x.2.length : Int) := by omega
 have FA := hk_b_lt h;have pB := hk_ei h;simp only at pB
 have tw : t ≤ w.heap.size := by omega
 have LB : B ≤ w.heap.size := FA.2.2;have lB : bb < w.heap.size := by omega
 have eC : mb < w.heap.size := by have := hk_m_lt h; omega
 have SB : g < w.heap.size := by have := h.2.2.1; omega
 have i := Below.refl t w;clear dB YA FA;go_enter Tryz.func98, Tryz.ntmps98;go_upto_region 1 with fail
 have X := heap_at w (.cells #[nI r, nI c, nI tq, nI n, nI k, sL ma dt.length mc2, nI gg] 30);have bq := box_below w (.cells #[nI r, nI c, nI tq, nI n, nI k, sL ma dt.length mc2, nI gg] 30);have ZA := lE (alloc_len w (.cells #[nI r, nI c, nI tq, nI n, nI k, sL ma dt.length mc2, nI gg] 30)).symm;have bB := bq.size;replace i := belowT i bq (hk_tw h);replace h := hk_keep h bq;clear bq;generalize w.alloc (.cells #[nI r, nI c, nI tq, nI n, nI k, sL ma dt.length mc2, nI gg] 30) = w0 at bB ZA h i X ⊢;obtain ⟨wa, wc, da, dc, ⟨N, G1⟩, y, ⟨p, m, J, I, E, F, H, G⟩, ⟨D, -⟩, ⟨A, z⟩, C, a, Z, R⟩ := hk_cells h;have M := a (k * 8);have L := a (k * 8 + 1);have F2 := a (k * 8 + 2);have T := a (k * 8 + 3);have V := a (k * 8 + 4);have S := a (k * 8 + 5);have U := a (k * 8 + 6);have F7 := a (k * 8 + 7);have Y := C k;simp only at y p m J I E F H G D A z
 obtain ⟨Xc0, Xc1, Xc2, Xc3, Xc4, Xc5, Xc6⟩ := cells_7 X;obtain ⟨Xf0, Xf1, Xf2, Xf3, Xf4, Xf5, Xf6⟩ := froz_7 X;have Xlt := (ltH X);go_region
 go_upto_region 2 with fail
 clear N G1 y p m J I E F H G D A z C a M L F2 T V S U F7 Y Z R Xc0 Xc1 Xc2 Xc3 Xc4 Xc5 Xc6 Xf0 Xf1 Xf2 Xf3 Xf4 Xf5 Xf6 Xlt;replace h := hk_drew h;replace i := i.drew;replace X := heap_drewS X;have mA : w0.heap.size ≤ w0.drew.heap.size := Nat.le_refl _;generalize w0.drew = w1 at mA h i X ⊢;have zl : (l == 0) = false := beq_false_of_ne (by omega);have MA : Hid (decide (c ∈ hoI o s) = true) := by
  unfold Hid;rw [sp_mem hw c0 (by omega)];exact hho
 obtain ⟨wa, wc, da, dc, ⟨N, G1⟩, y, ⟨p, m, J, I, E, F, H, G⟩, ⟨D, -⟩, ⟨A, z⟩, C, a, Z, R⟩ := hk_cells h;have M := a (k * 8);have L := a (k * 8 + 1);have F2 := a (k * 8 + 2);have T := a (k * 8 + 3);have V := a (k * 8 + 4);have S := a (k * 8 + 5);have U := a (k * 8 + 6);have F7 := a (k * 8 + 7);have Y := C k;simp only at y p m J I E F H G D A z
 obtain ⟨Xc0, Xc1, Xc2, Xc3, Xc4, Xc5, Xc6⟩ := cells_7 X;obtain ⟨Xf0, Xf1, Xf2, Xf3, Xf4, Xf5, Xf6⟩ := froz_7 X;have Xlt := (ltH X);go_cut [35] (fun q wx => q = .bool false ∧ HK t g mb mc bb bc k x B wx (ws, (o, s, true, kd, f, l, mk, d)) ∧ wx.heap[w.heap.size]? = some (.cells #[nI r, nI c, nI tq, nI n, nI k, sL ma dt.length mc2, nI gg] 30 (0, 0)) ∧ Below t w wx ∧ w0.heap.size ≤ wx.heap.size)
 case first =>
  have b : Hid _ := aI h (aI X (aI i mA));have KX : Hid (∀ wx, Bl w1 wx → wx.cell? ⟨w.heap.size, 0, none⟩ = some (nI r) ∧ wx.cell? ⟨w.heap.size, 1, none⟩ = some (nI c) ∧ wx.cell? ⟨w.heap.size, 2, none⟩ = some (nI tq) ∧ wx.cell? ⟨w.heap.size, 3, none⟩ = some (nI n) ∧ wx.cell? ⟨w.heap.size, 4, none⟩ = some (nI k) ∧ wx.cell? ⟨w.heap.size, 5, none⟩ = some (sL ma dt.length mc2) ∧ wx.cell? ⟨w.heap.size, 6, none⟩ = some (nI gg)) := fun wx hh => cells_7 (row_keep hh X);have Q0 : Hid (Bl w1 w1.drew) := (Below.refl w1.heap.size w1).drew;skip
  clear h X i C a Y M L F2 T V S U F7 D A z Z R N G1 y;first | (go_region_with (first | (go_at_call 41; refine (l10Holders_any o s kd f l mk _ d da dc _ hw).mono ?_; rintro e w5 ⟨vv, rfl, g5, c5, rfl, l5, m5, o5, bq⟩; have Q1 : Hid (Bl w1 w5) := below_step Q0.out bq; have R5 : Hid (Reads w5 (some ⟨g5, 0, none⟩) (hoI o s)) := reads_owni o5; clear bq o5 l5 m5; obtain ⟨Xd0, Xd1, Xd2, Xd3, Xd4, Xd5, Xd6⟩ := KX.out _ Q1.out) | (go_at_call 126; refine (l1Has_any _ (hoI o s) _ c _ R5.out (by have := hoI_len o s; omega)).mono ?_; rintro e w6 ⟨rfl, KA⟩; rw [KA, MA.out]; clear KA w6) | fail)) | fail
  all_goals
   go_wp2_with fail
   go_meet
   exact ⟨rfl, hk_keep b.out.1 Q1.out, row_keep Q1.out b.out.2.1, belowT b.out.2.2.1 Q1.out (hk_tw b.out.1), Nat.le_trans b.out.2.2.2 Q1.out.size⟩
 case rest =>
  clear h X i N G1 y p m J I E F H G D A z C a M L F2 T V S U F7 Y Z R Xc0 Xc1 Xc2 Xc3 Xc4 Xc5 Xc6 Xf0 Xf1 Xf2 Xf3 Xf4 Xf5 Xf6 Xlt;obtain ⟨rfl, h, X, i, zA⟩ := hcut;generalize wc = w2 at h X i zA ⊢;obtain ⟨wa, wc, da, dc, ⟨N, G1⟩, y, ⟨p, m, J, I, E, F, H, G⟩, ⟨D, -⟩, ⟨A, z⟩, C, a, Z, R⟩ := hk_cells h;have M := a (k * 8);have L := a (k * 8 + 1);have F2 := a (k * 8 + 2);have T := a (k * 8 + 3);have V := a (k * 8 + 4);have S := a (k * 8 + 5);have U := a (k * 8 + 6);have F7 := a (k * 8 + 7);have Y := C k;simp only at y p m J I E F H G D A z
  obtain ⟨Xc0, Xc1, Xc2, Xc3, Xc4, Xc5, Xc6⟩ := cells_7 X;obtain ⟨Xf0, Xf1, Xf2, Xf3, Xf4, Xf5, Xf6⟩ := froz_7 X;have Xlt := (ltH X);go_upto_if 40 with fail
  go_cut [6] (fun q wx => q = .pointer (some ⟨bb, k * 8, none⟩) ∧ ∃ B9, B ≤ B9 ∧ HK t g mb mc bb bc k x B9 wx (toldW ws dt, (o, s, true, kd, f, l, mk, d)) ∧ wx.heap[w.heap.size]? = some (.cells #[nI r, nI c, nI tq, nI n, nI k, sL ma dt.length mc2, nI gg] 30 (0, 0)) ∧ Below t w wx)
  case first =>
   by_cases qd : dt.length = 0
   ·have zq : ¬ ((0 : Int) < (dt.length : Int)) := by omega
    have b : Hid _ := aI h (aI X i);have HT : Hid (toldW ws dt = ws) := by unfold Hid toldW; rw [if_pos qd]
    clear h X i qd;go_wp2_with fail
    go_meet
    exact ⟨rfl, B, Nat.le_refl _, by rw [HT.out]; exact b.out.1, b.out.2⟩
   ·have zq : (0 : Int) < (dt.length : Int) := by omega
    have HT : Hid (toldW ws dt = dt) := by unfold Hid toldW; rw [if_neg qd]
    clear qd;go_upto_region 5 with fail
    obtain ⟨fB, NB⟩ := hk_ne h;have DA : ¬ w.heap.size = mb := by omega
    have b : Hid _ := aI h (aI X i);have K : Hid (∀ wx, Bl w2 wx → wx.cell? ⟨g, 0, none⟩ = some (sL (some ⟨mb, 0, none⟩) x.1.length mc) ∧ wx.cell? ⟨w.heap.size, 4, none⟩ = some (nI k) ∧ wx.cell? ⟨w.heap.size, 5, none⟩ = some (sL ma dt.length mc2)) := fun wx hh => ⟨cell_keep hh N (cell_lt N), cell_keep hh Xc4 (cell_lt Xc4), cell_keep hh Xc5 (cell_lt Xc5)⟩;have Q0 : Hid (Bl w2 w2.drew) := (Below.refl w2.heap.size w2).drew;have cB : Hid _ := K.out _ Q0.out;have KM : Hid (∀ wx, Bl w2 wx → wx.cell? ⟨mb, k, none⟩ = some (sL wa ws.length wc)) := fun wx hh => cell_keep hh y (cell_lt y);clear h X i N G1 y p m J I E F H G D A z C a M L F2 T V S U F7 Y Z R Xc0 Xc1 Xc2 Xc3 Xc4 Xc5 Xc6 Xf0 Xf1 Xf2 Xf3 Xf4 Xf5 Xf6 Xlt;first | (go_region_held3 (fun wx => wx.cell? ⟨g, 0, none⟩ = some (sL (some ⟨mb, 0, none⟩) x.1.length mc) ∧ wx.cell? ⟨w.heap.size, 4, none⟩ = some (nI k) ∧ wx.cell? ⟨w.heap.size, 5, none⟩ = some (sL ma dt.length mc2)) (first | (with_reducible exact cB.out) | (with_reducible exact jA.out) | (with_reducible exact mB.out) | fail) (first | (go_at_call 95; refine (l1Copy_rep ma dt mc2 _ (hd.out _ (b.out.2.2.drew)) hm).mono ?_; rintro e w9 ⟨v, rfl, mr⟩; obtain ⟨ra, rc, rfl⟩ := slown_val mr.1; have Q1 : Hid (Bl w2 w9) := below_step Q0.out mr.2; have jA : Hid _ := K.out _ Q1.out; have nB : Hid _ := mr.1; have VB : w9.frozen? ⟨mb, k, none⟩ = false := hk_fm (hk_keep b.out.1 Q1.out); have M9 := KM.out _ Q1.out; have mB : Hid ((w9.setCell ⟨mb, k, none⟩ (sL ra dt.length rc)).cell? ⟨g, 0, none⟩ = some (sL (some ⟨mb, 0, none⟩) x.1.length mc) ∧ (w9.setCell ⟨mb, k, none⟩ (sL ra dt.length rc)).cell? ⟨w.heap.size, 4, none⟩ = some (nI k) ∧ (w9.setCell ⟨mb, k, none⟩ (sL ra dt.length rc)).cell? ⟨w.heap.size, 5, none⟩ = some (sL ma dt.length mc2)) := ⟨hcs1 fB jA.out.1, hcs1 DA jA.out.2.1, hcs1 DA jA.out.2.2⟩; clear mr) | fail)) | fail
    go_wp2_with fail
    go_meet
    exact ⟨rfl, w9.heap.size, Nat.le_trans b.out.1.2.2.2.1 Q1.out.size, by rw [HT.out]; exact hk_w (hk_keep b.out.1 Q1.out) (Nat.le_trans b.out.1.2.2.2.1 Q1.out.size) (Nat.le_refl _) nB.out (fun j (q : rng w2.drew.heap.size w9.heap.size j) => ⟨Nat.le_trans b.out.1.2.2.2.1 q.1, q.2⟩), heap_setC (g := mb) (o := k) (v := (sL ra dt.length rc)) (row_keep Q1.out b.out.2.1) (by omega), below_setC (g := mb) (o := k) (v := (sL ra dt.length rc)) (belowT b.out.2.2 Q1.out (hk_tw b.out.1)) (hk_m_lt b.out.1).1⟩
  case rest =>
   clear h X i N G1 y p m J I E F H G D A z C a M L F2 T V S U F7 Y Z R Xc0 Xc1 Xc2 Xc3 Xc4 Xc5 Xc6 Xf0 Xf1 Xf2 Xf3 Xf4 Xf5 Xf6 Xlt;obtain ⟨rfl, B3, rB, h, X, i⟩ := hcut;generalize wc = w3 at h X i ⊢;obtain ⟨e1, e2⟩ := fg_in hw (show betw c 0 3 = true from by unfold betw; simp; omega);have eh := ans_held hw c0 c3 hho;obtain ⟨s3, gA⟩ : ∃ s3 : Int, s3 = if letgoB (o, s, true, kd, f, l, mk, d) gg then fgS s c else orI (fgS s c) c := ⟨_, rfl⟩
   have qB : Hid _ := gA;have aC : bb < w.heap.size := lB;have rB := hk_b_lt h;obtain ⟨wa, wc, da, dc, ⟨N, G1⟩, y, ⟨p, m, J, I, E, F, H, G⟩, ⟨D, -⟩, ⟨A, z⟩, C, a, Z, R⟩ := hk_cells h;have M := a (k * 8);have L := a (k * 8 + 1);have F2 := a (k * 8 + 2);have T := a (k * 8 + 3);have V := a (k * 8 + 4);have S := a (k * 8 + 5);have U := a (k * 8 + 6);have F7 := a (k * 8 + 7);have Y := C k;simp only at y p m J I E F H G D A z
   obtain ⟨Xc0, Xc1, Xc2, Xc3, Xc4, Xc5, Xc6⟩ := cells_7 X;obtain ⟨Xf0, Xf1, Xf2, Xf3, Xf4, Xf5, Xf6⟩ := froz_7 X;have Xlt := (ltH X);go_upto_block 0 with fail
   go_cut [6] (fun q wx => q = .pointer (some ⟨bb, k * 8, none⟩) ∧ HK t g mb mc bb bc k x B3 wx (toldW ws dt, (fgO o c, s3, true, kd, f, l, mk, d)) ∧ wx.heap[w.heap.size]? = some (.cells #[nI r, nI c, nI tq, nI n, nI k, sL ma dt.length mc2, nI gg] 30 (0, 0)) ∧ Below t w wx)
   case first =>
    clear hec HE;by_cases ql : letgoB (o, s, true, kd, f, l, mk, d) gg = true
    ·have HS : Hid (s3 = fgS s c) := by unfold Hid; rw [gA, if_pos ql]
     clear gA;have HW : Hid ((gg == 1) = true ∨ ((gg == 1) = false ∧ (kd == 2) = true) ∨ ((gg == 1) = false ∧ (kd == 2) = false ∧ (kd == 4) = true)) := by
      unfold Hid;have q : (decide (gg = 1) || (decide (kd = 2) || decide (kd = 4))) = true := ql;simp only [Bool.or_eq_true, decide_eq_true_eq] at q;by_cases g1 : gg = 1
      ·exact .inl (by simp [g1])
      ·by_cases k2 : kd = 2
       ·exact .inr (.inl ⟨by simp [g1], by simp [k2]⟩)
       ·exact .inr (.inr ⟨by simp [g1], by simp [k2], by simp; omega⟩)
     clear ql;obtain ⟨h2, b2, r2⟩ := hk_fg h hw (show betw c 0 3 = true from by unfold betw; simp; omega);simp only at h2 b2 r2
     have X2 : (fgW w3 bb (k * 8) o s c).heap[w.heap.size]? = _ := fg_row X (by omega);have b : Hid _ := aI h2 (aI X2 (i.trans b2));clear h2 b2 r2 X2 h X i;rcases HW.out with z1 | ⟨z1, z2⟩ | ⟨z1, z2, z3⟩
     ·skip
      go_wp2_with fail
      refine (l10Forget_any bb (k * 8) o s c _ p m M L).mono ?_;clear N G1 y p m J I E F H G D A z C a M L F2 T V S U F7 Y Z R Xc0 Xc1 Xc2 Xc3 Xc4 Xc5 Xc6 Xf0 Xf1 Xf2 Xf3 Xf4 Xf5 Xf6 Xlt;rintro e w9 ⟨rfl, O⟩;rw [O];clear O w9;go_wp2_with fail
      go_meet
      exact ⟨rfl, by rw [HS.out]; exact b.out.1, b.out.2⟩
     ·skip
      go_wp2_with fail
      refine (l10Forget_any bb (k * 8) o s c _ p m M L).mono ?_;clear N G1 y p m J I E F H G D A z C a M L F2 T V S U F7 Y Z R Xc0 Xc1 Xc2 Xc3 Xc4 Xc5 Xc6 Xf0 Xf1 Xf2 Xf3 Xf4 Xf5 Xf6 Xlt;rintro e w9 ⟨rfl, O⟩;rw [O];clear O w9;go_wp2_with fail
      go_meet
      exact ⟨rfl, by rw [HS.out]; exact b.out.1, b.out.2⟩
     ·skip
      go_wp2_with fail
      refine (l10Forget_any bb (k * 8) o s c _ p m M L).mono ?_;clear N G1 y p m J I E F H G D A z C a M L F2 T V S U F7 Y Z R Xc0 Xc1 Xc2 Xc3 Xc4 Xc5 Xc6 Xf0 Xf1 Xf2 Xf3 Xf4 Xf5 Xf6 Xlt;rintro e w9 ⟨rfl, O⟩;rw [O];clear O w9;go_wp2_with fail
      go_meet
      exact ⟨rfl, by rw [HS.out]; exact b.out.1, b.out.2⟩
    ·have HS : Hid (s3 = orI (fgS s c) c) := by unfold Hid; rw [gA, if_neg ql]
     clear gA;have HW : (gg == 1) = false ∧ (kd == 2) = false ∧ (kd == 4) = false := by
      have q : ¬ (decide (gg = 1) || (decide (kd = 2) || decide (kd = 4))) = true := ql;simp only [Bool.or_eq_true, decide_eq_true_eq, not_or] at q;exact ⟨by simp [q.1], by simp [q.2.1], by simp [q.2.2]⟩
     clear ql;obtain ⟨z1, z2, z3⟩ := HW;by_cases qo : o = c
     ·rw [if_pos qo, Prod.mk.injEq] at eh;have fA : Hid _ := eh;clear eh e1 e2;have zo : (o == c) = true := by simp [qo]
      go_upto_region 8 with fail
      go_region
      go_upto_region 10 with fail
      clear N G1 y p m J I E F H G D A z C a M L F2 T V S U F7 Y Z R Xc0 Xc1 Xc2 Xc3 Xc4 Xc5 Xc6 Xf0 Xf1 Xf2 Xf3 Xf4 Xf5 Xf6 Xlt;have iA := hk_b_lt h;replace X := heap_setC (g := bb) (o := k * 8) (v := (nI (-1))) X (by omega);replace i := below_setC (g := bb) (o := k * 8) (v := (nI (-1))) i iA.1;replace h := hk_o (n := -1) h (by constructor <;> decide);clear iA;have JA : w3.heap.size ≤ (w3.setCell ⟨bb, k * 8, none⟩ (nI (-1))).heap.size := by simp
      generalize w3.setCell ⟨bb, k * 8, none⟩ (nI (-1)) = w4 at JA h i X ⊢;replace h := hk_drew h;replace i := i.drew;replace X := heap_drewS X;have GA : w4.heap.size ≤ w4.drew.heap.size := Nat.le_refl _;generalize w4.drew = w5 at GA h i X ⊢;simp only at h
      obtain ⟨wa, wc, da, dc, ⟨N, G1⟩, y, ⟨p, m, J, I, E, F, H, G⟩, ⟨D, -⟩, ⟨A, z⟩, C, a, Z, R⟩ := hk_cells h;have M := a (k * 8);have L := a (k * 8 + 1);have F2 := a (k * 8 + 2);have T := a (k * 8 + 3);have V := a (k * 8 + 4);have S := a (k * 8 + 5);have U := a (k * 8 + 6);have F7 := a (k * 8 + 7);have Y := C k;simp only at y p m J I E F H G D A z
      obtain ⟨Xc0, Xc1, Xc2, Xc3, Xc4, Xc5, Xc6⟩ := cells_7 X;obtain ⟨Xf0, Xf1, Xf2, Xf3, Xf4, Xf5, Xf6⟩ := froz_7 X;have Xlt := (ltH X);have IA : Hid (In64 (withI s c)) := by unfold Hid; rw [fA.out.2]; exact or_smallS hw (show betw c 0 3 = true from by unfold betw; simp; omega)
      first | (go_region_with (first | (go_at_call 127; refine (specWith_any _ _ _).mono ?_; rintro e w9 ⟨rfl, O⟩; rw [O]; clear O w9) | fail)) | fail
      all_goals
       clear N G1 y p m J I E F H G D A z C a M L F2 T V S U F7 Y Z R Xc0 Xc1 Xc2 Xc3 Xc4 Xc5 Xc6 Xf0 Xf1 Xf2 Xf3 Xf4 Xf5 Xf6 Xlt;have b : Hid _ := aI (hk_drew (hk_s h IA.out)) (aI (heap_drewS (heap_setC (g := bb) (o := k * 8 + 1) (v := nI (withI s c)) X (by omega))) (below_setC (g := bb) (o := k * 8 + 1) (v := nI (withI s c)) i (hk_b_lt h).1).drew);clear h X i;go_wp2_with fail
       go_meet
       exact ⟨rfl, by rw [HS.out, ← fA.out.1, ← fA.out.2]; exact b.out.1, b.out.2⟩
     ·rw [if_neg qo, Prod.mk.injEq] at eh;have fA : Hid _ := eh;clear eh e1 e2;have zo : (o == c) = false := by simp [qo]
      have b : Hid _ := aI (hk_drew h) (aI (heap_drewS X) i.drew);clear h X i qo;go_upto_region 8 with fail
      go_region
      go_wp2_with fail
      go_meet
      exact ⟨rfl, by rw [HS.out, ← fA.out.1, ← fA.out.2]; exact b.out.1, b.out.2⟩
   case rest =>
    clear h X i N G1 y p m J I E F H G D A z C a M L F2 T V S U F7 Y Z R Xc0 Xc1 Xc2 Xc3 Xc4 Xc5 Xc6 Xf0 Xf1 Xf2 Xf3 Xf4 Xf5 Xf6 Xlt;obtain ⟨rfl, h, X, i⟩ := hcut;generalize wc = w6 at h X i ⊢;obtain ⟨wa, wc, da, dc, ⟨N, G1⟩, y, ⟨p, m, J, I, E, F, H, G⟩, ⟨D, -⟩, ⟨A, z⟩, C, a, Z, R⟩ := hk_cells h;have M := a (k * 8);have L := a (k * 8 + 1);have F2 := a (k * 8 + 2);have T := a (k * 8 + 3);have V := a (k * 8 + 4);have S := a (k * 8 + 5);have U := a (k * 8 + 6);have F7 := a (k * 8 + 7);have Y := C k;simp only at y p m J I E F H G D A z
    obtain ⟨Xc0, Xc1, Xc2, Xc3, Xc4, Xc5, Xc6⟩ := cells_7 X;obtain ⟨Xf0, Xf1, Xf2, Xf3, Xf4, Xf5, Xf6⟩ := froz_7 X;have Xlt := (ltH X);go_upto_region 12 with fail
    clear N G1 y p m J I E F H G D A z C a M L F2 T V S U F7 Y Z R Xc0 Xc1 Xc2 Xc3 Xc4 Xc5 Xc6 Xf0 Xf1 Xf2 Xf3 Xf4 Xf5 Xf6 Xlt;have MB := hk_b_lt h;have iA := hk_b_lt h;replace X := heap_setC (g := bb) (o := k * 8 + 5) (v := (nI (l - 1))) X (by omega);replace i := below_setC (g := bb) (o := k * 8 + 5) (v := (nI (l - 1))) i iA.1;replace h := hk_l (n := l - 1) h ⟨by omega, by omega⟩;clear iA;have BA : w6.heap.size ≤ (w6.setCell ⟨bb, k * 8 + 5, none⟩ (nI (l - 1))).heap.size := by simp
    generalize w6.setCell ⟨bb, k * 8 + 5, none⟩ (nI (l - 1)) = w7 at BA h i X ⊢;simp only at h
    have HA : Hid ((toldW ws dt, (fgO o c, s3, true, kd, f, l - 1, mk, d)) = (toldW ws dt, ansE (o, s, true, kd, f, l, mk, d) c gg)) := by
     unfold Hid ansE;rw [qB.out];split <;> rfl
    by_cases q9 : 0 < l - 1
    ·have pA : Hid (ansA k (ws, (o, s, true, kd, f, l, mk, d)) (r, c, tq, n, (k : Int), dt, gg) = ((toldW ws dt, ansE (o, s, true, kd, f, l, mk, d) c gg), [])) := if_pos q9;obtain ⟨wa, wc, da, dc, ⟨N, G1⟩, y, ⟨p, m, J, I, E, F, H, G⟩, ⟨D, -⟩, ⟨A, z⟩, C, a, Z, R⟩ := hk_cells h;have M := a (k * 8);have L := a (k * 8 + 1);have F2 := a (k * 8 + 2);have T := a (k * 8 + 3);have V := a (k * 8 + 4);have S := a (k * 8 + 5);have U := a (k * 8 + 6);have F7 := a (k * 8 + 7);have Y := C k;simp only at y p m J I E F H G D A z
     obtain ⟨Xc0, Xc1, Xc2, Xc3, Xc4, Xc5, Xc6⟩ := cells_7 X;obtain ⟨Xf0, Xf1, Xf2, Xf3, Xf4, Xf5, Xf6⟩ := froz_7 X;have Xlt := (ltH X);go_wp2;go_ret2
     clear N G1 y p m J I E F H G D A z C a M L F2 T V S U F7 Y Z R Xc0 Xc1 Xc2 Xc3 Xc4 Xc5 Xc6 Xf0 Xf1 Xf2 Xf3 Xf4 Xf5 Xf6 Xlt;rw [pA.out];have OA := box_below w7 (.cells #[] 30);rw [HA.out] at h;exact ⟨_, rfl, B3, hk_keep h OA, msgs_nil h.2.2.2.1, belowT i OA (hk_tw h)⟩
    ·have pA : Hid (ansA k (ws, (o, s, true, kd, f, l, mk, d)) (r, c, tq, n, (k : Int), dt, gg) = endA k (toldW ws dt, ansE (o, s, true, kd, f, l, mk, d) c gg)) := if_neg q9;have hr := h;rw [HA.out] at hr;have AA : Hid _ := aI hr i;clear hr;obtain ⟨wa, wc, da, dc, ⟨N, G1⟩, y, ⟨p, m, J, I, E, F, H, G⟩, ⟨D, -⟩, ⟨A, z⟩, C, a, Z, R⟩ := hk_cells h;have M := a (k * 8);have L := a (k * 8 + 1);have F2 := a (k * 8 + 2);have T := a (k * 8 + 3);have V := a (k * 8 + 4);have S := a (k * 8 + 5);have U := a (k * 8 + 6);have F7 := a (k * 8 + 7);have Y := C k;simp only at y p m J I E F H G D A z
     obtain ⟨Xc0, Xc1, Xc2, Xc3, Xc4, Xc5, Xc6⟩ := cells_7 X;obtain ⟨Xf0, Xf1, Xf2, Xf3, Xf4, Xf5, Xf6⟩ := froz_7 X;have Xlt := (ltH X);go_wp2_with fail
     refine (HE.out _ _ _ AA.out.1 hec).mono ?_;clear N G1 y p m J I E F H G D A z C a M L F2 T V S U F7 Y Z R Xc0 Xc1 Xc2 Xc3 Xc4 Xc5 Xc6 Xf0 Xf1 Xf2 Xf3 Xf4 Xf5 Xf6 Xlt;rintro e w9 ⟨ms, rfl, B9, k9, m9, b9⟩;have HF : Hid _ := aI k9 (aI m9 (AA.out.2.trans b9));clear k9 m9 b9 h X i;go_wp2;go_ret2
     rw [pA.out];exact ⟨ms, rfl, B9, HF.out⟩
end Go.Proofs.YtmaopldahnejdaaGreatDoor
