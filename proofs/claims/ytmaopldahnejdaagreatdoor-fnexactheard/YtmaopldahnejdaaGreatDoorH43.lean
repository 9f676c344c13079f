import Derived.Test.YtmaopldahnejdaaGreatDoorH00Box
import Derived.Test.YtmaopldahnejdaaGreatDoorH39
import Derived.Test.YtmaopldahnejdaaGreatDoorH42
namespace Go.Proofs.YtmaopldahnejdaaGreatDoor
open Go.ChangeShapes Go.WideShapes Go.ChangeAt Go.RowKit
set_option linter.unusedVariables false
set_option linter.unusedSimpArgs false
theorem may_core {kind : Int} {m : MsgD} (hk : kind = 1 ∨ kind = 2) (c0 : 0 ≤ m.2.1) (c3 : m.2.1 ≤ 3) : mayB kind m = true := by
 unfold mayB askB;rcases hk with rfl | rfl <;> simp [cby, betw, c0, c3]
theorem hd9 {t : Nat} {w w2 : World} {ma : Option Addr} {dt : List Int} (hd : Hid (∀ W, Below t w W → SlRd intR W ma dt)) (b : Below t w w2) : Hid (∀ W, Below t w2 W → SlRd intR W ma dt) := fun W q => hd.out W (b.trans q)
set_option maxHeartbeats 16000000 in
set_option maxRecDepth 20000 in
theorem l13Hear_u {t g mb mc bb bc k B : Nat} {x : HouseD} (ws : List Int) (o s : Int) (bz : Bool) (kd f l mk : Int) (d : List Int) (r c tq n gg : Int) (dt : List Int) (ma : Option Addr) (mc2 : Nat) (w : World) (h : HK t g mb mc bb bc k x B w (ws, (o, s, bz, kd, f, l, mk, d))) (hd : Hid (∀ W, Below t w W → SlRd intR W ma dt)) (hm : dt.length ≤ 1048576) (h7 : msgB (r, c, tq, n, (k : Int), dt, gg) = true) (c0 : 0 ≤ c) (c5 : c ≤ 5) (g0 : 0 ≤ gg) (hdt : dataB dt = true) (he : entB (o, s, bz, kd, f, l, mk, d) = true) (hw : whoB o s = true) (hlz : bz = true → 0 ≤ l) (hl : isL ws = true) (hg64 : In64 gg) (hkk64 : In64 (k : Int)) (HE : Hid (EndQ t g mb mc bb bc k x)) :
    Calls Tryz.prog 49 #[.pointer (some ⟨g, 0, none⟩), .agg #[nI r, nI c, nI tq, nI n, nI k, sL ma dt.length mc2, nI gg]] w fun e w' => ∃ ms, e = .returned (.tuple #[ms, nI (hearS k (ws, (o, s, bz, kd, f, l, mk, d)) (r, c, tq, n, (k : Int), dt, gg)).2.2]) ∧ SQ t g mb mc bb bc k x w (hearS k (ws, (o, s, bz, kd, f, l, mk, d)) (r, c, tq, n, (k : Int), dt, gg)).1 (hearS k (ws, (o, s, bz, kd, f, l, mk, d)) (r, c, tq, n, (k : Int), dt, gg)).2.1 ms w' := by
 have AB := h.2.2.2.2.1;have qB := h.2.2.2.2.2.1;have XB : (k : Int) < (x.1.length : Int) := by omega
 have TB : (k : Int) < (x.2.length : Int) := by omega
 have jB := hk_b_lt h;have tw : t ≤ w.heap.size := by omega
 have MB : B ≤ w.heap.size := jB.2.2;have YB : bb < w.heap.size := by omega
 have aC : mb < w.heap.size := by have := hk_m_lt h; omega
 have L := Below.refl t w;clear AB qB jB;go_enter Tryz.func49, Tryz.ntmps49;go_upto_region 1 with fail
 have X := heap_at w (.cells #[nI r, nI c, nI tq, nI n, nI k, sL ma dt.length mc2, nI gg] 30);have bq := box_below w (.cells #[nI r, nI c, nI tq, nI n, nI k, sL ma dt.length mc2, nI gg] 30);have rB := lE (alloc_len w (.cells #[nI r, nI c, nI tq, nI n, nI k, sL ma dt.length mc2, nI gg] 30)).symm;have HB := bq.size;replace L := belowT L bq (hk_tw h);replace h := hk_keep h bq;clear bq;generalize w.alloc (.cells #[nI r, nI c, nI tq, nI n, nI k, sL ma dt.length mc2, nI gg] 30) = w0 at HB rB h L X ⊢;obtain ⟨wa, wc, da, dc, ⟨N, O⟩, m, ⟨i, b, H, E, y, z, C, A⟩, ⟨G, -⟩, ⟨D, p⟩, F, a, tm, R⟩ := hk_cells h;have M := a (k * 8);have K := a (k * 8 + 1);have F2 := a (k * 8 + 2);have T := a (k * 8 + 3);have Y := a (k * 8 + 4);have S := a (k * 8 + 5);have V := a (k * 8 + 6);have F7 := a (k * 8 + 7);have Z := F k;simp only at m i b H E y z C A G D p
 obtain ⟨Xc0, Xc1, Xc2, Xc3, Xc4, Xc5, Xc6⟩ := cells_7 X;obtain ⟨Xf0, Xf1, Xf2, Xf3, Xf4, Xf5, Xf6⟩ := froz_7 X;have Xlt := (ltH X);go_upto_region 2 with fail
 clear N O m i b H E y z C A G D p F a M K F2 T Y S V F7 Z tm R Xc0 Xc1 Xc2 Xc3 Xc4 Xc5 Xc6 Xf0 Xf1 Xf2 Xf3 Xf4 Xf5 Xf6 Xlt;have I : msgsR.own (w0.alloc (.cells #[] 30)) (rng B (w0.alloc (.cells #[] 30)).heap.size) [sL (some ⟨w0.heap.size, 0, none⟩) 0 0] [] := msgs_nil h.2.2.2.1;have pA := box_below w0 (.cells #[] 30);obtain ⟨ne, fB⟩ : ∃ ne, ne = w0.heap.size := ⟨_, rfl⟩;rw [← fB] at I;rw [← fB];have yB := pA.size;replace L := belowT L pA (hk_tw h);replace h := hk_keep h pA;replace X := row_keep pA X;clear pA;generalize w0.alloc (.cells #[] 30) = w1 at I h L X yB ⊢;clear fB;obtain ⟨wa, wc, da, dc, ⟨N, O⟩, m, ⟨i, b, H, E, y, z, C, A⟩, ⟨G, -⟩, ⟨D, p⟩, F, a, tm, R⟩ := hk_cells h;have M := a (k * 8);have K := a (k * 8 + 1);have F2 := a (k * 8 + 2);have T := a (k * 8 + 3);have Y := a (k * 8 + 4);have S := a (k * 8 + 5);have V := a (k * 8 + 6);have F7 := a (k * 8 + 7);have Z := F k;simp only at m i b H E y z C A G D p
 obtain ⟨Xc0, Xc1, Xc2, Xc3, Xc4, Xc5, Xc6⟩ := cells_7 X;obtain ⟨Xf0, Xf1, Xf2, Xf3, Xf4, Xf5, Xf6⟩ := froz_7 X;have Xlt := (ltH X);go_cut [22] (fun q wx => q = .bool false ∧ HK t g mb mc bb bc k x B wx (ws, (o, s, bz, kd, f, l, mk, d)) ∧ wx.heap[w.heap.size]? = some (.cells #[nI r, nI c, nI tq, nI n, nI k, sL ma dt.length mc2, nI gg] 30 (0, 0)) ∧ Below t w wx ∧ msgsR.own wx (rng B wx.heap.size) [sL (some ⟨ne, 0, none⟩) 0 0] [])
 case first =>
  have oA : Hid _ := aI h (aI X (aI L I));have Q0 : Hid (Bl w1 w1.drew) := (Below.refl w1.heap.size w1).drew;have KX : Hid (∀ wx, Bl w1 wx → wx.cell? ⟨g, 1, none⟩ = some (sL (some ⟨bb, 0, none⟩) x.2.length bc) ∧ wx.cell? ⟨w.heap.size, 4, none⟩ = some (nI k)) := fun wx hh => ⟨cell_keep hh O (cell_lt O), cell_keep hh Xc4 (cell_lt Xc4)⟩;have SB : ¬ (x.2.length ≤ k) := by omega
  clear h X L I F a Z M K F2 T Y S V F7 G D p tm R N m i b H E y z C A;first | (go_region_with (first | (go_at_call 61; refine (specMsg_any r c tq n (k : Int) gg dt ma mc2 _ (hd.out _ oA.out.2.2.1.drew)).mono ?_; rintro e w5 ⟨rfl, bq⟩; rw [h7]; have Q1 : Hid (Bl w1 w5) := below_step Q0.out bq; clear bq; obtain ⟨Gd1, Xd4⟩ := KX.out _ Q1.out) | fail)) | fail
  all_goals
   go_wp2_with fail
   go_meet
   exact ⟨rfl, hk_keep oA.out.1 Q1.out, row_keep Q1.out oA.out.2.1, belowT oA.out.2.2.1 Q1.out (hk_tw oA.out.1), msgsR.own_mono (msgsR.own_keep oA.out.2.2.2 (keeps_below Q1.out)) (rng_sub (Nat.le_refl _) Q1.out.size)⟩
 case rest =>
  clear h X L I N O m i b H E y z C A G D p F a M K F2 T Y S V F7 Z tm R Xc0 Xc1 Xc2 Xc3 Xc4 Xc5 Xc6 Xf0 Xf1 Xf2 Xf3 Xf4 Xf5 Xf6 Xlt;obtain ⟨rfl, h, X, L, I⟩ := hcut;generalize wc = w2 at I h X L ⊢;obtain ⟨wa, wc, da, dc, ⟨N, O⟩, m, ⟨i, b, H, E, y, z, C, A⟩, ⟨G, -⟩, ⟨D, p⟩, F, a, tm, R⟩ := hk_cells h;have M := a (k * 8);have K := a (k * 8 + 1);have F2 := a (k * 8 + 2);have T := a (k * 8 + 3);have Y := a (k * 8 + 4);have S := a (k * 8 + 5);have V := a (k * 8 + 6);have F7 := a (k * 8 + 7);have Z := F k;simp only at m i b H E y z C A G D p
  obtain ⟨Xc0, Xc1, Xc2, Xc3, Xc4, Xc5, Xc6⟩ := cells_7 X;obtain ⟨Xf0, Xf1, Xf2, Xf3, Xf4, Xf5, Xf6⟩ := froz_7 X;have Xlt := (ltH X);go_upto_region 4 with fail
  go_region
  go_upto_region 6 with fail
  clear N O m i b H E y z C A G D p F a M K F2 T Y S V F7 Z tm R Xc0 Xc1 Xc2 Xc3 Xc4 Xc5 Xc6 Xf0 Xf1 Xf2 Xf3 Xf4 Xf5 Xf6 Xlt;replace h := hk_drew h;replace L := L.drew;replace X := heap_drewS X;replace I := own_drewS I;have FA : w2.heap.size ≤ w2.drew.heap.size := Nat.le_refl _;generalize w2.drew = w3 at FA h L X I ⊢;by_cases n1 : n = 1
  ·subst n1;by_cases qc : c ≤ 3
   ·have gA : mayB 1 (r, c, tq, 1, (k : Int), dt, gg) = true := may_core (by omega) c0 qc;by_cases qb : bz = true
    ·subst qb;have HS : Hid (hearS k (ws, (o, s, true, kd, f, l, mk, d)) (r, c, tq, 1, (k : Int), dt, gg) = ((ws, (o, s, true, kd, f, l, mk, d)), [], 2)) := by
      have e1 : stopA (ws, (o, s, true, kd, f, l, mk, d)) (r, c, tq, 1, (k : Int), dt, gg) = some 2 := by rw [stop_req (n := 1) rfl (by decide), gA]; rfl
      unfold Hid hearS;rw [e1]
     have J : Hid _ := aI h L;obtain ⟨wa, wc, da, dc, ⟨N, O⟩, m, ⟨i, b, H, E, y, z, C, A⟩, ⟨G, -⟩, ⟨D, p⟩, F, a, tm, R⟩ := hk_cells h;have M := a (k * 8);have K := a (k * 8 + 1);have F2 := a (k * 8 + 2);have T := a (k * 8 + 3);have Y := a (k * 8 + 4);have S := a (k * 8 + 5);have V := a (k * 8 + 6);have F7 := a (k * 8 + 7);have Z := F k;simp only at m i b H E y z C A G D p
     obtain ⟨Xc0, Xc1, Xc2, Xc3, Xc4, Xc5, Xc6⟩ := cells_7 X;obtain ⟨Xf0, Xf1, Xf2, Xf3, Xf4, Xf5, Xf6⟩ := froz_7 X;have Xlt := (ltH X);go_wp2_with fail
     refine (l13Request_wait ws o s kd f l mk d 1 r c tq 1 gg dt ma mc2 _ J.out.1 (hd9 hd J.out.2) hm).mono ?_;clear N O m i b H E y z C A G D p F a M K F2 T Y S V F7 Z tm R Xc0 Xc1 Xc2 Xc3 Xc4 Xc5 Xc6 Xf0 Xf1 Xf2 Xf3 Xf4 Xf5 Xf6 Xlt;rintro e w9 ⟨ms, rfl, B8, k9, m9, b9⟩;have HF : Hid _ := aI k9 (aI m9 (J.out.2.trans b9));clear k9 m9 b9 h X L I;go_wp2;go_ret2
     rw [HS.out];exact ⟨ms, rfl, B8, HF.out⟩
    ·have BA : bz = false := by simpa using qb
     subst BA;have er := free_rest he rfl;simp only [Prod.mk.injEq] at er;obtain ⟨-, -, -, rfl, rfl, rfl, rfl, rfl⟩ := er;have HS : Hid (hearS k (ws, (o, s, false, 0, 0, 0, 0, [])) (r, c, tq, 1, (k : Int), dt, gg) = ((reqA 1 k (ws, (o, s, false, 0, 0, 0, 0, [])) (r, c, tq, 1, (k : Int), dt, gg)).1, (reqA 1 k (ws, (o, s, false, 0, 0, 0, 0, [])) (r, c, tq, 1, (k : Int), dt, gg)).2, 1)) := by
      have e1 : stopA (ws, (o, s, false, 0, 0, 0, 0, [])) (r, c, tq, 1, (k : Int), dt, gg) = none := by rw [stop_req (n := 1) rfl (by decide), gA]; rfl
      unfold Hid hearS;rw [e1];show ((hearA k (ws, (o, s, false, 0, 0, 0, 0, [])) (r, c, tq, 1, (k : Int), dt, gg)).1, (hearA k (ws, (o, s, false, 0, 0, 0, 0, [])) (r, c, tq, 1, (k : Int), dt, gg)).2, (1 : Int)) = _
      rw [hear_req (n := 1) rfl (by decide)]
     have J : Hid _ := aI h L;obtain ⟨wa, wc, da, dc, ⟨N, O⟩, m, ⟨i, b, H, E, y, z, C, A⟩, ⟨G, -⟩, ⟨D, p⟩, F, a, tm, R⟩ := hk_cells h;have M := a (k * 8);have K := a (k * 8 + 1);have F2 := a (k * 8 + 2);have T := a (k * 8 + 3);have Y := a (k * 8 + 4);have S := a (k * 8 + 5);have V := a (k * 8 + 6);have F7 := a (k * 8 + 7);have Z := F k;simp only at m i b H E y z C A G D p
     obtain ⟨Xc0, Xc1, Xc2, Xc3, Xc4, Xc5, Xc6⟩ := cells_7 X;obtain ⟨Xf0, Xf1, Xf2, Xf3, Xf4, Xf5, Xf6⟩ := froz_7 X;have Xlt := (ltH X);go_wp2_with fail
     refine (l13Request_any ws o s 1 r c tq 1 gg dt ma mc2 _ J.out.1 (hd9 hd J.out.2) hm hw c0 c5 (by constructor <;> decide) hg64 hkk64 (ask_len hw).1 (endc_req hw hl (by decide) gA) HE).mono ?_;clear N O m i b H E y z C A G D p F a M K F2 T Y S V F7 Z tm R Xc0 Xc1 Xc2 Xc3 Xc4 Xc5 Xc6 Xf0 Xf1 Xf2 Xf3 Xf4 Xf5 Xf6 Xlt;rintro e w9 ⟨ms, rfl, B8, k9, m9, b9⟩;have HF : Hid _ := aI k9 (aI m9 (J.out.2.trans b9));clear k9 m9 b9 h X L I;go_wp2;go_ret2
     rw [HS.out];exact ⟨ms, rfl, B8, HF.out⟩
   ·have fA : mayB 1 (r, c, tq, 1, (k : Int), dt, gg) = false := by
      cases q : mayB 1 (r, c, tq, 1, (k : Int), dt, gg)
      ·rfl
      ·obtain ⟨p1, p2, p3⟩ := may_parts (by decide) q;have := p1 (by decide); simp [betw] at this; omega
    have HS : Hid (hearS k (ws, (o, s, bz, kd, f, l, mk, d)) (r, c, tq, 1, (k : Int), dt, gg) = ((ws, (o, s, bz, kd, f, l, mk, d)), [], 0)) := by
     have e1 : stopA (ws, (o, s, bz, kd, f, l, mk, d)) (r, c, tq, 1, (k : Int), dt, gg) = some 0 := by rw [stop_req (n := 1) rfl (by decide), fA]; rfl
     unfold Hid hearS;rw [e1]
    obtain ⟨wa, wc, da, dc, ⟨N, O⟩, m, ⟨i, b, H, E, y, z, C, A⟩, ⟨G, -⟩, ⟨D, p⟩, F, a, tm, R⟩ := hk_cells h;have M := a (k * 8);have K := a (k * 8 + 1);have F2 := a (k * 8 + 2);have T := a (k * 8 + 3);have Y := a (k * 8 + 4);have S := a (k * 8 + 5);have V := a (k * 8 + 6);have F7 := a (k * 8 + 7);have Z := F k;simp only at m i b H E y z C A G D p
    obtain ⟨Xc0, Xc1, Xc2, Xc3, Xc4, Xc5, Xc6⟩ := cells_7 X;obtain ⟨Xf0, Xf1, Xf2, Xf3, Xf4, Xf5, Xf6⟩ := froz_7 X;have Xlt := (ltH X);go_wp2;go_ret2
    clear N O m i b H E y z C A G D p F a M K F2 T Y S V F7 Z tm R Xc0 Xc1 Xc2 Xc3 Xc4 Xc5 Xc6 Xf0 Xf1 Xf2 Xf3 Xf4 Xf5 Xf6 Xlt;rw [HS.out];exact ⟨_, rfl, B, h, msgsR.own_mono I (rng_sub (Nat.le_refl _) (by omega)), L⟩
  ·have e1 : (n == 1) = false := beq_false_of_ne n1;by_cases n2 : n = 2
   ·subst n2;by_cases qc : c ≤ 3
    ·have gA : mayB 2 (r, c, tq, 2, (k : Int), dt, gg) = true := may_core (by omega) c0 qc;by_cases qb : bz = true
     ·subst qb;have HS : Hid (hearS k (ws, (o, s, true, kd, f, l, mk, d)) (r, c, tq, 2, (k : Int), dt, gg) = ((ws, (o, s, true, kd, f, l, mk, d)), [], 2)) := by
       have e1 : stopA (ws, (o, s, true, kd, f, l, mk, d)) (r, c, tq, 2, (k : Int), dt, gg) = some 2 := by rw [stop_req (n := 2) rfl (by decide), gA]; rfl
       unfold Hid hearS;rw [e1]
      have J : Hid _ := aI h L;obtain ⟨wa, wc, da, dc, ⟨N, O⟩, m, ⟨i, b, H, E, y, z, C, A⟩, ⟨G, -⟩, ⟨D, p⟩, F, a, tm, R⟩ := hk_cells h;have M := a (k * 8);have K := a (k * 8 + 1);have F2 := a (k * 8 + 2);have T := a (k * 8 + 3);have Y := a (k * 8 + 4);have S := a (k * 8 + 5);have V := a (k * 8 + 6);have F7 := a (k * 8 + 7);have Z := F k;simp only at m i b H E y z C A G D p
      obtain ⟨Xc0, Xc1, Xc2, Xc3, Xc4, Xc5, Xc6⟩ := cells_7 X;obtain ⟨Xf0, Xf1, Xf2, Xf3, Xf4, Xf5, Xf6⟩ := froz_7 X;have Xlt := (ltH X);go_wp2_with fail
      refine (l13Request_wait ws o s kd f l mk d 2 r c tq 2 gg dt ma mc2 _ J.out.1 (hd9 hd J.out.2) hm).mono ?_;clear N O m i b H E y z C A G D p F a M K F2 T Y S V F7 Z tm R Xc0 Xc1 Xc2 Xc3 Xc4 Xc5 Xc6 Xf0 Xf1 Xf2 Xf3 Xf4 Xf5 Xf6 Xlt;rintro e w9 ⟨ms, rfl, B8, k9, m9, b9⟩;have HF : Hid _ := aI k9 (aI m9 (J.out.2.trans b9));clear k9 m9 b9 h X L I;go_wp2;go_ret2
      rw [HS.out];exact ⟨ms, rfl, B8, HF.out⟩
     ·have BA : bz = false := by simpa using qb
      subst BA;have er := free_rest he rfl;simp only [Prod.mk.injEq] at er;obtain ⟨-, -, -, rfl, rfl, rfl, rfl, rfl⟩ := er;have HS : Hid (hearS k (ws, (o, s, false, 0, 0, 0, 0, [])) (r, c, tq, 2, (k : Int), dt, gg) = ((reqA 2 k (ws, (o, s, false, 0, 0, 0, 0, [])) (r, c, tq, 2, (k : Int), dt, gg)).1, (reqA 2 k (ws, (o, s, false, 0, 0, 0, 0, [])) (r, c, tq, 2, (k : Int), dt, gg)).2, 1)) := by
       have e1 : stopA (ws, (o, s, false, 0, 0, 0, 0, [])) (r, c, tq, 2, (k : Int), dt, gg) = none := by rw [stop_req (n := 2) rfl (by decide), gA]; rfl
       unfold Hid hearS;rw [e1];show ((hearA k (ws, (o, s, false, 0, 0, 0, 0, [])) (r, c, tq, 2, (k : Int), dt, gg)).1, (hearA k (ws, (o, s, false, 0, 0, 0, 0, [])) (r, c, tq, 2, (k : Int), dt, gg)).2, (1 : Int)) = _
       rw [hear_req (n := 2) rfl (by decide)]
      have J : Hid _ := aI h L;obtain ⟨wa, wc, da, dc, ⟨N, O⟩, m, ⟨i, b, H, E, y, z, C, A⟩, ⟨G, -⟩, ⟨D, p⟩, F, a, tm, R⟩ := hk_cells h;have M := a (k * 8);have K := a (k * 8 + 1);have F2 := a (k * 8 + 2);have T := a (k * 8 + 3);have Y := a (k * 8 + 4);have S := a (k * 8 + 5);have V := a (k * 8 + 6);have F7 := a (k * 8 + 7);have Z := F k;simp only at m i b H E y z C A G D p
      obtain ⟨Xc0, Xc1, Xc2, Xc3, Xc4, Xc5, Xc6⟩ := cells_7 X;obtain ⟨Xf0, Xf1, Xf2, Xf3, Xf4, Xf5, Xf6⟩ := froz_7 X;have Xlt := (ltH X);go_wp2_with fail
      refine (l13Request_any ws o s 2 r c tq 2 gg dt ma mc2 _ J.out.1 (hd9 hd J.out.2) hm hw c0 c5 (by constructor <;> decide) hg64 hkk64 (ask_len hw).1 (endc_req hw hl (by decide) gA) HE).mono ?_;clear N O m i b H E y z C A G D p F a M K F2 T Y S V F7 Z tm R Xc0 Xc1 Xc2 Xc3 Xc4 Xc5 Xc6 Xf0 Xf1 Xf2 Xf3 Xf4 Xf5 Xf6 Xlt;rintro e w9 ⟨ms, rfl, B8, k9, m9, b9⟩;have HF : Hid _ := aI k9 (aI m9 (J.out.2.trans b9));clear k9 m9 b9 h X L I;go_wp2;go_ret2
      rw [HS.out];exact ⟨ms, rfl, B8, HF.out⟩
    ·have fA : mayB 2 (r, c, tq, 2, (k : Int), dt, gg) = false := by
       cases q : mayB 2 (r, c, tq, 2, (k : Int), dt, gg)
       ·rfl
       ·obtain ⟨p1, p2, p3⟩ := may_parts (by decide) q;have := p1 (by decide); simp [betw] at this; omega
     have HS : Hid (hearS k (ws, (o, s, bz, kd, f, l, mk, d)) (r, c, tq, 2, (k : Int), dt, gg) = ((ws, (o, s, bz, kd, f, l, mk, d)), [], 0)) := by
      have e1 : stopA (ws, (o, s, bz, kd, f, l, mk, d)) (r, c, tq, 2, (k : Int), dt, gg) = some 0 := by rw [stop_req (n := 2) rfl (by decide), fA]; rfl
      unfold Hid hearS;rw [e1]
     obtain ⟨wa, wc, da, dc, ⟨N, O⟩, m, ⟨i, b, H, E, y, z, C, A⟩, ⟨G, -⟩, ⟨D, p⟩, F, a, tm, R⟩ := hk_cells h;have M := a (k * 8);have K := a (k * 8 + 1);have F2 := a (k * 8 + 2);have T := a (k * 8 + 3);have Y := a (k * 8 + 4);have S := a (k * 8 + 5);have V := a (k * 8 + 6);have F7 := a (k * 8 + 7);have Z := F k;simp only at m i b H E y z C A G D p
     obtain ⟨Xc0, Xc1, Xc2, Xc3, Xc4, Xc5, Xc6⟩ := cells_7 X;obtain ⟨Xf0, Xf1, Xf2, Xf3, Xf4, Xf5, Xf6⟩ := froz_7 X;have Xlt := (ltH X);go_wp2;go_ret2
     clear N O m i b H E y z C A G D p F a M K F2 T Y S V F7 Z tm R Xc0 Xc1 Xc2 Xc3 Xc4 Xc5 Xc6 Xf0 Xf1 Xf2 Xf3 Xf4 Xf5 Xf6 Xlt;rw [HS.out];exact ⟨_, rfl, B, h, msgsR.own_mono I (rng_sub (Nat.le_refl _) (by omega)), L⟩
   ·have e2 : (n == 2) = false := beq_false_of_ne n2;by_cases n4 : n = 4
    ·subst n4;by_cases q5 : c = 5
     ·have z5 : (c == 5) = true := by simp [q5]
      have gA : mayB 3 (r, c, tq, 4, (k : Int), dt, gg) = true := by unfold mayB askB; simp [cby, pby, q5]
      clear q5;by_cases qb : bz = true
      ·subst qb;have HS : Hid (hearS k (ws, (o, s, true, kd, f, l, mk, d)) (r, c, tq, 4, (k : Int), dt, gg) = ((ws, (o, s, true, kd, f, l, mk, d)), [], 2)) := by
        have e1 : stopA (ws, (o, s, true, kd, f, l, mk, d)) (r, c, tq, 4, (k : Int), dt, gg) = some 2 := by rw [stop_req (n := 3) rfl (by decide), gA]; rfl
        unfold Hid hearS;rw [e1]
       have J : Hid _ := aI h L;obtain ⟨wa, wc, da, dc, ⟨N, O⟩, m, ⟨i, b, H, E, y, z, C, A⟩, ⟨G, -⟩, ⟨D, p⟩, F, a, tm, R⟩ := hk_cells h;have M := a (k * 8);have K := a (k * 8 + 1);have F2 := a (k * 8 + 2);have T := a (k * 8 + 3);have Y := a (k * 8 + 4);have S := a (k * 8 + 5);have V := a (k * 8 + 6);have F7 := a (k * 8 + 7);have Z := F k;simp only at m i b H E y z C A G D p
       obtain ⟨Xc0, Xc1, Xc2, Xc3, Xc4, Xc5, Xc6⟩ := cells_7 X;obtain ⟨Xf0, Xf1, Xf2, Xf3, Xf4, Xf5, Xf6⟩ := froz_7 X;have Xlt := (ltH X);go_wp2_with fail
       refine (l13Request_wait ws o s kd f l mk d 3 r c tq 4 gg dt ma mc2 _ J.out.1 (hd9 hd J.out.2) hm).mono ?_;clear N O m i b H E y z C A G D p F a M K F2 T Y S V F7 Z tm R Xc0 Xc1 Xc2 Xc3 Xc4 Xc5 Xc6 Xf0 Xf1 Xf2 Xf3 Xf4 Xf5 Xf6 Xlt;rintro e w9 ⟨ms, rfl, B8, k9, m9, b9⟩;have HF : Hid _ := aI k9 (aI m9 (J.out.2.trans b9));clear k9 m9 b9 h X L I;go_wp2;go_ret2
       rw [HS.out];exact ⟨ms, rfl, B8, HF.out⟩
      ·have BA : bz = false := by simpa using qb
       subst BA;have er := free_rest he rfl;simp only [Prod.mk.injEq] at er;obtain ⟨-, -, -, rfl, rfl, rfl, rfl, rfl⟩ := er;have HS : Hid (hearS k (ws, (o, s, false, 0, 0, 0, 0, [])) (r, c, tq, 4, (k : Int), dt, gg) = ((reqA 3 k (ws, (o, s, false, 0, 0, 0, 0, [])) (r, c, tq, 4, (k : Int), dt, gg)).1, (reqA 3 k (ws, (o, s, false, 0, 0, 0, 0, [])) (r, c, tq, 4, (k : Int), dt, gg)).2, 1)) := by
        have e1 : stopA (ws, (o, s, false, 0, 0, 0, 0, [])) (r, c, tq, 4, (k : Int), dt, gg) = none := by rw [stop_req (n := 3) rfl (by decide), gA]; rfl
        unfold Hid hearS;rw [e1];show ((hearA k (ws, (o, s, false, 0, 0, 0, 0, [])) (r, c, tq, 4, (k : Int), dt, gg)).1, (hearA k (ws, (o, s, false, 0, 0, 0, 0, [])) (r, c, tq, 4, (k : Int), dt, gg)).2, (1 : Int)) = _
        rw [hear_req (n := 3) rfl (by decide)]
       have J : Hid _ := aI h L;obtain ⟨wa, wc, da, dc, ⟨N, O⟩, m, ⟨i, b, H, E, y, z, C, A⟩, ⟨G, -⟩, ⟨D, p⟩, F, a, tm, R⟩ := hk_cells h;have M := a (k * 8);have K := a (k * 8 + 1);have F2 := a (k * 8 + 2);have T := a (k * 8 + 3);have Y := a (k * 8 + 4);have S := a (k * 8 + 5);have V := a (k * 8 + 6);have F7 := a (k * 8 + 7);have Z := F k;simp only at m i b H E y z C A G D p
       obtain ⟨Xc0, Xc1, Xc2, Xc3, Xc4, Xc5, Xc6⟩ := cells_7 X;obtain ⟨Xf0, Xf1, Xf2, Xf3, Xf4, Xf5, Xf6⟩ := froz_7 X;have Xlt := (ltH X);go_wp2_with fail
       refine (l13Request_any ws o s 3 r c tq 4 gg dt ma mc2 _ J.out.1 (hd9 hd J.out.2) hm hw c0 c5 (by constructor <;> decide) hg64 hkk64 (ask_len hw).1 (endc_req hw hl (by decide) gA) HE).mono ?_;clear N O m i b H E y z C A G D p F a M K F2 T Y S V F7 Z tm R Xc0 Xc1 Xc2 Xc3 Xc4 Xc5 Xc6 Xf0 Xf1 Xf2 Xf3 Xf4 Xf5 Xf6 Xlt;rintro e w9 ⟨ms, rfl, B8, k9, m9, b9⟩;have HF : Hid _ := aI k9 (aI m9 (J.out.2.trans b9));clear k9 m9 b9 h X L I;go_wp2;go_ret2
       rw [HS.out];exact ⟨ms, rfl, B8, HF.out⟩
     ·have z5 : (c == 5) = false := by simp [q5]
      have fA : mayB 3 (r, c, tq, 4, (k : Int), dt, gg) = false := by
       cases q : mayB 3 (r, c, tq, 4, (k : Int), dt, gg)
       ·rfl
       ·obtain ⟨p1, p2, p3⟩ := may_parts (by decide) q;exact absurd (p2 (by decide)) q5
      clear q5;have HS : Hid (hearS k (ws, (o, s, bz, kd, f, l, mk, d)) (r, c, tq, 4, (k : Int), dt, gg) = ((ws, (o, s, bz, kd, f, l, mk, d)), [], 0)) := by
       have e1 : stopA (ws, (o, s, bz, kd, f, l, mk, d)) (r, c, tq, 4, (k : Int), dt, gg) = some 0 := by rw [stop_req (n := 3) rfl (by decide), fA]; rfl
       unfold Hid hearS;rw [e1]
      obtain ⟨wa, wc, da, dc, ⟨N, O⟩, m, ⟨i, b, H, E, y, z, C, A⟩, ⟨G, -⟩, ⟨D, p⟩, F, a, tm, R⟩ := hk_cells h;have M := a (k * 8);have K := a (k * 8 + 1);have F2 := a (k * 8 + 2);have T := a (k * 8 + 3);have Y := a (k * 8 + 4);have S := a (k * 8 + 5);have V := a (k * 8 + 6);have F7 := a (k * 8 + 7);have Z := F k;simp only at m i b H E y z C A G D p
      obtain ⟨Xc0, Xc1, Xc2, Xc3, Xc4, Xc5, Xc6⟩ := cells_7 X;obtain ⟨Xf0, Xf1, Xf2, Xf3, Xf4, Xf5, Xf6⟩ := froz_7 X;have Xlt := (ltH X);go_wp2;go_ret2
      clear N O m i b H E y z C A G D p F a M K F2 T Y S V F7 Z tm R Xc0 Xc1 Xc2 Xc3 Xc4 Xc5 Xc6 Xf0 Xf1 Xf2 Xf3 Xf4 Xf5 Xf6 Xlt;rw [HS.out];exact ⟨_, rfl, B, h, msgsR.own_mono I (rng_sub (Nat.le_refl _) (by omega)), L⟩
    ·have e4 : (n == 4) = false := beq_false_of_ne n4;by_cases n5 : n = 5
     ·subst n5;by_cases q5 : c = 5
      ·have z5 : (c == 5) = true := by simp [q5]
       by_cases qd : 0 < dt.length
       ·have zd : (0 : Int) < (dt.length : Int) := by omega
        by_cases qg : gg ≤ 3
        ·have gA : mayB 4 (r, c, tq, 5, (k : Int), dt, gg) = true := by
           have hi : isL dt = true := by
            unfold dataB at hdt;rw [Bool.or_eq_true] at hdt;rcases hdt with q | q
            ·rw [List.isEmpty_iff] at q; rw [q] at qd; exact absurd qd (by decide)
            ·exact q
           unfold mayB askB;simp [cby, pby, q5, hi, betw, qg, g0]
         clear q5 qd;by_cases qb : bz = true
         ·subst qb;have HS : Hid (hearS k (ws, (o, s, true, kd, f, l, mk, d)) (r, c, tq, 5, (k : Int), dt, gg) = ((ws, (o, s, true, kd, f, l, mk, d)), [], 2)) := by
           have e1 : stopA (ws, (o, s, true, kd, f, l, mk, d)) (r, c, tq, 5, (k : Int), dt, gg) = some 2 := by rw [stop_req (n := 4) rfl (by decide), gA]; rfl
           unfold Hid hearS;rw [e1]
          have J : Hid _ := aI h L;obtain ⟨wa, wc, da, dc, ⟨N, O⟩, m, ⟨i, b, H, E, y, z, C, A⟩, ⟨G, -⟩, ⟨D, p⟩, F, a, tm, R⟩ := hk_cells h;have M := a (k * 8);have K := a (k * 8 + 1);have F2 := a (k * 8 + 2);have T := a (k * 8 + 3);have Y := a (k * 8 + 4);have S := a (k * 8 + 5);have V := a (k * 8 + 6);have F7 := a (k * 8 + 7);have Z := F k;simp only at m i b H E y z C A G D p
          obtain ⟨Xc0, Xc1, Xc2, Xc3, Xc4, Xc5, Xc6⟩ := cells_7 X;obtain ⟨Xf0, Xf1, Xf2, Xf3, Xf4, Xf5, Xf6⟩ := froz_7 X;have Xlt := (ltH X);go_wp2_with fail
          refine (l13Request_wait ws o s kd f l mk d 4 r c tq 5 gg dt ma mc2 _ J.out.1 (hd9 hd J.out.2) hm).mono ?_;clear N O m i b H E y z C A G D p F a M K F2 T Y S V F7 Z tm R Xc0 Xc1 Xc2 Xc3 Xc4 Xc5 Xc6 Xf0 Xf1 Xf2 Xf3 Xf4 Xf5 Xf6 Xlt;rintro e w9 ⟨ms, rfl, B8, k9, m9, b9⟩;have HF : Hid _ := aI k9 (aI m9 (J.out.2.trans b9));clear k9 m9 b9 h X L I;go_wp2;go_ret2
          rw [HS.out];exact ⟨ms, rfl, B8, HF.out⟩
         ·have BA : bz = false := by simpa using qb
          subst BA;have er := free_rest he rfl;simp only [Prod.mk.injEq] at er;obtain ⟨-, -, -, rfl, rfl, rfl, rfl, rfl⟩ := er;have HS : Hid (hearS k (ws, (o, s, false, 0, 0, 0, 0, [])) (r, c, tq, 5, (k : Int), dt, gg) = ((reqA 4 k (ws, (o, s, false, 0, 0, 0, 0, [])) (r, c, tq, 5, (k : Int), dt, gg)).1, (reqA 4 k (ws, (o, s, false, 0, 0, 0, 0, [])) (r, c, tq, 5, (k : Int), dt, gg)).2, 1)) := by
           have e1 : stopA (ws, (o, s, false, 0, 0, 0, 0, [])) (r, c, tq, 5, (k : Int), dt, gg) = none := by rw [stop_req (n := 4) rfl (by decide), gA]; rfl
           unfold Hid hearS;rw [e1];show ((hearA k (ws, (o, s, false, 0, 0, 0, 0, [])) (r, c, tq, 5, (k : Int), dt, gg)).1, (hearA k (ws, (o, s, false, 0, 0, 0, 0, [])) (r, c, tq, 5, (k : Int), dt, gg)).2, (1 : Int)) = _
           rw [hear_req (n := 4) rfl (by decide)]
          have J : Hid _ := aI h L;obtain ⟨wa, wc, da, dc, ⟨N, O⟩, m, ⟨i, b, H, E, y, z, C, A⟩, ⟨G, -⟩, ⟨D, p⟩, F, a, tm, R⟩ := hk_cells h;have M := a (k * 8);have K := a (k * 8 + 1);have F2 := a (k * 8 + 2);have T := a (k * 8 + 3);have Y := a (k * 8 + 4);have S := a (k * 8 + 5);have V := a (k * 8 + 6);have F7 := a (k * 8 + 7);have Z := F k;simp only at m i b H E y z C A G D p
          obtain ⟨Xc0, Xc1, Xc2, Xc3, Xc4, Xc5, Xc6⟩ := cells_7 X;obtain ⟨Xf0, Xf1, Xf2, Xf3, Xf4, Xf5, Xf6⟩ := froz_7 X;have Xlt := (ltH X);go_wp2_with fail
          refine (l13Request_any ws o s 4 r c tq 5 gg dt ma mc2 _ J.out.1 (hd9 hd J.out.2) hm hw c0 c5 (by constructor <;> decide) hg64 hkk64 (ask_len hw).1 (endc_req hw hl (by decide) gA) HE).mono ?_;clear N O m i b H E y z C A G D p F a M K F2 T Y S V F7 Z tm R Xc0 Xc1 Xc2 Xc3 Xc4 Xc5 Xc6 Xf0 Xf1 Xf2 Xf3 Xf4 Xf5 Xf6 Xlt;rintro e w9 ⟨ms, rfl, B8, k9, m9, b9⟩;have HF : Hid _ := aI k9 (aI m9 (J.out.2.trans b9));clear k9 m9 b9 h X L I;go_wp2;go_ret2
          rw [HS.out];exact ⟨ms, rfl, B8, HF.out⟩
        ·have fA : mayB 4 (r, c, tq, 5, (k : Int), dt, gg) = false := by
           cases q : mayB 4 (r, c, tq, 5, (k : Int), dt, gg)
           ·rfl
           ·obtain ⟨p1, p2, p3⟩ := may_parts (by decide) q;have := (p3 rfl).1; simp [betw] at this; omega
         clear q5 qd;have HS : Hid (hearS k (ws, (o, s, bz, kd, f, l, mk, d)) (r, c, tq, 5, (k : Int), dt, gg) = ((ws, (o, s, bz, kd, f, l, mk, d)), [], 0)) := by
          have e1 : stopA (ws, (o, s, bz, kd, f, l, mk, d)) (r, c, tq, 5, (k : Int), dt, gg) = some 0 := by rw [stop_req (n := 4) rfl (by decide), fA]; rfl
          unfold Hid hearS;rw [e1]
         obtain ⟨wa, wc, da, dc, ⟨N, O⟩, m, ⟨i, b, H, E, y, z, C, A⟩, ⟨G, -⟩, ⟨D, p⟩, F, a, tm, R⟩ := hk_cells h;have M := a (k * 8);have K := a (k * 8 + 1);have F2 := a (k * 8 + 2);have T := a (k * 8 + 3);have Y := a (k * 8 + 4);have S := a (k * 8 + 5);have V := a (k * 8 + 6);have F7 := a (k * 8 + 7);have Z := F k;simp only at m i b H E y z C A G D p
         obtain ⟨Xc0, Xc1, Xc2, Xc3, Xc4, Xc5, Xc6⟩ := cells_7 X;obtain ⟨Xf0, Xf1, Xf2, Xf3, Xf4, Xf5, Xf6⟩ := froz_7 X;have Xlt := (ltH X);go_wp2;go_ret2
         clear N O m i b H E y z C A G D p F a M K F2 T Y S V F7 Z tm R Xc0 Xc1 Xc2 Xc3 Xc4 Xc5 Xc6 Xf0 Xf1 Xf2 Xf3 Xf4 Xf5 Xf6 Xlt;rw [HS.out];exact ⟨_, rfl, B, h, msgsR.own_mono I (rng_sub (Nat.le_refl _) (by omega)), L⟩
       ·have zd : ¬ ((0 : Int) < (dt.length : Int)) := by omega
        have fA : mayB 4 (r, c, tq, 5, (k : Int), dt, gg) = false := by
         cases q : mayB 4 (r, c, tq, 5, (k : Int), dt, gg)
         ·rfl
         ·obtain ⟨p1, p2, p3⟩ := may_parts (by decide) q;have := isL_lenS (p3 rfl).2; omega
        clear q5 qd;have HS : Hid (hearS k (ws, (o, s, bz, kd, f, l, mk, d)) (r, c, tq, 5, (k : Int), dt, gg) = ((ws, (o, s, bz, kd, f, l, mk, d)), [], 0)) := by
         have e1 : stopA (ws, (o, s, bz, kd, f, l, mk, d)) (r, c, tq, 5, (k : Int), dt, gg) = some 0 := by rw [stop_req (n := 4) rfl (by decide), fA]; rfl
         unfold Hid hearS;rw [e1]
        obtain ⟨wa, wc, da, dc, ⟨N, O⟩, m, ⟨i, b, H, E, y, z, C, A⟩, ⟨G, -⟩, ⟨D, p⟩, F, a, tm, R⟩ := hk_cells h;have M := a (k * 8);have K := a (k * 8 + 1);have F2 := a (k * 8 + 2);have T := a (k * 8 + 3);have Y := a (k * 8 + 4);have S := a (k * 8 + 5);have V := a (k * 8 + 6);have F7 := a (k * 8 + 7);have Z := F k;simp only at m i b H E y z C A G D p
        obtain ⟨Xc0, Xc1, Xc2, Xc3, Xc4, Xc5, Xc6⟩ := cells_7 X;obtain ⟨Xf0, Xf1, Xf2, Xf3, Xf4, Xf5, Xf6⟩ := froz_7 X;have Xlt := (ltH X);go_wp2;go_ret2
        clear N O m i b H E y z C A G D p F a M K F2 T Y S V F7 Z tm R Xc0 Xc1 Xc2 Xc3 Xc4 Xc5 Xc6 Xf0 Xf1 Xf2 Xf3 Xf4 Xf5 Xf6 Xlt;rw [HS.out];exact ⟨_, rfl, B, h, msgsR.own_mono I (rng_sub (Nat.le_refl _) (by omega)), L⟩
      ·have z5 : (c == 5) = false := by simp [q5]
       have fA : mayB 4 (r, c, tq, 5, (k : Int), dt, gg) = false := by
        cases q : mayB 4 (r, c, tq, 5, (k : Int), dt, gg)
        ·rfl
        ·obtain ⟨p1, p2, p3⟩ := may_parts (by decide) q;exact absurd (p2 (by decide)) q5
       clear q5;have HS : Hid (hearS k (ws, (o, s, bz, kd, f, l, mk, d)) (r, c, tq, 5, (k : Int), dt, gg) = ((ws, (o, s, bz, kd, f, l, mk, d)), [], 0)) := by
        have e1 : stopA (ws, (o, s, bz, kd, f, l, mk, d)) (r, c, tq, 5, (k : Int), dt, gg) = some 0 := by rw [stop_req (n := 4) rfl (by decide), fA]; rfl
        unfold Hid hearS;rw [e1]
       obtain ⟨wa, wc, da, dc, ⟨N, O⟩, m, ⟨i, b, H, E, y, z, C, A⟩, ⟨G, -⟩, ⟨D, p⟩, F, a, tm, R⟩ := hk_cells h;have M := a (k * 8);have K := a (k * 8 + 1);have F2 := a (k * 8 + 2);have T := a (k * 8 + 3);have Y := a (k * 8 + 4);have S := a (k * 8 + 5);have V := a (k * 8 + 6);have F7 := a (k * 8 + 7);have Z := F k;simp only at m i b H E y z C A G D p
       obtain ⟨Xc0, Xc1, Xc2, Xc3, Xc4, Xc5, Xc6⟩ := cells_7 X;obtain ⟨Xf0, Xf1, Xf2, Xf3, Xf4, Xf5, Xf6⟩ := froz_7 X;have Xlt := (ltH X);go_wp2;go_ret2
       clear N O m i b H E y z C A G D p F a M K F2 T Y S V F7 Z tm R Xc0 Xc1 Xc2 Xc3 Xc4 Xc5 Xc6 Xf0 Xf1 Xf2 Xf3 Xf4 Xf5 Xf6 Xlt;rw [HS.out];exact ⟨_, rfl, B, h, msgsR.own_mono I (rng_sub (Nat.le_refl _) (by omega)), L⟩
     ·have e5 : (n == 5) = false := beq_false_of_ne n5;by_cases n3 : n = 3
      ·subst n3;by_cases qc : c ≤ 3
       ·have sA : betw c 0 3 = true := by unfold betw; simp; omega
        by_cases qb : bz = true
        ·subst qb;have HS : Hid (hearS k (ws, (o, s, true, kd, f, l, mk, d)) (r, c, tq, 3, (k : Int), dt, gg) = ((ws, (o, s, true, kd, f, l, mk, d)), [], 2)) := by
          have e1 : stopA (ws, (o, s, true, kd, f, l, mk, d)) (r, c, tq, 3, (k : Int), dt, gg) = some 2 := by
           unfold stopA;rw [if_neg (show ¬ (0 : Int) < kindA 3 from by decide), if_pos (show (3 : Int) = 3 from rfl)];rw [show betw c 0 3 = true from sA];rfl
          unfold Hid hearS;rw [e1]
         obtain ⟨wa, wc, da, dc, ⟨N, O⟩, m, ⟨i, b, H, E, y, z, C, A⟩, ⟨G, -⟩, ⟨D, p⟩, F, a, tm, R⟩ := hk_cells h;have M := a (k * 8);have K := a (k * 8 + 1);have F2 := a (k * 8 + 2);have T := a (k * 8 + 3);have Y := a (k * 8 + 4);have S := a (k * 8 + 5);have V := a (k * 8 + 6);have F7 := a (k * 8 + 7);have Z := F k;simp only at m i b H E y z C A G D p
         obtain ⟨Xc0, Xc1, Xc2, Xc3, Xc4, Xc5, Xc6⟩ := cells_7 X;obtain ⟨Xf0, Xf1, Xf2, Xf3, Xf4, Xf5, Xf6⟩ := froz_7 X;have Xlt := (ltH X);go_wp2;go_ret2
         clear N O m i b H E y z C A G D p F a M K F2 T Y S V F7 Z tm R Xc0 Xc1 Xc2 Xc3 Xc4 Xc5 Xc6 Xf0 Xf1 Xf2 Xf3 Xf4 Xf5 Xf6 Xlt;rw [HS.out];exact ⟨_, rfl, B, h, msgsR.own_mono I (rng_sub (Nat.le_refl _) (by omega)), L⟩
        ·have BA : bz = false := by simpa using qb
         subst BA;by_cases qo : o = c
         ·have zo : (o == c) = true := by simp [qo]
          by_cases qd : 0 < dt.length
          ·have zd : (0 : Int) < (dt.length : Int) := by omega
           have HS : Hid (hearS k (ws, (o, s, false, kd, f, l, mk, d)) (r, c, tq, 3, (k : Int), dt, gg) = ((dt, heldE (o, s, false, kd, f, l, mk, d) (fgO o c) (fgS s c)), [letA k 2 c 12 [] 0], 1)) := by
            have e1 : stopA (ws, (o, s, false, kd, f, l, mk, d)) (r, c, tq, 3, (k : Int), dt, gg) = none := by
             unfold stopA;rw [if_neg (show ¬ (0 : Int) < kindA 3 from by decide), if_pos (show (3 : Int) = 3 from rfl)];rw [show betw c 0 3 = true from sA];rfl
            unfold Hid hearS;rw [e1];show ((hearA k (ws, (o, s, false, kd, f, l, mk, d)) (r, c, tq, 3, (k : Int), dt, gg)).1, (hearA k (ws, (o, s, false, kd, f, l, mk, d)) (r, c, tq, 3, (k : Int), dt, gg)).2, (1 : Int)) = _
            unfold hearA;rw [if_neg (show ¬ (0 : Int) < kindA 3 from by decide), if_pos (show (3 : Int) = 3 from rfl)];unfold putBackA;rw [if_pos (show ownB o c = true from by unfold ownB; rw [sA]; simp [qo])];rw [show toldW ws dt = dt from if_neg (by omega)]
           clear qo qd;obtain ⟨wa, wc, da, dc, ⟨N, O⟩, m, ⟨i, b, H, E, y, z, C, A⟩, ⟨G, -⟩, ⟨D, p⟩, F, a, tm, R⟩ := hk_cells h;have M := a (k * 8);have K := a (k * 8 + 1);have F2 := a (k * 8 + 2);have T := a (k * 8 + 3);have Y := a (k * 8 + 4);have S := a (k * 8 + 5);have V := a (k * 8 + 6);have F7 := a (k * 8 + 7);have Z := F k;simp only at m i b H E y z C A G D p
           obtain ⟨Xc0, Xc1, Xc2, Xc3, Xc4, Xc5, Xc6⟩ := cells_7 X;obtain ⟨Xf0, Xf1, Xf2, Xf3, Xf4, Xf5, Xf6⟩ := froz_7 X;have Xlt := (ltH X);go_upto_region 24 with fail
           go_region
           go_upto_region 25 with fail
           clear N O m i b H E y z C A G D p F a M K F2 T Y S V F7 Z tm R Xc0 Xc1 Xc2 Xc3 Xc4 Xc5 Xc6 Xf0 Xf1 Xf2 Xf3 Xf4 Xf5 Xf6 Xlt;replace h := hk_drew h;replace L := L.drew;replace X := heap_drewS X;have zA : w3.heap.size ≤ w3.drew.heap.size := Nat.le_refl _;generalize w3.drew = w4 at zA h L X ⊢;clear I;obtain ⟨wa, wc, da, dc, ⟨N, O⟩, m, ⟨i, b, H, E, y, z, C, A⟩, ⟨G, -⟩, ⟨D, p⟩, F, a, tm, R⟩ := hk_cells h;have M := a (k * 8);have K := a (k * 8 + 1);have F2 := a (k * 8 + 2);have T := a (k * 8 + 3);have Y := a (k * 8 + 4);have S := a (k * 8 + 5);have V := a (k * 8 + 6);have F7 := a (k * 8 + 7);have Z := F k;simp only at m i b H E y z C A G D p
           obtain ⟨Xc0, Xc1, Xc2, Xc3, Xc4, Xc5, Xc6⟩ := cells_7 X;obtain ⟨Xf0, Xf1, Xf2, Xf3, Xf4, Xf5, Xf6⟩ := froz_7 X;have Xlt := (ltH X);obtain ⟨BB, NB⟩ := hk_ne h;have gB : ¬ w.heap.size = mb := by omega
           have oA : Hid _ := aI h (aI X L);have K5 : Hid (∀ wx, Bl w4 wx → wx.cell? ⟨g, 0, none⟩ = some (sL (some ⟨mb, 0, none⟩) x.1.length mc) ∧ wx.cell? ⟨w.heap.size, 4, none⟩ = some (nI k) ∧ wx.cell? ⟨w.heap.size, 5, none⟩ = some (sL ma dt.length mc2)) := fun wx hh => ⟨cell_keep hh N (cell_lt N), cell_keep hh Xc4 (cell_lt Xc4), cell_keep hh Xc5 (cell_lt Xc5)⟩;have Q0 : Hid (Bl w4 w4.drew) := (Below.refl w4.heap.size w4).drew;have zB : Hid _ := K5.out _ Q0.out;have KM : Hid (∀ wx, Bl w4 wx → wx.cell? ⟨mb, k, none⟩ = some (sL wa ws.length wc)) := fun wx hh => cell_keep hh m (cell_lt m);clear h X L N O m i b H E y z C A G D p F a M K F2 T Y S V F7 Z tm R Xc0 Xc1 Xc2 Xc3 Xc4 Xc5 Xc6 Xf0 Xf1 Xf2 Xf3 Xf4 Xf5 Xf6 Xlt;first | (go_region_held3 (fun wx => wx.cell? ⟨g, 0, none⟩ = some (sL (some ⟨mb, 0, none⟩) x.1.length mc) ∧ wx.cell? ⟨w.heap.size, 4, none⟩ = some (nI k) ∧ wx.cell? ⟨w.heap.size, 5, none⟩ = some (sL ma dt.length mc2)) (first | (with_reducible exact zB.out) | (with_reducible exact MA.out) | (with_reducible exact nB.out) | fail) (first | (go_at_call 95; refine (l1Copy_rep ma dt mc2 _ (hd.out _ (oA.out.2.2.drew)) hm).mono ?_; rintro e w9 ⟨v, rfl, mr⟩; obtain ⟨ra, rc, rfl⟩ := slown_val mr.1; have Q1 : Hid (Bl w4 w9) := below_step Q0.out mr.2; have MA : Hid _ := K5.out _ Q1.out; have IB : Hid _ := mr.1; have CB : w9.frozen? ⟨mb, k, none⟩ = false := hk_fm (hk_keep oA.out.1 Q1.out); have M9 := KM.out _ Q1.out; have nB : Hid ((w9.setCell ⟨mb, k, none⟩ (sL ra dt.length rc)).cell? ⟨g, 0, none⟩ = some (sL (some ⟨mb, 0, none⟩) x.1.length mc) ∧ (w9.setCell ⟨mb, k, none⟩ (sL ra dt.length rc)).cell? ⟨w.heap.size, 4, none⟩ = some (nI k) ∧ (w9.setCell ⟨mb, k, none⟩ (sL ra dt.length rc)).cell? ⟨w.heap.size, 5, none⟩ = some (sL ma dt.length mc2)) := ⟨hcs1 BB MA.out.1, hcs1 gB MA.out.2.1, hcs1 gB MA.out.2.2⟩; clear mr) | fail)) | fail
           go_upto_region 26 with fail
           have h : HK t g mb mc bb bc k x w9.heap.size (w9.setCell ⟨mb, k, none⟩ (sL ra dt.length rc)) (dt, (o, s, false, kd, f, l, mk, d)) := hk_w (hk_keep oA.out.1 Q1.out) (Nat.le_trans oA.out.1.2.2.2.1 Q1.out.size) (Nat.le_refl _) IB.out (fun j (q : rng w4.drew.heap.size w9.heap.size j) => ⟨Nat.le_trans oA.out.1.2.2.2.1 q.1, q.2⟩);have X := heap_setC (g := mb) (o := k) (v := (sL ra dt.length rc)) (row_keep Q1.out oA.out.2.1) (by omega);have L := below_setC (g := mb) (o := k) (v := (sL ra dt.length rc)) (belowT oA.out.2.2 Q1.out (hk_tw oA.out.1)) (hk_m_lt oA.out.1).1;clear nB CB M9 MA;generalize w9.setCell ⟨mb, k, none⟩ (sL ra dt.length rc) = w5 at h X L ⊢;obtain ⟨wa, wc, da, dc, ⟨N, O⟩, m, ⟨i, b, H, E, y, z, C, A⟩, ⟨G, -⟩, ⟨D, p⟩, F, a, tm, R⟩ := hk_cells h;have M := a (k * 8);have K := a (k * 8 + 1);have F2 := a (k * 8 + 2);have T := a (k * 8 + 3);have Y := a (k * 8 + 4);have S := a (k * 8 + 5);have V := a (k * 8 + 6);have F7 := a (k * 8 + 7);have Z := F k;simp only at m i b H E y z C A G D p
           obtain ⟨Xc0, Xc1, Xc2, Xc3, Xc4, Xc5, Xc6⟩ := cells_7 X;obtain ⟨Xf0, Xf1, Xf2, Xf3, Xf4, Xf5, Xf6⟩ := froz_7 X;have Xlt := (ltH X);go_wp2_with fail
           refine (l10Forget_any bb (k * 8) o s c _ i b M K).mono ?_;clear N O m i b H E y z C A G D p F a M K F2 T Y S V F7 Z tm R Xc0 Xc1 Xc2 Xc3 Xc4 Xc5 Xc6 Xf0 Xf1 Xf2 Xf3 Xf4 Xf5 Xf6 Xlt;rintro e LA ⟨rfl, DA⟩;rw [DA];clear DA LA;obtain ⟨h2, b2, r2⟩ := hk_fg h hw sA;simp only at h2 b2 r2
           have X2 : (fgW w5 bb (k * 8) o s c).heap[w.heap.size]? = _ := fg_row X (by omega);replace L := L.trans b2;generalize fgW w5 bb (k * 8) o s c = wf at h2 X2 L ⊢;clear h X r2 b2;have h := h2;have X := X2;clear h2 X2;obtain ⟨wa, wc, da, dc, ⟨N, O⟩, m, ⟨i, b, H, E, y, z, C, A⟩, ⟨G, -⟩, ⟨D, p⟩, F, a, tm, R⟩ := hk_cells h;have M := a (k * 8);have K := a (k * 8 + 1);have F2 := a (k * 8 + 2);have T := a (k * 8 + 3);have Y := a (k * 8 + 4);have S := a (k * 8 + 5);have V := a (k * 8 + 6);have F7 := a (k * 8 + 7);have Z := F k;simp only at m i b H E y z C A G D p
           obtain ⟨Xc0, Xc1, Xc2, Xc3, Xc4, Xc5, Xc6⟩ := cells_7 X;obtain ⟨Xf0, Xf1, Xf2, Xf3, Xf4, Xf5, Xf6⟩ := froz_7 X;have Xlt := (ltH X);go_wp2;go_ret2
           clear N O m i b H E y z C A G D p F a M K F2 T Y S V F7 Z tm R Xc0 Xc1 Xc2 Xc3 Xc4 Xc5 Xc6 Xf0 Xf1 Xf2 Xf3 Xf4 Xf5 Xf6 Xlt;have ho := msgs_one (B := w9.heap.size) (U := fun _ => False) (W := wf) (own_msg (sm64s 2) (sm64s 4) (show In64 c from ⟨by omega, by omega⟩) (sm64s 12) hkk64 (sm64s 0) (own_zero wf _)) (fun j q => q.elim) h.2.2.2.1;have pA := box_below wf (.cells #[nI 2, nI 4, nI c, nI 12, nI k, sL none 0 0, nI 0] 30);rw [HS.out];exact ⟨_, rfl, w9.heap.size, hk_keep h pA, ho, belowT L pA (hk_tw h)⟩
          ·have zd : ¬ ((0 : Int) < (dt.length : Int)) := by omega
           have HS : Hid (hearS k (ws, (o, s, false, kd, f, l, mk, d)) (r, c, tq, 3, (k : Int), dt, gg) = ((ws, heldE (o, s, false, kd, f, l, mk, d) (fgO o c) (fgS s c)), [letA k 2 c 12 [] 0], 1)) := by
            have e1 : stopA (ws, (o, s, false, kd, f, l, mk, d)) (r, c, tq, 3, (k : Int), dt, gg) = none := by
             unfold stopA;rw [if_neg (show ¬ (0 : Int) < kindA 3 from by decide), if_pos (show (3 : Int) = 3 from rfl)];rw [show betw c 0 3 = true from sA];rfl
            unfold Hid hearS;rw [e1];show ((hearA k (ws, (o, s, false, kd, f, l, mk, d)) (r, c, tq, 3, (k : Int), dt, gg)).1, (hearA k (ws, (o, s, false, kd, f, l, mk, d)) (r, c, tq, 3, (k : Int), dt, gg)).2, (1 : Int)) = _
            unfold hearA;rw [if_neg (show ¬ (0 : Int) < kindA 3 from by decide), if_pos (show (3 : Int) = 3 from rfl)];unfold putBackA;rw [if_pos (show ownB o c = true from by unfold ownB; rw [sA]; simp [qo])];rw [show toldW ws dt = ws from if_pos (by omega)]
           clear qo qd;obtain ⟨wa, wc, da, dc, ⟨N, O⟩, m, ⟨i, b, H, E, y, z, C, A⟩, ⟨G, -⟩, ⟨D, p⟩, F, a, tm, R⟩ := hk_cells h;have M := a (k * 8);have K := a (k * 8 + 1);have F2 := a (k * 8 + 2);have T := a (k * 8 + 3);have Y := a (k * 8 + 4);have S := a (k * 8 + 5);have V := a (k * 8 + 6);have F7 := a (k * 8 + 7);have Z := F k;simp only at m i b H E y z C A G D p
           obtain ⟨Xc0, Xc1, Xc2, Xc3, Xc4, Xc5, Xc6⟩ := cells_7 X;obtain ⟨Xf0, Xf1, Xf2, Xf3, Xf4, Xf5, Xf6⟩ := froz_7 X;have Xlt := (ltH X);go_upto_region 24 with fail
           go_region
           go_upto_region 26 with fail
           clear N O m i b H E y z C A G D p F a M K F2 T Y S V F7 Z tm R Xc0 Xc1 Xc2 Xc3 Xc4 Xc5 Xc6 Xf0 Xf1 Xf2 Xf3 Xf4 Xf5 Xf6 Xlt;replace h := hk_drew h;replace L := L.drew;replace X := heap_drewS X;have zA : w3.heap.size ≤ w3.drew.heap.size := Nat.le_refl _;generalize w3.drew = w4 at zA h L X ⊢;obtain ⟨wa, wc, da, dc, ⟨N, O⟩, m, ⟨i, b, H, E, y, z, C, A⟩, ⟨G, -⟩, ⟨D, p⟩, F, a, tm, R⟩ := hk_cells h;have M := a (k * 8);have K := a (k * 8 + 1);have F2 := a (k * 8 + 2);have T := a (k * 8 + 3);have Y := a (k * 8 + 4);have S := a (k * 8 + 5);have V := a (k * 8 + 6);have F7 := a (k * 8 + 7);have Z := F k;simp only at m i b H E y z C A G D p
           obtain ⟨Xc0, Xc1, Xc2, Xc3, Xc4, Xc5, Xc6⟩ := cells_7 X;obtain ⟨Xf0, Xf1, Xf2, Xf3, Xf4, Xf5, Xf6⟩ := froz_7 X;have Xlt := (ltH X);go_wp2_with fail
           refine (l10Forget_any bb (k * 8) o s c _ i b M K).mono ?_;clear N O m i b H E y z C A G D p F a M K F2 T Y S V F7 Z tm R Xc0 Xc1 Xc2 Xc3 Xc4 Xc5 Xc6 Xf0 Xf1 Xf2 Xf3 Xf4 Xf5 Xf6 Xlt;rintro e LA ⟨rfl, DA⟩;rw [DA];clear DA LA;obtain ⟨h2, b2, r2⟩ := hk_fg h hw sA;simp only at h2 b2 r2
           have X2 : (fgW w4 bb (k * 8) o s c).heap[w.heap.size]? = _ := fg_row X (by omega);replace L := L.trans b2;generalize fgW w4 bb (k * 8) o s c = wf at h2 X2 L ⊢;clear h X r2 b2;have h := h2;have X := X2;clear h2 X2;obtain ⟨wa, wc, da, dc, ⟨N, O⟩, m, ⟨i, b, H, E, y, z, C, A⟩, ⟨G, -⟩, ⟨D, p⟩, F, a, tm, R⟩ := hk_cells h;have M := a (k * 8);have K := a (k * 8 + 1);have F2 := a (k * 8 + 2);have T := a (k * 8 + 3);have Y := a (k * 8 + 4);have S := a (k * 8 + 5);have V := a (k * 8 + 6);have F7 := a (k * 8 + 7);have Z := F k;simp only at m i b H E y z C A G D p
           obtain ⟨Xc0, Xc1, Xc2, Xc3, Xc4, Xc5, Xc6⟩ := cells_7 X;obtain ⟨Xf0, Xf1, Xf2, Xf3, Xf4, Xf5, Xf6⟩ := froz_7 X;have Xlt := (ltH X);go_wp2;go_ret2
           clear N O m i b H E y z C A G D p F a M K F2 T Y S V F7 Z tm R Xc0 Xc1 Xc2 Xc3 Xc4 Xc5 Xc6 Xf0 Xf1 Xf2 Xf3 Xf4 Xf5 Xf6 Xlt;have ho := msgs_one (B := B) (U := fun _ => False) (W := wf) (own_msg (sm64s 2) (sm64s 4) (show In64 c from ⟨by omega, by omega⟩) (sm64s 12) hkk64 (sm64s 0) (own_zero wf _)) (fun j q => q.elim) h.2.2.2.1;have pA := box_below wf (.cells #[nI 2, nI 4, nI c, nI 12, nI k, sL none 0 0, nI 0] 30);rw [HS.out];exact ⟨_, rfl, B, hk_keep h pA, ho, belowT L pA (hk_tw h)⟩
         ·have zo : (o == c) = false := by simp [qo]
          have HS : Hid (hearS k (ws, (o, s, false, kd, f, l, mk, d)) (r, c, tq, 3, (k : Int), dt, gg) = ((ws, heldE (o, s, false, kd, f, l, mk, d) (fgO o c) (fgS s c)), [letA k 2 c 12 [] 0], 1)) := by
           have e1 : stopA (ws, (o, s, false, kd, f, l, mk, d)) (r, c, tq, 3, (k : Int), dt, gg) = none := by
            unfold stopA;rw [if_neg (show ¬ (0 : Int) < kindA 3 from by decide), if_pos (show (3 : Int) = 3 from rfl)];rw [show betw c 0 3 = true from sA];rfl
           unfold Hid hearS;rw [e1];show ((hearA k (ws, (o, s, false, kd, f, l, mk, d)) (r, c, tq, 3, (k : Int), dt, gg)).1, (hearA k (ws, (o, s, false, kd, f, l, mk, d)) (r, c, tq, 3, (k : Int), dt, gg)).2, (1 : Int)) = _
           unfold hearA;rw [if_neg (show ¬ (0 : Int) < kindA 3 from by decide), if_pos (show (3 : Int) = 3 from rfl)];unfold putBackA;rw [if_neg (show ¬ ownB o c = true from by unfold ownB; rw [sA]; simp; omega)]
          clear qo;obtain ⟨wa, wc, da, dc, ⟨N, O⟩, m, ⟨i, b, H, E, y, z, C, A⟩, ⟨G, -⟩, ⟨D, p⟩, F, a, tm, R⟩ := hk_cells h;have M := a (k * 8);have K := a (k * 8 + 1);have F2 := a (k * 8 + 2);have T := a (k * 8 + 3);have Y := a (k * 8 + 4);have S := a (k * 8 + 5);have V := a (k * 8 + 6);have F7 := a (k * 8 + 7);have Z := F k;simp only at m i b H E y z C A G D p
          obtain ⟨Xc0, Xc1, Xc2, Xc3, Xc4, Xc5, Xc6⟩ := cells_7 X;obtain ⟨Xf0, Xf1, Xf2, Xf3, Xf4, Xf5, Xf6⟩ := froz_7 X;have Xlt := (ltH X);go_upto_region 24 with fail
          go_region
          go_upto_region 26 with fail
          clear N O m i b H E y z C A G D p F a M K F2 T Y S V F7 Z tm R Xc0 Xc1 Xc2 Xc3 Xc4 Xc5 Xc6 Xf0 Xf1 Xf2 Xf3 Xf4 Xf5 Xf6 Xlt;replace h := hk_drew h;replace L := L.drew;replace X := heap_drewS X;have zA : w3.heap.size ≤ w3.drew.heap.size := Nat.le_refl _;generalize w3.drew = w4 at zA h L X ⊢;obtain ⟨wa, wc, da, dc, ⟨N, O⟩, m, ⟨i, b, H, E, y, z, C, A⟩, ⟨G, -⟩, ⟨D, p⟩, F, a, tm, R⟩ := hk_cells h;have M := a (k * 8);have K := a (k * 8 + 1);have F2 := a (k * 8 + 2);have T := a (k * 8 + 3);have Y := a (k * 8 + 4);have S := a (k * 8 + 5);have V := a (k * 8 + 6);have F7 := a (k * 8 + 7);have Z := F k;simp only at m i b H E y z C A G D p
          obtain ⟨Xc0, Xc1, Xc2, Xc3, Xc4, Xc5, Xc6⟩ := cells_7 X;obtain ⟨Xf0, Xf1, Xf2, Xf3, Xf4, Xf5, Xf6⟩ := froz_7 X;have Xlt := (ltH X);go_wp2_with fail
          refine (l10Forget_any bb (k * 8) o s c _ i b M K).mono ?_;clear N O m i b H E y z C A G D p F a M K F2 T Y S V F7 Z tm R Xc0 Xc1 Xc2 Xc3 Xc4 Xc5 Xc6 Xf0 Xf1 Xf2 Xf3 Xf4 Xf5 Xf6 Xlt;rintro e LA ⟨rfl, DA⟩;rw [DA];clear DA LA;obtain ⟨h2, b2, r2⟩ := hk_fg h hw sA;simp only at h2 b2 r2
          have X2 : (fgW w4 bb (k * 8) o s c).heap[w.heap.size]? = _ := fg_row X (by omega);replace L := L.trans b2;generalize fgW w4 bb (k * 8) o s c = wf at h2 X2 L ⊢;clear h X r2 b2;have h := h2;have X := X2;clear h2 X2;obtain ⟨wa, wc, da, dc, ⟨N, O⟩, m, ⟨i, b, H, E, y, z, C, A⟩, ⟨G, -⟩, ⟨D, p⟩, F, a, tm, R⟩ := hk_cells h;have M := a (k * 8);have K := a (k * 8 + 1);have F2 := a (k * 8 + 2);have T := a (k * 8 + 3);have Y := a (k * 8 + 4);have S := a (k * 8 + 5);have V := a (k * 8 + 6);have F7 := a (k * 8 + 7);have Z := F k;simp only at m i b H E y z C A G D p
          obtain ⟨Xc0, Xc1, Xc2, Xc3, Xc4, Xc5, Xc6⟩ := cells_7 X;obtain ⟨Xf0, Xf1, Xf2, Xf3, Xf4, Xf5, Xf6⟩ := froz_7 X;have Xlt := (ltH X);go_wp2;go_ret2
          clear N O m i b H E y z C A G D p F a M K F2 T Y S V F7 Z tm R Xc0 Xc1 Xc2 Xc3 Xc4 Xc5 Xc6 Xf0 Xf1 Xf2 Xf3 Xf4 Xf5 Xf6 Xlt;have ho := msgs_one (B := B) (U := fun _ => False) (W := wf) (own_msg (sm64s 2) (sm64s 4) (show In64 c from ⟨by omega, by omega⟩) (sm64s 12) hkk64 (sm64s 0) (own_zero wf _)) (fun j q => q.elim) h.2.2.2.1;have pA := box_below wf (.cells #[nI 2, nI 4, nI c, nI 12, nI k, sL none 0 0, nI 0] 30);rw [HS.out];exact ⟨_, rfl, B, hk_keep h pA, ho, belowT L pA (hk_tw h)⟩
       ·have sA : betw c 0 3 = false := by unfold betw; simp; omega
        have HS : Hid (hearS k (ws, (o, s, bz, kd, f, l, mk, d)) (r, c, tq, 3, (k : Int), dt, gg) = ((ws, (o, s, bz, kd, f, l, mk, d)), [], 0)) := by
         have e1 : stopA (ws, (o, s, bz, kd, f, l, mk, d)) (r, c, tq, 3, (k : Int), dt, gg) = some 0 := by
          unfold stopA;rw [if_neg (show ¬ (0 : Int) < kindA 3 from by decide), if_pos (show (3 : Int) = 3 from rfl)];rw [show betw c 0 3 = false from sA];rfl
         unfold Hid hearS;rw [e1]
        obtain ⟨wa, wc, da, dc, ⟨N, O⟩, m, ⟨i, b, H, E, y, z, C, A⟩, ⟨G, -⟩, ⟨D, p⟩, F, a, tm, R⟩ := hk_cells h;have M := a (k * 8);have K := a (k * 8 + 1);have F2 := a (k * 8 + 2);have T := a (k * 8 + 3);have Y := a (k * 8 + 4);have S := a (k * 8 + 5);have V := a (k * 8 + 6);have F7 := a (k * 8 + 7);have Z := F k;simp only at m i b H E y z C A G D p
        obtain ⟨Xc0, Xc1, Xc2, Xc3, Xc4, Xc5, Xc6⟩ := cells_7 X;obtain ⟨Xf0, Xf1, Xf2, Xf3, Xf4, Xf5, Xf6⟩ := froz_7 X;have Xlt := (ltH X);go_wp2;go_ret2
        clear N O m i b H E y z C A G D p F a M K F2 T Y S V F7 Z tm R Xc0 Xc1 Xc2 Xc3 Xc4 Xc5 Xc6 Xf0 Xf1 Xf2 Xf3 Xf4 Xf5 Xf6 Xlt;rw [HS.out];exact ⟨_, rfl, B, h, msgsR.own_mono I (rng_sub (Nat.le_refl _) (by omega)), L⟩
      ·have e3 : (n == 3) = false := beq_false_of_ne n3;by_cases n8 : n = 8
       ·subst n8;by_cases qc : c ≤ 3
        ·cases hA : ansB (o, s, bz, kd, f, l, mk, d) c
         ·skip
          have HS : Hid (hearS k (ws, (o, s, bz, kd, f, l, mk, d)) (r, c, tq, 8, (k : Int), dt, gg) = ((ws, (o, s, bz, kd, f, l, mk, d)), [], 0)) := by
           have e1 : stopA (ws, (o, s, bz, kd, f, l, mk, d)) (r, c, tq, 8, (k : Int), dt, gg) = some 0 := by
            unfold stopA;rw [if_neg (show ¬ (0 : Int) < kindA 8 from by decide), if_neg (show ¬ (8 : Int) = 3 from by decide), if_pos (show (8 : Int) = 8 ∨ (8 : Int) = 9 from by decide)];rw [hA];rfl
           unfold Hid hearS;rw [e1]
          have J : Hid _ := aI h L;obtain ⟨wa, wc, da, dc, ⟨N, O⟩, m, ⟨i, b, H, E, y, z, C, A⟩, ⟨G, -⟩, ⟨D, p⟩, F, a, tm, R⟩ := hk_cells h;have M := a (k * 8);have K := a (k * 8 + 1);have F2 := a (k * 8 + 2);have T := a (k * 8 + 3);have Y := a (k * 8 + 4);have S := a (k * 8 + 5);have V := a (k * 8 + 6);have F7 := a (k * 8 + 7);have Z := F k;simp only at m i b H E y z C A G D p
          obtain ⟨Xc0, Xc1, Xc2, Xc3, Xc4, Xc5, Xc6⟩ := cells_7 X;obtain ⟨Xf0, Xf1, Xf2, Xf3, Xf4, Xf5, Xf6⟩ := froz_7 X;have Xlt := (ltH X);go_wp2_with fail
          refine (l13Answer_no ws o s bz kd f l mk d r c tq 8 gg dt ma mc2 _ J.out.1 (hd9 hd J.out.2) hm hw c0 qc hA hlz).mono ?_;clear N O m i b H E y z C A G D p F a M K F2 T Y S V F7 Z tm R Xc0 Xc1 Xc2 Xc3 Xc4 Xc5 Xc6 Xf0 Xf1 Xf2 Xf3 Xf4 Xf5 Xf6 Xlt;rintro e w9 ⟨ms, rfl, B8, k9, m9, b9⟩;have HF : Hid _ := aI k9 (aI m9 (J.out.2.trans b9));clear k9 m9 b9 h X L I;go_wp2;go_ret2
          rw [HS.out];exact ⟨ms, rfl, B8, HF.out⟩
         ·have qA := hA;unfold ansB at qA;simp only [Bool.and_eq_true, decide_eq_true_eq] at qA;obtain ⟨rfl, bB, NA⟩ := qA;have HS : Hid (hearS k (ws, (o, s, true, kd, f, l, mk, d)) (r, c, tq, 8, (k : Int), dt, gg) = ((ansA k (ws, (o, s, true, kd, f, l, mk, d)) (r, c, tq, 8, (k : Int), dt, gg)).1, (ansA k (ws, (o, s, true, kd, f, l, mk, d)) (r, c, tq, 8, (k : Int), dt, gg)).2, 1)) := by
           have e1 : stopA (ws, (o, s, true, kd, f, l, mk, d)) (r, c, tq, 8, (k : Int), dt, gg) = none := by
            unfold stopA;rw [if_neg (show ¬ (0 : Int) < kindA 8 from by decide), if_neg (show ¬ (8 : Int) = 3 from by decide), if_pos (show (8 : Int) = 8 ∨ (8 : Int) = 9 from by decide)];rw [hA];rfl
           unfold Hid hearS;rw [e1];show ((hearA k (ws, (o, s, true, kd, f, l, mk, d)) (r, c, tq, 8, (k : Int), dt, gg)).1, (hearA k (ws, (o, s, true, kd, f, l, mk, d)) (r, c, tq, 8, (k : Int), dt, gg)).2, (1 : Int)) = _
           unfold hearA;rw [if_neg (show ¬ (0 : Int) < kindA 8 from by decide), if_neg (show ¬ (8 : Int) = 3 from by decide), if_pos (show (8 : Int) = 8 ∨ (8 : Int) = 9 from by decide)]
          have J : Hid _ := aI h L;obtain ⟨wa, wc, da, dc, ⟨N, O⟩, m, ⟨i, b, H, E, y, z, C, A⟩, ⟨G, -⟩, ⟨D, p⟩, F, a, tm, R⟩ := hk_cells h;have M := a (k * 8);have K := a (k * 8 + 1);have F2 := a (k * 8 + 2);have T := a (k * 8 + 3);have Y := a (k * 8 + 4);have S := a (k * 8 + 5);have V := a (k * 8 + 6);have F7 := a (k * 8 + 7);have Z := F k;simp only at m i b H E y z C A G D p
          obtain ⟨Xc0, Xc1, Xc2, Xc3, Xc4, Xc5, Xc6⟩ := cells_7 X;obtain ⟨Xf0, Xf1, Xf2, Xf3, Xf4, Xf5, Xf6⟩ := froz_7 X;have Xlt := (ltH X);go_wp2_with fail
          refine (l13Answer_yes ws o s kd f l mk d r c tq 8 gg dt ma mc2 _ J.out.1 (hd9 hd J.out.2) hm hw c0 qc NA bB (endc_ans he NA hl hdt) HE).mono ?_;clear N O m i b H E y z C A G D p F a M K F2 T Y S V F7 Z tm R Xc0 Xc1 Xc2 Xc3 Xc4 Xc5 Xc6 Xf0 Xf1 Xf2 Xf3 Xf4 Xf5 Xf6 Xlt;rintro e w9 ⟨ms, rfl, B8, k9, m9, b9⟩;have HF : Hid _ := aI k9 (aI m9 (J.out.2.trans b9));clear k9 m9 b9 h X L I;go_wp2;go_ret2
          rw [HS.out];exact ⟨ms, rfl, B8, HF.out⟩
        ·have hA : ansB (o, s, bz, kd, f, l, mk, d) c = false := by
           cases q : ansB (o, s, bz, kd, f, l, mk, d) c
           ·rfl
           ·unfold ansB at q;simp only [Bool.and_eq_true, decide_eq_true_eq] at q;have := hol_c hw q.2.2;omega
         have HS : Hid (hearS k (ws, (o, s, bz, kd, f, l, mk, d)) (r, c, tq, 8, (k : Int), dt, gg) = ((ws, (o, s, bz, kd, f, l, mk, d)), [], 0)) := by
          have e1 : stopA (ws, (o, s, bz, kd, f, l, mk, d)) (r, c, tq, 8, (k : Int), dt, gg) = some 0 := by
           unfold stopA;rw [if_neg (show ¬ (0 : Int) < kindA 8 from by decide), if_neg (show ¬ (8 : Int) = 3 from by decide), if_pos (show (8 : Int) = 8 ∨ (8 : Int) = 9 from by decide)];rw [hA];rfl
          unfold Hid hearS;rw [e1]
         obtain ⟨wa, wc, da, dc, ⟨N, O⟩, m, ⟨i, b, H, E, y, z, C, A⟩, ⟨G, -⟩, ⟨D, p⟩, F, a, tm, R⟩ := hk_cells h;have M := a (k * 8);have K := a (k * 8 + 1);have F2 := a (k * 8 + 2);have T := a (k * 8 + 3);have Y := a (k * 8 + 4);have S := a (k * 8 + 5);have V := a (k * 8 + 6);have F7 := a (k * 8 + 7);have Z := F k;simp only at m i b H E y z C A G D p
         obtain ⟨Xc0, Xc1, Xc2, Xc3, Xc4, Xc5, Xc6⟩ := cells_7 X;obtain ⟨Xf0, Xf1, Xf2, Xf3, Xf4, Xf5, Xf6⟩ := froz_7 X;have Xlt := (ltH X);go_wp2;go_ret2
         clear N O m i b H E y z C A G D p F a M K F2 T Y S V F7 Z tm R Xc0 Xc1 Xc2 Xc3 Xc4 Xc5 Xc6 Xf0 Xf1 Xf2 Xf3 Xf4 Xf5 Xf6 Xlt;rw [HS.out];exact ⟨_, rfl, B, h, msgsR.own_mono I (rng_sub (Nat.le_refl _) (by omega)), L⟩
       ·have e8 : (n == 8) = false := beq_false_of_ne n8;by_cases n9 : n = 9
        ·subst n9;by_cases qc : c ≤ 3
         ·cases hA : ansB (o, s, bz, kd, f, l, mk, d) c
          ·skip
           have HS : Hid (hearS k (ws, (o, s, bz, kd, f, l, mk, d)) (r, c, tq, 9, (k : Int), dt, gg) = ((ws, (o, s, bz, kd, f, l, mk, d)), [], 0)) := by
            have e1 : stopA (ws, (o, s, bz, kd, f, l, mk, d)) (r, c, tq, 9, (k : Int), dt, gg) = some 0 := by
             unfold stopA;rw [if_neg (show ¬ (0 : Int) < kindA 9 from by decide), if_neg (show ¬ (9 : Int) = 3 from by decide), if_pos (show (9 : Int) = 8 ∨ (9 : Int) = 9 from by decide)];rw [hA];rfl
            unfold Hid hearS;rw [e1]
           have J : Hid _ := aI h L;obtain ⟨wa, wc, da, dc, ⟨N, O⟩, m, ⟨i, b, H, E, y, z, C, A⟩, ⟨G, -⟩, ⟨D, p⟩, F, a, tm, R⟩ := hk_cells h;have M := a (k * 8);have K := a (k * 8 + 1);have F2 := a (k * 8 + 2);have T := a (k * 8 + 3);have Y := a (k * 8 + 4);have S := a (k * 8 + 5);have V := a (k * 8 + 6);have F7 := a (k * 8 + 7);have Z := F k;simp only at m i b H E y z C A G D p
           obtain ⟨Xc0, Xc1, Xc2, Xc3, Xc4, Xc5, Xc6⟩ := cells_7 X;obtain ⟨Xf0, Xf1, Xf2, Xf3, Xf4, Xf5, Xf6⟩ := froz_7 X;have Xlt := (ltH X);go_wp2_with fail
           refine (l13Answer_no ws o s bz kd f l mk d r c tq 9 gg dt ma mc2 _ J.out.1 (hd9 hd J.out.2) hm hw c0 qc hA hlz).mono ?_;clear N O m i b H E y z C A G D p F a M K F2 T Y S V F7 Z tm R Xc0 Xc1 Xc2 Xc3 Xc4 Xc5 Xc6 Xf0 Xf1 Xf2 Xf3 Xf4 Xf5 Xf6 Xlt;rintro e w9 ⟨ms, rfl, B8, k9, m9, b9⟩;have HF : Hid _ := aI k9 (aI m9 (J.out.2.trans b9));clear k9 m9 b9 h X L I;go_wp2;go_ret2
           rw [HS.out];exact ⟨ms, rfl, B8, HF.out⟩
          ·have qA := hA;unfold ansB at qA;simp only [Bool.and_eq_true, decide_eq_true_eq] at qA;obtain ⟨rfl, bB, NA⟩ := qA;have HS : Hid (hearS k (ws, (o, s, true, kd, f, l, mk, d)) (r, c, tq, 9, (k : Int), dt, gg) = ((ansA k (ws, (o, s, true, kd, f, l, mk, d)) (r, c, tq, 9, (k : Int), dt, gg)).1, (ansA k (ws, (o, s, true, kd, f, l, mk, d)) (r, c, tq, 9, (k : Int), dt, gg)).2, 1)) := by
            have e1 : stopA (ws, (o, s, true, kd, f, l, mk, d)) (r, c, tq, 9, (k : Int), dt, gg) = none := by
             unfold stopA;rw [if_neg (show ¬ (0 : Int) < kindA 9 from by decide), if_neg (show ¬ (9 : Int) = 3 from by decide), if_pos (show (9 : Int) = 8 ∨ (9 : Int) = 9 from by decide)];rw [hA];rfl
            unfold Hid hearS;rw [e1];show ((hearA k (ws, (o, s, true, kd, f, l, mk, d)) (r, c, tq, 9, (k : Int), dt, gg)).1, (hearA k (ws, (o, s, true, kd, f, l, mk, d)) (r, c, tq, 9, (k : Int), dt, gg)).2, (1 : Int)) = _
            unfold hearA;rw [if_neg (show ¬ (0 : Int) < kindA 9 from by decide), if_neg (show ¬ (9 : Int) = 3 from by decide), if_pos (show (9 : Int) = 8 ∨ (9 : Int) = 9 from by decide)]
           have J : Hid _ := aI h L;obtain ⟨wa, wc, da, dc, ⟨N, O⟩, m, ⟨i, b, H, E, y, z, C, A⟩, ⟨G, -⟩, ⟨D, p⟩, F, a, tm, R⟩ := hk_cells h;have M := a (k * 8);have K := a (k * 8 + 1);have F2 := a (k * 8 + 2);have T := a (k * 8 + 3);have Y := a (k * 8 + 4);have S := a (k * 8 + 5);have V := a (k * 8 + 6);have F7 := a (k * 8 + 7);have Z := F k;simp only at m i b H E y z C A G D p
           obtain ⟨Xc0, Xc1, Xc2, Xc3, Xc4, Xc5, Xc6⟩ := cells_7 X;obtain ⟨Xf0, Xf1, Xf2, Xf3, Xf4, Xf5, Xf6⟩ := froz_7 X;have Xlt := (ltH X);go_wp2_with fail
           refine (l13Answer_yes ws o s kd f l mk d r c tq 9 gg dt ma mc2 _ J.out.1 (hd9 hd J.out.2) hm hw c0 qc NA bB (endc_ans he NA hl hdt) HE).mono ?_;clear N O m i b H E y z C A G D p F a M K F2 T Y S V F7 Z tm R Xc0 Xc1 Xc2 Xc3 Xc4 Xc5 Xc6 Xf0 Xf1 Xf2 Xf3 Xf4 Xf5 Xf6 Xlt;rintro e w9 ⟨ms, rfl, B8, k9, m9, b9⟩;have HF : Hid _ := aI k9 (aI m9 (J.out.2.trans b9));clear k9 m9 b9 h X L I;go_wp2;go_ret2
           rw [HS.out];exact ⟨ms, rfl, B8, HF.out⟩
         ·have hA : ansB (o, s, bz, kd, f, l, mk, d) c = false := by
            cases q : ansB (o, s, bz, kd, f, l, mk, d) c
            ·rfl
            ·unfold ansB at q;simp only [Bool.and_eq_true, decide_eq_true_eq] at q;have := hol_c hw q.2.2;omega
          have HS : Hid (hearS k (ws, (o, s, bz, kd, f, l, mk, d)) (r, c, tq, 9, (k : Int), dt, gg) = ((ws, (o, s, bz, kd, f, l, mk, d)), [], 0)) := by
           have e1 : stopA (ws, (o, s, bz, kd, f, l, mk, d)) (r, c, tq, 9, (k : Int), dt, gg) = some 0 := by
            unfold stopA;rw [if_neg (show ¬ (0 : Int) < kindA 9 from by decide), if_neg (show ¬ (9 : Int) = 3 from by decide), if_pos (show (9 : Int) = 8 ∨ (9 : Int) = 9 from by decide)];rw [hA];rfl
           unfold Hid hearS;rw [e1]
          obtain ⟨wa, wc, da, dc, ⟨N, O⟩, m, ⟨i, b, H, E, y, z, C, A⟩, ⟨G, -⟩, ⟨D, p⟩, F, a, tm, R⟩ := hk_cells h;have M := a (k * 8);have K := a (k * 8 + 1);have F2 := a (k * 8 + 2);have T := a (k * 8 + 3);have Y := a (k * 8 + 4);have S := a (k * 8 + 5);have V := a (k * 8 + 6);have F7 := a (k * 8 + 7);have Z := F k;simp only at m i b H E y z C A G D p
          obtain ⟨Xc0, Xc1, Xc2, Xc3, Xc4, Xc5, Xc6⟩ := cells_7 X;obtain ⟨Xf0, Xf1, Xf2, Xf3, Xf4, Xf5, Xf6⟩ := froz_7 X;have Xlt := (ltH X);go_wp2;go_ret2
          clear N O m i b H E y z C A G D p F a M K F2 T Y S V F7 Z tm R Xc0 Xc1 Xc2 Xc3 Xc4 Xc5 Xc6 Xf0 Xf1 Xf2 Xf3 Xf4 Xf5 Xf6 Xlt;rw [HS.out];exact ⟨_, rfl, B, h, msgsR.own_mono I (rng_sub (Nat.le_refl _) (by omega)), L⟩
        ·have e9 : (n == 9) = false := beq_false_of_ne n9;by_cases ZA : n = 10
         ·subst ZA;cases hA : doneB19 (o, s, bz, kd, f, l, mk, d) c
          ·have qA : ¬ (bz = true ∧ l = 0 ∧ f = c) := fun q => by
             rw [show doneB19 (o, s, bz, kd, f, l, mk, d) c = (bz && (decide (l = 0) && decide (f = c))) from rfl, q.1, decide_eq_true q.2.1, decide_eq_true q.2.2] at hA;cases hA
           have HS : Hid (hearS k (ws, (o, s, bz, kd, f, l, mk, d)) (r, c, tq, 10, (k : Int), dt, gg) = ((ws, (o, s, bz, kd, f, l, mk, d)), [], 0)) := by
            have e1 : stopA (ws, (o, s, bz, kd, f, l, mk, d)) (r, c, tq, 10, (k : Int), dt, gg) = some 0 := by
             unfold stopA;rw [if_neg (show ¬ (0 : Int) < kindA 10 from by decide), if_neg (show ¬ (10 : Int) = 3 from by decide), if_neg (show ¬ ((10 : Int) = 8 ∨ (10 : Int) = 9) from by decide), if_pos (show (10 : Int) = 10 from rfl)];rw [hA];rfl
            unfold Hid hearS;rw [e1]
           skip
           cases bz
           ·skip
            obtain ⟨wa, wc, da, dc, ⟨N, O⟩, m, ⟨i, b, H, E, y, z, C, A⟩, ⟨G, -⟩, ⟨D, p⟩, F, a, tm, R⟩ := hk_cells h;have M := a (k * 8);have K := a (k * 8 + 1);have F2 := a (k * 8 + 2);have T := a (k * 8 + 3);have Y := a (k * 8 + 4);have S := a (k * 8 + 5);have V := a (k * 8 + 6);have F7 := a (k * 8 + 7);have Z := F k;simp only at m i b H E y z C A G D p
            obtain ⟨Xc0, Xc1, Xc2, Xc3, Xc4, Xc5, Xc6⟩ := cells_7 X;obtain ⟨Xf0, Xf1, Xf2, Xf3, Xf4, Xf5, Xf6⟩ := froz_7 X;have Xlt := (ltH X);go_upto_region 33 with fail
            go_region
            go_wp2;go_ret2
            clear N O m i b H E y z C A G D p F a M K F2 T Y S V F7 Z tm R Xc0 Xc1 Xc2 Xc3 Xc4 Xc5 Xc6 Xf0 Xf1 Xf2 Xf3 Xf4 Xf5 Xf6 Xlt;rw [HS.out];exact ⟨_, rfl, B, hk_drew h, msgsR.own_mono (own_drewS I) (rng_sub (Nat.le_refl _) (show w2.heap.size ≤ w3.drew.heap.size from FA)), L.drew⟩
           ·by_cases ql : l = 0
            ·subst ql;have zf : (f == c) = false := beq_false_of_ne fun q => qA ⟨rfl, rfl, q⟩;obtain ⟨wa, wc, da, dc, ⟨N, O⟩, m, ⟨i, b, H, E, y, z, C, A⟩, ⟨G, -⟩, ⟨D, p⟩, F, a, tm, R⟩ := hk_cells h;have M := a (k * 8);have K := a (k * 8 + 1);have F2 := a (k * 8 + 2);have T := a (k * 8 + 3);have Y := a (k * 8 + 4);have S := a (k * 8 + 5);have V := a (k * 8 + 6);have F7 := a (k * 8 + 7);have Z := F k;simp only at m i b H E y z C A G D p
             obtain ⟨Xc0, Xc1, Xc2, Xc3, Xc4, Xc5, Xc6⟩ := cells_7 X;obtain ⟨Xf0, Xf1, Xf2, Xf3, Xf4, Xf5, Xf6⟩ := froz_7 X;have Xlt := (ltH X);go_upto_region 33 with fail
             go_region
             go_wp2;go_ret2
             clear N O m i b H E y z C A G D p F a M K F2 T Y S V F7 Z tm R Xc0 Xc1 Xc2 Xc3 Xc4 Xc5 Xc6 Xf0 Xf1 Xf2 Xf3 Xf4 Xf5 Xf6 Xlt;rw [HS.out];exact ⟨_, rfl, B, hk_drew h, msgsR.own_mono (own_drewS I) (rng_sub (Nat.le_refl _) (show w2.heap.size ≤ w3.drew.heap.size from FA)), L.drew⟩
            ·have zl : (l == 0) = false := beq_false_of_ne ql;obtain ⟨wa, wc, da, dc, ⟨N, O⟩, m, ⟨i, b, H, E, y, z, C, A⟩, ⟨G, -⟩, ⟨D, p⟩, F, a, tm, R⟩ := hk_cells h;have M := a (k * 8);have K := a (k * 8 + 1);have F2 := a (k * 8 + 2);have T := a (k * 8 + 3);have Y := a (k * 8 + 4);have S := a (k * 8 + 5);have V := a (k * 8 + 6);have F7 := a (k * 8 + 7);have Z := F k;simp only at m i b H E y z C A G D p
             obtain ⟨Xc0, Xc1, Xc2, Xc3, Xc4, Xc5, Xc6⟩ := cells_7 X;obtain ⟨Xf0, Xf1, Xf2, Xf3, Xf4, Xf5, Xf6⟩ := froz_7 X;have Xlt := (ltH X);go_upto_region 33 with fail
             go_region
             go_wp2;go_ret2
             clear N O m i b H E y z C A G D p F a M K F2 T Y S V F7 Z tm R Xc0 Xc1 Xc2 Xc3 Xc4 Xc5 Xc6 Xf0 Xf1 Xf2 Xf3 Xf4 Xf5 Xf6 Xlt;rw [HS.out];exact ⟨_, rfl, B, hk_drew h, msgsR.own_mono (own_drewS I) (rng_sub (Nat.le_refl _) (show w2.heap.size ≤ w3.drew.heap.size from FA)), L.drew⟩
          ·have qA := hA;unfold doneB19 at qA;simp only [Bool.and_eq_true, decide_eq_true_eq] at qA;obtain ⟨rfl, rfl, rfl⟩ := qA;have HS : Hid (hearS k (ws, (o, s, true, kd, f, 0, mk, d)) (r, f, tq, 10, (k : Int), dt, gg) = ((ws, freeE (o, s, true, kd, f, 0, mk, d)), [], 1)) := by
            have e1 : stopA (ws, (o, s, true, kd, f, 0, mk, d)) (r, f, tq, 10, (k : Int), dt, gg) = none := by
             unfold stopA;rw [if_neg (show ¬ (0 : Int) < kindA 10 from by decide), if_neg (show ¬ (10 : Int) = 3 from by decide), if_neg (show ¬ ((10 : Int) = 8 ∨ (10 : Int) = 9) from by decide), if_pos (show (10 : Int) = 10 from rfl)];rw [hA];rfl
            unfold Hid hearS;rw [e1];show ((hearA k (ws, (o, s, true, kd, f, 0, mk, d)) (r, f, tq, 10, (k : Int), dt, gg)).1, (hearA k (ws, (o, s, true, kd, f, 0, mk, d)) (r, f, tq, 10, (k : Int), dt, gg)).2, (1 : Int)) = _
            unfold hearA;rw [if_neg (show ¬ (0 : Int) < kindA 10 from by decide), if_neg (show ¬ (10 : Int) = 3 from by decide), if_neg (show ¬ ((10 : Int) = 8 ∨ (10 : Int) = 9) from by decide)]
           obtain ⟨wa, wc, da, dc, ⟨N, O⟩, m, ⟨i, b, H, E, y, z, C, A⟩, ⟨G, -⟩, ⟨D, p⟩, F, a, tm, R⟩ := hk_cells h;have M := a (k * 8);have K := a (k * 8 + 1);have F2 := a (k * 8 + 2);have T := a (k * 8 + 3);have Y := a (k * 8 + 4);have S := a (k * 8 + 5);have V := a (k * 8 + 6);have F7 := a (k * 8 + 7);have Z := F k;simp only at m i b H E y z C A G D p
           obtain ⟨Xc0, Xc1, Xc2, Xc3, Xc4, Xc5, Xc6⟩ := cells_7 X;obtain ⟨Xf0, Xf1, Xf2, Xf3, Xf4, Xf5, Xf6⟩ := froz_7 X;have Xlt := (ltH X);go_upto_region 33 with fail
           go_region
           go_upto_region 34 with fail
           clear N O m i b H E y z C A G D p F a M K F2 T Y S V F7 Z tm R Xc0 Xc1 Xc2 Xc3 Xc4 Xc5 Xc6 Xf0 Xf1 Xf2 Xf3 Xf4 Xf5 Xf6 Xlt;replace h := hk_drew h;replace L := L.drew;replace X := heap_drewS X;replace I := own_drewS I;have zA : w3.heap.size ≤ w3.drew.heap.size := Nat.le_refl _;generalize w3.drew = w4 at zA h L X I ⊢;obtain ⟨wa, wc, da, dc, ⟨N, O⟩, m, ⟨i, b, H, E, y, z, C, A⟩, ⟨G, -⟩, ⟨D, p⟩, F, a, tm, R⟩ := hk_cells h;have M := a (k * 8);have K := a (k * 8 + 1);have F2 := a (k * 8 + 2);have T := a (k * 8 + 3);have Y := a (k * 8 + 4);have S := a (k * 8 + 5);have V := a (k * 8 + 6);have F7 := a (k * 8 + 7);have Z := F k;simp only at m i b H E y z C A G D p
           obtain ⟨Xc0, Xc1, Xc2, Xc3, Xc4, Xc5, Xc6⟩ := cells_7 X;obtain ⟨Xf0, Xf1, Xf2, Xf3, Xf4, Xf5, Xf6⟩ := froz_7 X;have Xlt := (ltH X);go_region
           go_upto_region 35 with fail
           clear N O m i b H E y z C A G D p F a M K F2 T Y S V F7 Z tm R Xc0 Xc1 Xc2 Xc3 Xc4 Xc5 Xc6 Xf0 Xf1 Xf2 Xf3 Xf4 Xf5 Xf6 Xlt;have mB := hk_b_lt h;replace X : ((((((((w4.setCell ⟨bb, k * 8, none⟩ (nI o)).setCell ⟨bb, k * 8 + 1, none⟩ (nI s)).setCell ⟨bb, k * 8 + 2, none⟩ (.bool false)).setCell ⟨bb, k * 8 + 3, none⟩ (nI 0)).setCell ⟨bb, k * 8 + 4, none⟩ (nI 0)).setCell ⟨bb, k * 8 + 5, none⟩ (nI 0)).setCell ⟨bb, k * 8 + 6, none⟩ (nI 0)).setCell ⟨bb, k * 8 + 7, none⟩ (sL none 0 0)).heap[w.heap.size]? = _ := free_row X (by omega);replace I : _ := free_own (w := w4) (bb := bb) (v0 := nI o) (v1 := nI s) (v2 := .bool false) (v3 := nI 0) (v4 := nI 0) (v5 := nI 0) (v6 := nI 0) (v7 := sL none 0 0) (n0 := k * 8) (n1 := k * 8 + 1) (n2 := k * 8 + 2) (n3 := k * 8 + 3) (n4 := k * 8 + 4) (n5 := k * 8 + 5) (n6 := k * 8 + 6) (n7 := k * 8 + 7) I (fun q => by have := q.1; omega);replace L : Below t w ((((((((w4.setCell ⟨bb, k * 8, none⟩ (nI o)).setCell ⟨bb, k * 8 + 1, none⟩ (nI s)).setCell ⟨bb, k * 8 + 2, none⟩ (.bool false)).setCell ⟨bb, k * 8 + 3, none⟩ (nI 0)).setCell ⟨bb, k * 8 + 4, none⟩ (nI 0)).setCell ⟨bb, k * 8 + 5, none⟩ (nI 0)).setCell ⟨bb, k * 8 + 6, none⟩ (nI 0)).setCell ⟨bb, k * 8 + 7, none⟩ (sL none 0 0)) := free_below L mB.1;replace h := hk_free h;simp only at h
           have kB : w4.heap.size ≤ ((((((((w4.setCell ⟨bb, k * 8, none⟩ (nI o)).setCell ⟨bb, k * 8 + 1, none⟩ (nI s)).setCell ⟨bb, k * 8 + 2, none⟩ (.bool false)).setCell ⟨bb, k * 8 + 3, none⟩ (nI 0)).setCell ⟨bb, k * 8 + 4, none⟩ (nI 0)).setCell ⟨bb, k * 8 + 5, none⟩ (nI 0)).setCell ⟨bb, k * 8 + 6, none⟩ (nI 0)).setCell ⟨bb, k * 8 + 7, none⟩ (sL none 0 0)).heap.size := by simp
           clear mB;generalize ((((((((w4.setCell ⟨bb, k * 8, none⟩ (nI o)).setCell ⟨bb, k * 8 + 1, none⟩ (nI s)).setCell ⟨bb, k * 8 + 2, none⟩ (.bool false)).setCell ⟨bb, k * 8 + 3, none⟩ (nI 0)).setCell ⟨bb, k * 8 + 4, none⟩ (nI 0)).setCell ⟨bb, k * 8 + 5, none⟩ (nI 0)).setCell ⟨bb, k * 8 + 6, none⟩ (nI 0)).setCell ⟨bb, k * 8 + 7, none⟩ (sL none 0 0)) = w5 at kB h L X I ⊢;replace h := hk_drew h;replace L := L.drew;replace X := heap_drewS X;replace I := own_drewS I;have iB : w5.heap.size ≤ w5.drew.heap.size := Nat.le_refl _;generalize w5.drew = w6 at iB h L X I ⊢;obtain ⟨wa, wc, da, dc, ⟨N, O⟩, m, ⟨i, b, H, E, y, z, C, A⟩, ⟨G, -⟩, ⟨D, p⟩, F, a, tm, R⟩ := hk_cells h;have M := a (k * 8);have K := a (k * 8 + 1);have F2 := a (k * 8 + 2);have T := a (k * 8 + 3);have Y := a (k * 8 + 4);have S := a (k * 8 + 5);have V := a (k * 8 + 6);have F7 := a (k * 8 + 7);have Z := F k;simp only at m i b H E y z C A G D p
           obtain ⟨Xc0, Xc1, Xc2, Xc3, Xc4, Xc5, Xc6⟩ := cells_7 X;obtain ⟨Xf0, Xf1, Xf2, Xf3, Xf4, Xf5, Xf6⟩ := froz_7 X;have Xlt := (ltH X);go_wp2;go_ret2
           clear N O m i b H E y z C A G D p F a M K F2 T Y S V F7 Z tm R Xc0 Xc1 Xc2 Xc3 Xc4 Xc5 Xc6 Xf0 Xf1 Xf2 Xf3 Xf4 Xf5 Xf6 Xlt;rw [HS.out];exact ⟨_, rfl, B, h, msgsR.own_mono I (rng_sub (Nat.le_refl _) (by omega)), L⟩
         ·have OB : (n == 10) = false := beq_false_of_ne ZA;have HS : Hid (hearS k (ws, (o, s, bz, kd, f, l, mk, d)) (r, c, tq, n, (k : Int), dt, gg) = ((ws, (o, s, bz, kd, f, l, mk, d)), [], 0)) := by
           have e1 : stopA (ws, (o, s, bz, kd, f, l, mk, d)) (r, c, tq, n, (k : Int), dt, gg) = some 0 := by
            unfold stopA;rw [if_neg (show ¬ (0 : Int) < kindA n from by unfold kindA; simp [n1, n2, n4, n5]), if_neg (show ¬ n = 3 from n3), if_neg (show ¬ (n = 8 ∨ n = 9) from fun q => q.elim n8 n9), if_neg (show ¬ n = 10 from ZA)]
           unfold Hid hearS;rw [e1]
          obtain ⟨wa, wc, da, dc, ⟨N, O⟩, m, ⟨i, b, H, E, y, z, C, A⟩, ⟨G, -⟩, ⟨D, p⟩, F, a, tm, R⟩ := hk_cells h;have M := a (k * 8);have K := a (k * 8 + 1);have F2 := a (k * 8 + 2);have T := a (k * 8 + 3);have Y := a (k * 8 + 4);have S := a (k * 8 + 5);have V := a (k * 8 + 6);have F7 := a (k * 8 + 7);have Z := F k;simp only at m i b H E y z C A G D p
          obtain ⟨Xc0, Xc1, Xc2, Xc3, Xc4, Xc5, Xc6⟩ := cells_7 X;obtain ⟨Xf0, Xf1, Xf2, Xf3, Xf4, Xf5, Xf6⟩ := froz_7 X;have Xlt := (ltH X);go_wp2;go_ret2
          clear N O m i b H E y z C A G D p F a M K F2 T Y S V F7 Z tm R Xc0 Xc1 Xc2 Xc3 Xc4 Xc5 Xc6 Xf0 Xf1 Xf2 Xf3 Xf4 Xf5 Xf6 Xlt;rw [HS.out];exact ⟨_, rfl, B, h, msgsR.own_mono I (rng_sub (Nat.le_refl _) (by omega)), L⟩
end Go.Proofs.YtmaopldahnejdaaGreatDoor
