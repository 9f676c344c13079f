import Derived.Test.YtmaopldahnejdaaGreatDoorG00Box
import Derived.Test.YtmaopldahnejdaaGreatDoorG32
import Derived.Test.YtmaopldahnejdaaGreatDoorG35
namespace Go.Proofs.YtmaopldahnejdaaGreatDoor
open Go.ChangeShapes Go.WideShapes Go.ChangeAt Go.RowKit
set_option linter.unusedVariables false
set_option linter.unusedSimpArgs false
theorem zJS {kind : Int} {m : zAS} (hk : kind = 1 ∨ kind = 2) (c0 : 0 ≤ m.2.1) (c3 : m.2.1 ≤ 3) : zDv kind m = true := by
 unfold zDv zIL;rcases hk with rfl | rfl <;> simp [cby, zA6, c0, c3]
theorem hd9 {t : Nat} {w w2 : World} {ma : Option Addr} {dt : List Int} (hd : Hid (∀ W, Below t w W → zBv zBf W ma dt)) (b : Below t w w2) : Hid (∀ W, Below t w2 W → zBv zBf W ma dt) := fun W q => hd.out W (b.trans q)
set_option maxHeartbeats 16000000 in
set_option maxRecDepth 20000 in
theorem zMi {t g mb mc bb bc k B : Nat} {x : zA2} (ws : List Int) (o s : Int) (bz : Bool) (kd f l mk : Int) (d : List Int) (r c tq n gg : Int) (dt : List Int) (ma : Option Addr) (mc2 : Nat) (w : World) (h : HK t g mb mc bb bc k x B w (ws, (o, s, bz, kd, f, l, mk, d))) (hd : Hid (∀ W, Below t w W → zBv zBf W ma dt)) (hm : dt.length ≤ 1048576) (h7 : zFB (r, c, tq, n, (k : Int), dt, gg) = true) (c0 : 0 ≤ c) (c5 : c ≤ 5) (g0 : 0 ≤ gg) (hdt : zDY dt = true) (he : zBR (o, s, bz, kd, f, l, mk, d) = true) (hw : zAI o s = true) (hlz : bz = true → 0 ≤ l) (hl : isL ws = true) (hg64 : zA4 gg) (hkk64 : zA4 (k : Int)) (HE : Hid (EndQ t g mb mc bb bc k x)) :
    Calls Tryz.prog 49 #[.pointer (some ⟨g, 0, none⟩), .agg #[nI r, nI c, nI tq, nI n, nI k, sL ma dt.length mc2, nI gg]] w fun e w' => ∃ ms, e = .returned (.tuple #[ms, nI (zAU k (ws, (o, s, bz, kd, f, l, mk, d)) (r, c, tq, n, (k : Int), dt, gg)).2.2]) ∧ SQ t g mb mc bb bc k x w (zAU k (ws, (o, s, bz, kd, f, l, mk, d)) (r, c, tq, n, (k : Int), dt, gg)).1 (zAU k (ws, (o, s, bz, kd, f, l, mk, d)) (r, c, tq, n, (k : Int), dt, gg)).2.1 ms w' := by
 have AB := h.2.2.2.2.1;have vB := h.2.2.2.2.2.1;have aC : (k : Int) < (x.1.length : Int) := by omega
 have MB : (k : Int) < (x.2.length : Int) := by omega
 have iB := zBa h;have tw : t ≤ w.heap.size := by omega
 have ZB : B ≤ w.heap.size := iB.2.2;have YB : bb < w.heap.size := by omega
 have LB : mb < w.heap.size := by have := zDS h; omega
 have L := Below.refl t w;clear AB vB iB;go_enter Tryz.func49, Tryz.ntmps49;go_upto_region 1 with fail
 have X := zAw w (.cells #[nI r, nI c, nI tq, nI n, nI k, sL ma dt.length mc2, nI gg] 30);have bq := zAg w (.cells #[nI r, nI c, nI tq, nI n, nI k, sL ma dt.length mc2, nI gg] 30);have IB := lE (zAu w (.cells #[nI r, nI c, nI tq, nI n, nI k, sL ma dt.length mc2, nI gg] 30)).symm;have zB := bq.size;replace L := zBj L bq (zBT h);replace h := zAH h bq;clear bq;generalize w.alloc (.cells #[nI r, nI c, nI tq, nI n, nI k, sL ma dt.length mc2, nI gg] 30) = w0 at zB IB h L X ⊢;obtain ⟨wa, wc, da, dc, ⟨N, O⟩, m, ⟨i, b, G, E, y, C, D, z⟩, ⟨H, -⟩, ⟨p, F⟩, A, a, Y, T⟩ := zAr h;have K := a (k * 8);have M := a (k * 8 + 1);have F2 := a (k * 8 + 2);have F3 := a (k * 8 + 3);have V := a (k * 8 + 4);have R := a (k * 8 + 5);have Z := a (k * 8 + 6);have F7 := a (k * 8 + 7);have S := A k;simp only at m i b G E y C D z H p F
 obtain ⟨Xc0, Xc1, Xc2, Xc3, Xc4, Xc5, Xc6⟩ := zAe X;obtain ⟨Xf0, Xf1, Xf2, Xf3, Xf4, Xf5, Xf6⟩ := zAo X;have Xlt := (ltH X);go_upto_region 2 with fail
 clear N O m i b G E y C D z H p F A a K M F2 F3 V R Z F7 S Y T Xc0 Xc1 Xc2 Xc3 Xc4 Xc5 Xc6 Xf0 Xf1 Xf2 Xf3 Xf4 Xf5 Xf6 Xlt;have J : zAT.own (w0.alloc (.cells #[] 30)) (rng B (w0.alloc (.cells #[] 30)).heap.size) [sL (some ⟨w0.heap.size, 0, none⟩) 0 0] [] := zEx h.2.2.2.1;have pA := zAg w0 (.cells #[] 30);obtain ⟨ne, bB⟩ : ∃ ne, ne = w0.heap.size := ⟨_, rfl⟩;rw [← bB] at J;rw [← bB];have GB := pA.size;replace L := zBj L pA (zBT h);replace h := zAH h pA;replace X := zAb pA X;clear pA;generalize w0.alloc (.cells #[] 30) = w1 at J h L X GB ⊢;clear bB;obtain ⟨wa, wc, da, dc, ⟨N, O⟩, m, ⟨i, b, G, E, y, C, D, z⟩, ⟨H, -⟩, ⟨p, F⟩, A, a, Y, T⟩ := zAr h;have K := a (k * 8);have M := a (k * 8 + 1);have F2 := a (k * 8 + 2);have F3 := a (k * 8 + 3);have V := a (k * 8 + 4);have R := a (k * 8 + 5);have Z := a (k * 8 + 6);have F7 := a (k * 8 + 7);have S := A k;simp only at m i b G E y C D z H p F
 obtain ⟨Xc0, Xc1, Xc2, Xc3, Xc4, Xc5, Xc6⟩ := zAe X;obtain ⟨Xf0, Xf1, Xf2, Xf3, Xf4, Xf5, Xf6⟩ := zAo X;have Xlt := (ltH X);go_cut [22] (fun q wx => q = .bool false ∧ HK t g mb mc bb bc k x B wx (ws, (o, s, bz, kd, f, l, mk, d)) ∧ wx.heap[w.heap.size]? = some (.cells #[nI r, nI c, nI tq, nI n, nI k, sL ma dt.length mc2, nI gg] 30 (0, 0)) ∧ Below t w wx ∧ zAT.own wx (rng B wx.heap.size) [sL (some ⟨ne, 0, none⟩) 0 0] [])
 case first =>
  have oA : Hid _ := aI h (aI X (aI L J));have Q0 : Hid (Bl w1 w1.drew) := (Below.refl w1.heap.size w1).drew;have KX : Hid (∀ wx, Bl w1 wx → wx.cell? ⟨g, 1, none⟩ = some (sL (some ⟨bb, 0, none⟩) x.2.length bc) ∧ wx.cell? ⟨w.heap.size, 4, none⟩ = some (nI k)) := fun wx hh => ⟨zAf hh O (zAi O), zAf hh Xc4 (zAi Xc4)⟩;have SB : ¬ (x.2.length ≤ k) := by omega
  clear h X L J A a S K M F2 F3 V R Z F7 H p F Y T N m i b G E y C D z;first | (go_region_with (first | (go_at_call 61; refine (zEC r c tq n (k : Int) gg dt ma mc2 _ (hd.out _ oA.out.2.2.1.drew)).mono ?_; rintro e w5 ⟨rfl, bq⟩; rw [h7]; have Q1 : Hid (Bl w1 w5) := zAa Q0.out bq; clear bq; obtain ⟨Gd1, Xd4⟩ := KX.out _ Q1.out) | fail)) | fail
  all_goals
   go_wp2_with fail
   go_meet
   exact ⟨rfl, zAH oA.out.1 Q1.out, zAb Q1.out oA.out.2.1, zBj oA.out.2.2.1 Q1.out (zBT oA.out.1), zAT.own_mono (zAT.own_keep oA.out.2.2.2 (zAj Q1.out)) (zAL (Nat.le_refl _) Q1.out.size)⟩
 case rest =>
  clear h X L J N O m i b G E y C D z H p F A a K M F2 F3 V R Z F7 S Y T Xc0 Xc1 Xc2 Xc3 Xc4 Xc5 Xc6 Xf0 Xf1 Xf2 Xf3 Xf4 Xf5 Xf6 Xlt;obtain ⟨rfl, h, X, L, J⟩ := hcut;generalize wc = w2 at J h X L ⊢;obtain ⟨wa, wc, da, dc, ⟨N, O⟩, m, ⟨i, b, G, E, y, C, D, z⟩, ⟨H, -⟩, ⟨p, F⟩, A, a, Y, T⟩ := zAr h;have K := a (k * 8);have M := a (k * 8 + 1);have F2 := a (k * 8 + 2);have F3 := a (k * 8 + 3);have V := a (k * 8 + 4);have R := a (k * 8 + 5);have Z := a (k * 8 + 6);have F7 := a (k * 8 + 7);have S := A k;simp only at m i b G E y C D z H p F
  obtain ⟨Xc0, Xc1, Xc2, Xc3, Xc4, Xc5, Xc6⟩ := zAe X;obtain ⟨Xf0, Xf1, Xf2, Xf3, Xf4, Xf5, Xf6⟩ := zAo X;have Xlt := (ltH X);go_upto_region 4 with fail
  go_region
  go_upto_region 6 with fail
  clear N O m i b G E y C D z H p F A a K M F2 F3 V R Z F7 S Y T Xc0 Xc1 Xc2 Xc3 Xc4 Xc5 Xc6 Xf0 Xf1 Xf2 Xf3 Xf4 Xf5 Xf6 Xlt;replace h := zBD h;replace L := L.drew;replace X := zAV X;replace J := zCT J;have GA : w2.heap.size ≤ w2.drew.heap.size := Nat.le_refl _;generalize w2.drew = w3 at GA h L X J ⊢;by_cases n1 : n = 1
  ·subst n1;by_cases qc : c ≤ 3
   ·have gA : zDv 1 (r, c, tq, 1, (k : Int), dt, gg) = true := zJS (by omega) c0 qc;by_cases qb : bz = true
    ·subst qb;have HS : Hid (zAU k (ws, (o, s, true, kd, f, l, mk, d)) (r, c, tq, 1, (k : Int), dt, gg) = ((ws, (o, s, true, kd, f, l, mk, d)), [], 2)) := by
      have e1 : zBd (ws, (o, s, true, kd, f, l, mk, d)) (r, c, tq, 1, (k : Int), dt, gg) = some 2 := by rw [zBi (n := 1) rfl (by decide), gA]; rfl
      unfold Hid zAU;rw [e1]
     have I : Hid _ := aI h L;obtain ⟨wa, wc, da, dc, ⟨N, O⟩, m, ⟨i, b, G, E, y, C, D, z⟩, ⟨H, -⟩, ⟨p, F⟩, A, a, Y, T⟩ := zAr h;have K := a (k * 8);have M := a (k * 8 + 1);have F2 := a (k * 8 + 2);have F3 := a (k * 8 + 3);have V := a (k * 8 + 4);have R := a (k * 8 + 5);have Z := a (k * 8 + 6);have F7 := a (k * 8 + 7);have S := A k;simp only at m i b G E y C D z H p F
     obtain ⟨Xc0, Xc1, Xc2, Xc3, Xc4, Xc5, Xc6⟩ := zAe X;obtain ⟨Xf0, Xf1, Xf2, Xf3, Xf4, Xf5, Xf6⟩ := zAo X;have Xlt := (ltH X);go_wp2_with fail
     refine (zC0 ws o s kd f l mk d 1 r c tq 1 gg dt ma mc2 _ I.out.1 (hd9 hd I.out.2) hm).mono ?_;clear N O m i b G E y C D z H p F A a K M F2 F3 V R Z F7 S Y T Xc0 Xc1 Xc2 Xc3 Xc4 Xc5 Xc6 Xf0 Xf1 Xf2 Xf3 Xf4 Xf5 Xf6 Xlt;rintro e w9 ⟨ms, rfl, B8, k9, m9, b9⟩;have HF : Hid _ := aI k9 (aI m9 (I.out.2.trans b9));clear k9 m9 b9 h X L J;go_wp2;go_ret2
     rw [HS.out];exact ⟨ms, rfl, B8, HF.out⟩
    ·have BA : bz = false := by simpa using qb
     subst BA;have er := zDL he rfl;simp only [Prod.mk.injEq] at er;obtain ⟨-, -, -, rfl, rfl, rfl, rfl, rfl⟩ := er;have HS : Hid (zAU k (ws, (o, s, false, 0, 0, 0, 0, [])) (r, c, tq, 1, (k : Int), dt, gg) = ((zGz 1 k (ws, (o, s, false, 0, 0, 0, 0, [])) (r, c, tq, 1, (k : Int), dt, gg)).1, (zGz 1 k (ws, (o, s, false, 0, 0, 0, 0, [])) (r, c, tq, 1, (k : Int), dt, gg)).2, 1)) := by
      have e1 : zBd (ws, (o, s, false, 0, 0, 0, 0, [])) (r, c, tq, 1, (k : Int), dt, gg) = none := by rw [zBi (n := 1) rfl (by decide), gA]; rfl
      unfold Hid zAU;rw [e1];show ((zBm k (ws, (o, s, false, 0, 0, 0, 0, [])) (r, c, tq, 1, (k : Int), dt, gg)).1, (zBm k (ws, (o, s, false, 0, 0, 0, 0, [])) (r, c, tq, 1, (k : Int), dt, gg)).2, (1 : Int)) = _
      rw [zDf (n := 1) rfl (by decide)]
     have I : Hid _ := aI h L;obtain ⟨wa, wc, da, dc, ⟨N, O⟩, m, ⟨i, b, G, E, y, C, D, z⟩, ⟨H, -⟩, ⟨p, F⟩, A, a, Y, T⟩ := zAr h;have K := a (k * 8);have M := a (k * 8 + 1);have F2 := a (k * 8 + 2);have F3 := a (k * 8 + 3);have V := a (k * 8 + 4);have R := a (k * 8 + 5);have Z := a (k * 8 + 6);have F7 := a (k * 8 + 7);have S := A k;simp only at m i b G E y C D z H p F
     obtain ⟨Xc0, Xc1, Xc2, Xc3, Xc4, Xc5, Xc6⟩ := zAe X;obtain ⟨Xf0, Xf1, Xf2, Xf3, Xf4, Xf5, Xf6⟩ := zAo X;have Xlt := (ltH X);go_wp2_with fail
     refine (zCK ws o s 1 r c tq 1 gg dt ma mc2 _ I.out.1 (hd9 hd I.out.2) hm hw c0 c5 (by constructor <;> decide) hg64 hkk64 (zGn hw).1 (zEY hw hl (by decide) gA) HE).mono ?_;clear N O m i b G E y C D z H p F A a K M F2 F3 V R Z F7 S Y T Xc0 Xc1 Xc2 Xc3 Xc4 Xc5 Xc6 Xf0 Xf1 Xf2 Xf3 Xf4 Xf5 Xf6 Xlt;rintro e w9 ⟨ms, rfl, B8, k9, m9, b9⟩;have HF : Hid _ := aI k9 (aI m9 (I.out.2.trans b9));clear k9 m9 b9 h X L J;go_wp2;go_ret2
     rw [HS.out];exact ⟨ms, rfl, B8, HF.out⟩
   ·have fA : zDv 1 (r, c, tq, 1, (k : Int), dt, gg) = false := by
      cases q : zDv 1 (r, c, tq, 1, (k : Int), dt, gg)
      ·rfl
      ·obtain ⟨p1, p2, p3⟩ := zCV (by decide) q;have := p1 (by decide); simp [zA6] at this; omega
    have HS : Hid (zAU k (ws, (o, s, bz, kd, f, l, mk, d)) (r, c, tq, 1, (k : Int), dt, gg) = ((ws, (o, s, bz, kd, f, l, mk, d)), [], 0)) := by
     have e1 : zBd (ws, (o, s, bz, kd, f, l, mk, d)) (r, c, tq, 1, (k : Int), dt, gg) = some 0 := by rw [zBi (n := 1) rfl (by decide), fA]; rfl
     unfold Hid zAU;rw [e1]
    obtain ⟨wa, wc, da, dc, ⟨N, O⟩, m, ⟨i, b, G, E, y, C, D, z⟩, ⟨H, -⟩, ⟨p, F⟩, A, a, Y, T⟩ := zAr h;have K := a (k * 8);have M := a (k * 8 + 1);have F2 := a (k * 8 + 2);have F3 := a (k * 8 + 3);have V := a (k * 8 + 4);have R := a (k * 8 + 5);have Z := a (k * 8 + 6);have F7 := a (k * 8 + 7);have S := A k;simp only at m i b G E y C D z H p F
    obtain ⟨Xc0, Xc1, Xc2, Xc3, Xc4, Xc5, Xc6⟩ := zAe X;obtain ⟨Xf0, Xf1, Xf2, Xf3, Xf4, Xf5, Xf6⟩ := zAo X;have Xlt := (ltH X);go_wp2;go_ret2
    clear N O m i b G E y C D z H p F A a K M F2 F3 V R Z F7 S Y T Xc0 Xc1 Xc2 Xc3 Xc4 Xc5 Xc6 Xf0 Xf1 Xf2 Xf3 Xf4 Xf5 Xf6 Xlt;rw [HS.out];exact ⟨_, rfl, B, h, zAT.own_mono J (zAL (Nat.le_refl _) (by omega)), L⟩
  ·have e1 : (n == 1) = false := beq_false_of_ne n1;by_cases n2 : n = 2
   ·subst n2;by_cases qc : c ≤ 3
    ·have gA : zDv 2 (r, c, tq, 2, (k : Int), dt, gg) = true := zJS (by omega) c0 qc;by_cases qb : bz = true
     ·subst qb;have HS : Hid (zAU k (ws, (o, s, true, kd, f, l, mk, d)) (r, c, tq, 2, (k : Int), dt, gg) = ((ws, (o, s, true, kd, f, l, mk, d)), [], 2)) := by
       have e1 : zBd (ws, (o, s, true, kd, f, l, mk, d)) (r, c, tq, 2, (k : Int), dt, gg) = some 2 := by rw [zBi (n := 2) rfl (by decide), gA]; rfl
       unfold Hid zAU;rw [e1]
      have I : Hid _ := aI h L;obtain ⟨wa, wc, da, dc, ⟨N, O⟩, m, ⟨i, b, G, E, y, C, D, z⟩, ⟨H, -⟩, ⟨p, F⟩, A, a, Y, T⟩ := zAr h;have K := a (k * 8);have M := a (k * 8 + 1);have F2 := a (k * 8 + 2);have F3 := a (k * 8 + 3);have V := a (k * 8 + 4);have R := a (k * 8 + 5);have Z := a (k * 8 + 6);have F7 := a (k * 8 + 7);have S := A k;simp only at m i b G E y C D z H p F
      obtain ⟨Xc0, Xc1, Xc2, Xc3, Xc4, Xc5, Xc6⟩ := zAe X;obtain ⟨Xf0, Xf1, Xf2, Xf3, Xf4, Xf5, Xf6⟩ := zAo X;have Xlt := (ltH X);go_wp2_with fail
      refine (zC0 ws o s kd f l mk d 2 r c tq 2 gg dt ma mc2 _ I.out.1 (hd9 hd I.out.2) hm).mono ?_;clear N O m i b G E y C D z H p F A a K M F2 F3 V R Z F7 S Y T Xc0 Xc1 Xc2 Xc3 Xc4 Xc5 Xc6 Xf0 Xf1 Xf2 Xf3 Xf4 Xf5 Xf6 Xlt;rintro e w9 ⟨ms, rfl, B8, k9, m9, b9⟩;have HF : Hid _ := aI k9 (aI m9 (I.out.2.trans b9));clear k9 m9 b9 h X L J;go_wp2;go_ret2
      rw [HS.out];exact ⟨ms, rfl, B8, HF.out⟩
     ·have BA : bz = false := by simpa using qb
      subst BA;have er := zDL he rfl;simp only [Prod.mk.injEq] at er;obtain ⟨-, -, -, rfl, rfl, rfl, rfl, rfl⟩ := er;have HS : Hid (zAU k (ws, (o, s, false, 0, 0, 0, 0, [])) (r, c, tq, 2, (k : Int), dt, gg) = ((zGz 2 k (ws, (o, s, false, 0, 0, 0, 0, [])) (r, c, tq, 2, (k : Int), dt, gg)).1, (zGz 2 k (ws, (o, s, false, 0, 0, 0, 0, [])) (r, c, tq, 2, (k : Int), dt, gg)).2, 1)) := by
       have e1 : zBd (ws, (o, s, false, 0, 0, 0, 0, [])) (r, c, tq, 2, (k : Int), dt, gg) = none := by rw [zBi (n := 2) rfl (by decide), gA]; rfl
       unfold Hid zAU;rw [e1];show ((zBm k (ws, (o, s, false, 0, 0, 0, 0, [])) (r, c, tq, 2, (k : Int), dt, gg)).1, (zBm k (ws, (o, s, false, 0, 0, 0, 0, [])) (r, c, tq, 2, (k : Int), dt, gg)).2, (1 : Int)) = _
       rw [zDf (n := 2) rfl (by decide)]
      have I : Hid _ := aI h L;obtain ⟨wa, wc, da, dc, ⟨N, O⟩, m, ⟨i, b, G, E, y, C, D, z⟩, ⟨H, -⟩, ⟨p, F⟩, A, a, Y, T⟩ := zAr h;have K := a (k * 8);have M := a (k * 8 + 1);have F2 := a (k * 8 + 2);have F3 := a (k * 8 + 3);have V := a (k * 8 + 4);have R := a (k * 8 + 5);have Z := a (k * 8 + 6);have F7 := a (k * 8 + 7);have S := A k;simp only at m i b G E y C D z H p F
      obtain ⟨Xc0, Xc1, Xc2, Xc3, Xc4, Xc5, Xc6⟩ := zAe X;obtain ⟨Xf0, Xf1, Xf2, Xf3, Xf4, Xf5, Xf6⟩ := zAo X;have Xlt := (ltH X);go_wp2_with fail
      refine (zCK ws o s 2 r c tq 2 gg dt ma mc2 _ I.out.1 (hd9 hd I.out.2) hm hw c0 c5 (by constructor <;> decide) hg64 hkk64 (zGn hw).1 (zEY hw hl (by decide) gA) HE).mono ?_;clear N O m i b G E y C D z H p F A a K M F2 F3 V R Z F7 S Y T Xc0 Xc1 Xc2 Xc3 Xc4 Xc5 Xc6 Xf0 Xf1 Xf2 Xf3 Xf4 Xf5 Xf6 Xlt;rintro e w9 ⟨ms, rfl, B8, k9, m9, b9⟩;have HF : Hid _ := aI k9 (aI m9 (I.out.2.trans b9));clear k9 m9 b9 h X L J;go_wp2;go_ret2
      rw [HS.out];exact ⟨ms, rfl, B8, HF.out⟩
    ·have fA : zDv 2 (r, c, tq, 2, (k : Int), dt, gg) = false := by
       cases q : zDv 2 (r, c, tq, 2, (k : Int), dt, gg)
       ·rfl
       ·obtain ⟨p1, p2, p3⟩ := zCV (by decide) q;have := p1 (by decide); simp [zA6] at this; omega
     have HS : Hid (zAU k (ws, (o, s, bz, kd, f, l, mk, d)) (r, c, tq, 2, (k : Int), dt, gg) = ((ws, (o, s, bz, kd, f, l, mk, d)), [], 0)) := by
      have e1 : zBd (ws, (o, s, bz, kd, f, l, mk, d)) (r, c, tq, 2, (k : Int), dt, gg) = some 0 := by rw [zBi (n := 2) rfl (by decide), fA]; rfl
      unfold Hid zAU;rw [e1]
     obtain ⟨wa, wc, da, dc, ⟨N, O⟩, m, ⟨i, b, G, E, y, C, D, z⟩, ⟨H, -⟩, ⟨p, F⟩, A, a, Y, T⟩ := zAr h;have K := a (k * 8);have M := a (k * 8 + 1);have F2 := a (k * 8 + 2);have F3 := a (k * 8 + 3);have V := a (k * 8 + 4);have R := a (k * 8 + 5);have Z := a (k * 8 + 6);have F7 := a (k * 8 + 7);have S := A k;simp only at m i b G E y C D z H p F
     obtain ⟨Xc0, Xc1, Xc2, Xc3, Xc4, Xc5, Xc6⟩ := zAe X;obtain ⟨Xf0, Xf1, Xf2, Xf3, Xf4, Xf5, Xf6⟩ := zAo X;have Xlt := (ltH X);go_wp2;go_ret2
     clear N O m i b G E y C D z H p F A a K M F2 F3 V R Z F7 S Y T Xc0 Xc1 Xc2 Xc3 Xc4 Xc5 Xc6 Xf0 Xf1 Xf2 Xf3 Xf4 Xf5 Xf6 Xlt;rw [HS.out];exact ⟨_, rfl, B, h, zAT.own_mono J (zAL (Nat.le_refl _) (by omega)), L⟩
   ·have e2 : (n == 2) = false := beq_false_of_ne n2;by_cases n4 : n = 4
    ·subst n4;by_cases q5 : c = 5
     ·have z5 : (c == 5) = true := by simp [q5]
      have gA : zDv 3 (r, c, tq, 4, (k : Int), dt, gg) = true := by unfold zDv zIL; simp [cby, pby, q5]
      clear q5;by_cases qb : bz = true
      ·subst qb;have HS : Hid (zAU k (ws, (o, s, true, kd, f, l, mk, d)) (r, c, tq, 4, (k : Int), dt, gg) = ((ws, (o, s, true, kd, f, l, mk, d)), [], 2)) := by
        have e1 : zBd (ws, (o, s, true, kd, f, l, mk, d)) (r, c, tq, 4, (k : Int), dt, gg) = some 2 := by rw [zBi (n := 3) rfl (by decide), gA]; rfl
        unfold Hid zAU;rw [e1]
       have I : Hid _ := aI h L;obtain ⟨wa, wc, da, dc, ⟨N, O⟩, m, ⟨i, b, G, E, y, C, D, z⟩, ⟨H, -⟩, ⟨p, F⟩, A, a, Y, T⟩ := zAr h;have K := a (k * 8);have M := a (k * 8 + 1);have F2 := a (k * 8 + 2);have F3 := a (k * 8 + 3);have V := a (k * 8 + 4);have R := a (k * 8 + 5);have Z := a (k * 8 + 6);have F7 := a (k * 8 + 7);have S := A k;simp only at m i b G E y C D z H p F
       obtain ⟨Xc0, Xc1, Xc2, Xc3, Xc4, Xc5, Xc6⟩ := zAe X;obtain ⟨Xf0, Xf1, Xf2, Xf3, Xf4, Xf5, Xf6⟩ := zAo X;have Xlt := (ltH X);go_wp2_with fail
       refine (zC0 ws o s kd f l mk d 3 r c tq 4 gg dt ma mc2 _ I.out.1 (hd9 hd I.out.2) hm).mono ?_;clear N O m i b G E y C D z H p F A a K M F2 F3 V R Z F7 S Y T Xc0 Xc1 Xc2 Xc3 Xc4 Xc5 Xc6 Xf0 Xf1 Xf2 Xf3 Xf4 Xf5 Xf6 Xlt;rintro e w9 ⟨ms, rfl, B8, k9, m9, b9⟩;have HF : Hid _ := aI k9 (aI m9 (I.out.2.trans b9));clear k9 m9 b9 h X L J;go_wp2;go_ret2
       rw [HS.out];exact ⟨ms, rfl, B8, HF.out⟩
      ·have BA : bz = false := by simpa using qb
       subst BA;have er := zDL he rfl;simp only [Prod.mk.injEq] at er;obtain ⟨-, -, -, rfl, rfl, rfl, rfl, rfl⟩ := er;have HS : Hid (zAU k (ws, (o, s, false, 0, 0, 0, 0, [])) (r, c, tq, 4, (k : Int), dt, gg) = ((zGz 3 k (ws, (o, s, false, 0, 0, 0, 0, [])) (r, c, tq, 4, (k : Int), dt, gg)).1, (zGz 3 k (ws, (o, s, false, 0, 0, 0, 0, [])) (r, c, tq, 4, (k : Int), dt, gg)).2, 1)) := by
        have e1 : zBd (ws, (o, s, false, 0, 0, 0, 0, [])) (r, c, tq, 4, (k : Int), dt, gg) = none := by rw [zBi (n := 3) rfl (by decide), gA]; rfl
        unfold Hid zAU;rw [e1];show ((zBm k (ws, (o, s, false, 0, 0, 0, 0, [])) (r, c, tq, 4, (k : Int), dt, gg)).1, (zBm k (ws, (o, s, false, 0, 0, 0, 0, [])) (r, c, tq, 4, (k : Int), dt, gg)).2, (1 : Int)) = _
        rw [zDf (n := 3) rfl (by decide)]
       have I : Hid _ := aI h L;obtain ⟨wa, wc, da, dc, ⟨N, O⟩, m, ⟨i, b, G, E, y, C, D, z⟩, ⟨H, -⟩, ⟨p, F⟩, A, a, Y, T⟩ := zAr h;have K := a (k * 8);have M := a (k * 8 + 1);have F2 := a (k * 8 + 2);have F3 := a (k * 8 + 3);have V := a (k * 8 + 4);have R := a (k * 8 + 5);have Z := a (k * 8 + 6);have F7 := a (k * 8 + 7);have S := A k;simp only at m i b G E y C D z H p F
       obtain ⟨Xc0, Xc1, Xc2, Xc3, Xc4, Xc5, Xc6⟩ := zAe X;obtain ⟨Xf0, Xf1, Xf2, Xf3, Xf4, Xf5, Xf6⟩ := zAo X;have Xlt := (ltH X);go_wp2_with fail
       refine (zCK ws o s 3 r c tq 4 gg dt ma mc2 _ I.out.1 (hd9 hd I.out.2) hm hw c0 c5 (by constructor <;> decide) hg64 hkk64 (zGn hw).1 (zEY hw hl (by decide) gA) HE).mono ?_;clear N O m i b G E y C D z H p F A a K M F2 F3 V R Z F7 S Y T Xc0 Xc1 Xc2 Xc3 Xc4 Xc5 Xc6 Xf0 Xf1 Xf2 Xf3 Xf4 Xf5 Xf6 Xlt;rintro e w9 ⟨ms, rfl, B8, k9, m9, b9⟩;have HF : Hid _ := aI k9 (aI m9 (I.out.2.trans b9));clear k9 m9 b9 h X L J;go_wp2;go_ret2
       rw [HS.out];exact ⟨ms, rfl, B8, HF.out⟩
     ·have z5 : (c == 5) = false := by simp [q5]
      have fA : zDv 3 (r, c, tq, 4, (k : Int), dt, gg) = false := by
       cases q : zDv 3 (r, c, tq, 4, (k : Int), dt, gg)
       ·rfl
       ·obtain ⟨p1, p2, p3⟩ := zCV (by decide) q;exact absurd (p2 (by decide)) q5
      clear q5;have HS : Hid (zAU k (ws, (o, s, bz, kd, f, l, mk, d)) (r, c, tq, 4, (k : Int), dt, gg) = ((ws, (o, s, bz, kd, f, l, mk, d)), [], 0)) := by
       have e1 : zBd (ws, (o, s, bz, kd, f, l, mk, d)) (r, c, tq, 4, (k : Int), dt, gg) = some 0 := by rw [zBi (n := 3) rfl (by decide), fA]; rfl
       unfold Hid zAU;rw [e1]
      obtain ⟨wa, wc, da, dc, ⟨N, O⟩, m, ⟨i, b, G, E, y, C, D, z⟩, ⟨H, -⟩, ⟨p, F⟩, A, a, Y, T⟩ := zAr h;have K := a (k * 8);have M := a (k * 8 + 1);have F2 := a (k * 8 + 2);have F3 := a (k * 8 + 3);have V := a (k * 8 + 4);have R := a (k * 8 + 5);have Z := a (k * 8 + 6);have F7 := a (k * 8 + 7);have S := A k;simp only at m i b G E y C D z H p F
      obtain ⟨Xc0, Xc1, Xc2, Xc3, Xc4, Xc5, Xc6⟩ := zAe X;obtain ⟨Xf0, Xf1, Xf2, Xf3, Xf4, Xf5, Xf6⟩ := zAo X;have Xlt := (ltH X);go_wp2;go_ret2
      clear N O m i b G E y C D z H p F A a K M F2 F3 V R Z F7 S Y T Xc0 Xc1 Xc2 Xc3 Xc4 Xc5 Xc6 Xf0 Xf1 Xf2 Xf3 Xf4 Xf5 Xf6 Xlt;rw [HS.out];exact ⟨_, rfl, B, h, zAT.own_mono J (zAL (Nat.le_refl _) (by omega)), L⟩
    ·have e4 : (n == 4) = false := beq_false_of_ne n4;by_cases n5 : n = 5
     ·subst n5;by_cases q5 : c = 5
      ·have z5 : (c == 5) = true := by simp [q5]
       by_cases qd : 0 < dt.length
       ·have zd : (0 : Int) < (dt.length : Int) := by omega
        by_cases qg : gg ≤ 3
        ·have gA : zDv 4 (r, c, tq, 5, (k : Int), dt, gg) = true := by
           have hi : isL dt = true := by
            unfold zDY at hdt;rw [Bool.or_eq_true] at hdt;rcases hdt with q | q
            ·rw [List.isEmpty_iff] at q; rw [q] at qd; exact absurd qd (by decide)
            ·exact q
           unfold zDv zIL;simp [cby, pby, q5, hi, zA6, qg, g0]
         clear q5 qd;by_cases qb : bz = true
         ·subst qb;have HS : Hid (zAU k (ws, (o, s, true, kd, f, l, mk, d)) (r, c, tq, 5, (k : Int), dt, gg) = ((ws, (o, s, true, kd, f, l, mk, d)), [], 2)) := by
           have e1 : zBd (ws, (o, s, true, kd, f, l, mk, d)) (r, c, tq, 5, (k : Int), dt, gg) = some 2 := by rw [zBi (n := 4) rfl (by decide), gA]; rfl
           unfold Hid zAU;rw [e1]
          have I : Hid _ := aI h L;obtain ⟨wa, wc, da, dc, ⟨N, O⟩, m, ⟨i, b, G, E, y, C, D, z⟩, ⟨H, -⟩, ⟨p, F⟩, A, a, Y, T⟩ := zAr h;have K := a (k * 8);have M := a (k * 8 + 1);have F2 := a (k * 8 + 2);have F3 := a (k * 8 + 3);have V := a (k * 8 + 4);have R := a (k * 8 + 5);have Z := a (k * 8 + 6);have F7 := a (k * 8 + 7);have S := A k;simp only at m i b G E y C D z H p F
          obtain ⟨Xc0, Xc1, Xc2, Xc3, Xc4, Xc5, Xc6⟩ := zAe X;obtain ⟨Xf0, Xf1, Xf2, Xf3, Xf4, Xf5, Xf6⟩ := zAo X;have Xlt := (ltH X);go_wp2_with fail
          refine (zC0 ws o s kd f l mk d 4 r c tq 5 gg dt ma mc2 _ I.out.1 (hd9 hd I.out.2) hm).mono ?_;clear N O m i b G E y C D z H p F A a K M F2 F3 V R Z F7 S Y T Xc0 Xc1 Xc2 Xc3 Xc4 Xc5 Xc6 Xf0 Xf1 Xf2 Xf3 Xf4 Xf5 Xf6 Xlt;rintro e w9 ⟨ms, rfl, B8, k9, m9, b9⟩;have HF : Hid _ := aI k9 (aI m9 (I.out.2.trans b9));clear k9 m9 b9 h X L J;go_wp2;go_ret2
          rw [HS.out];exact ⟨ms, rfl, B8, HF.out⟩
         ·have BA : bz = false := by simpa using qb
          subst BA;have er := zDL he rfl;simp only [Prod.mk.injEq] at er;obtain ⟨-, -, -, rfl, rfl, rfl, rfl, rfl⟩ := er;have HS : Hid (zAU k (ws, (o, s, false, 0, 0, 0, 0, [])) (r, c, tq, 5, (k : Int), dt, gg) = ((zGz 4 k (ws, (o, s, false, 0, 0, 0, 0, [])) (r, c, tq, 5, (k : Int), dt, gg)).1, (zGz 4 k (ws, (o, s, false, 0, 0, 0, 0, [])) (r, c, tq, 5, (k : Int), dt, gg)).2, 1)) := by
           have e1 : zBd (ws, (o, s, false, 0, 0, 0, 0, [])) (r, c, tq, 5, (k : Int), dt, gg) = none := by rw [zBi (n := 4) rfl (by decide), gA]; rfl
           unfold Hid zAU;rw [e1];show ((zBm k (ws, (o, s, false, 0, 0, 0, 0, [])) (r, c, tq, 5, (k : Int), dt, gg)).1, (zBm k (ws, (o, s, false, 0, 0, 0, 0, [])) (r, c, tq, 5, (k : Int), dt, gg)).2, (1 : Int)) = _
           rw [zDf (n := 4) rfl (by decide)]
          have I : Hid _ := aI h L;obtain ⟨wa, wc, da, dc, ⟨N, O⟩, m, ⟨i, b, G, E, y, C, D, z⟩, ⟨H, -⟩, ⟨p, F⟩, A, a, Y, T⟩ := zAr h;have K := a (k * 8);have M := a (k * 8 + 1);have F2 := a (k * 8 + 2);have F3 := a (k * 8 + 3);have V := a (k * 8 + 4);have R := a (k * 8 + 5);have Z := a (k * 8 + 6);have F7 := a (k * 8 + 7);have S := A k;simp only at m i b G E y C D z H p F
          obtain ⟨Xc0, Xc1, Xc2, Xc3, Xc4, Xc5, Xc6⟩ := zAe X;obtain ⟨Xf0, Xf1, Xf2, Xf3, Xf4, Xf5, Xf6⟩ := zAo X;have Xlt := (ltH X);go_wp2_with fail
          refine (zCK ws o s 4 r c tq 5 gg dt ma mc2 _ I.out.1 (hd9 hd I.out.2) hm hw c0 c5 (by constructor <;> decide) hg64 hkk64 (zGn hw).1 (zEY hw hl (by decide) gA) HE).mono ?_;clear N O m i b G E y C D z H p F A a K M F2 F3 V R Z F7 S Y T Xc0 Xc1 Xc2 Xc3 Xc4 Xc5 Xc6 Xf0 Xf1 Xf2 Xf3 Xf4 Xf5 Xf6 Xlt;rintro e w9 ⟨ms, rfl, B8, k9, m9, b9⟩;have HF : Hid _ := aI k9 (aI m9 (I.out.2.trans b9));clear k9 m9 b9 h X L J;go_wp2;go_ret2
          rw [HS.out];exact ⟨ms, rfl, B8, HF.out⟩
        ·have fA : zDv 4 (r, c, tq, 5, (k : Int), dt, gg) = false := by
           cases q : zDv 4 (r, c, tq, 5, (k : Int), dt, gg)
           ·rfl
           ·obtain ⟨p1, p2, p3⟩ := zCV (by decide) q;have := (p3 rfl).1; simp [zA6] at this; omega
         clear q5 qd;have HS : Hid (zAU k (ws, (o, s, bz, kd, f, l, mk, d)) (r, c, tq, 5, (k : Int), dt, gg) = ((ws, (o, s, bz, kd, f, l, mk, d)), [], 0)) := by
          have e1 : zBd (ws, (o, s, bz, kd, f, l, mk, d)) (r, c, tq, 5, (k : Int), dt, gg) = some 0 := by rw [zBi (n := 4) rfl (by decide), fA]; rfl
          unfold Hid zAU;rw [e1]
         obtain ⟨wa, wc, da, dc, ⟨N, O⟩, m, ⟨i, b, G, E, y, C, D, z⟩, ⟨H, -⟩, ⟨p, F⟩, A, a, Y, T⟩ := zAr h;have K := a (k * 8);have M := a (k * 8 + 1);have F2 := a (k * 8 + 2);have F3 := a (k * 8 + 3);have V := a (k * 8 + 4);have R := a (k * 8 + 5);have Z := a (k * 8 + 6);have F7 := a (k * 8 + 7);have S := A k;simp only at m i b G E y C D z H p F
         obtain ⟨Xc0, Xc1, Xc2, Xc3, Xc4, Xc5, Xc6⟩ := zAe X;obtain ⟨Xf0, Xf1, Xf2, Xf3, Xf4, Xf5, Xf6⟩ := zAo X;have Xlt := (ltH X);go_wp2;go_ret2
         clear N O m i b G E y C D z H p F A a K M F2 F3 V R Z F7 S Y T Xc0 Xc1 Xc2 Xc3 Xc4 Xc5 Xc6 Xf0 Xf1 Xf2 Xf3 Xf4 Xf5 Xf6 Xlt;rw [HS.out];exact ⟨_, rfl, B, h, zAT.own_mono J (zAL (Nat.le_refl _) (by omega)), L⟩
       ·have zd : ¬ ((0 : Int) < (dt.length : Int)) := by omega
        have fA : zDv 4 (r, c, tq, 5, (k : Int), dt, gg) = false := by
         cases q : zDv 4 (r, c, tq, 5, (k : Int), dt, gg)
         ·rfl
         ·obtain ⟨p1, p2, p3⟩ := zCV (by decide) q;have := zHH (p3 rfl).2; omega
        clear q5 qd;have HS : Hid (zAU k (ws, (o, s, bz, kd, f, l, mk, d)) (r, c, tq, 5, (k : Int), dt, gg) = ((ws, (o, s, bz, kd, f, l, mk, d)), [], 0)) := by
         have e1 : zBd (ws, (o, s, bz, kd, f, l, mk, d)) (r, c, tq, 5, (k : Int), dt, gg) = some 0 := by rw [zBi (n := 4) rfl (by decide), fA]; rfl
         unfold Hid zAU;rw [e1]
        obtain ⟨wa, wc, da, dc, ⟨N, O⟩, m, ⟨i, b, G, E, y, C, D, z⟩, ⟨H, -⟩, ⟨p, F⟩, A, a, Y, T⟩ := zAr h;have K := a (k * 8);have M := a (k * 8 + 1);have F2 := a (k * 8 + 2);have F3 := a (k * 8 + 3);have V := a (k * 8 + 4);have R := a (k * 8 + 5);have Z := a (k * 8 + 6);have F7 := a (k * 8 + 7);have S := A k;simp only at m i b G E y C D z H p F
        obtain ⟨Xc0, Xc1, Xc2, Xc3, Xc4, Xc5, Xc6⟩ := zAe X;obtain ⟨Xf0, Xf1, Xf2, Xf3, Xf4, Xf5, Xf6⟩ := zAo X;have Xlt := (ltH X);go_wp2;go_ret2
        clear N O m i b G E y C D z H p F A a K M F2 F3 V R Z F7 S Y T Xc0 Xc1 Xc2 Xc3 Xc4 Xc5 Xc6 Xf0 Xf1 Xf2 Xf3 Xf4 Xf5 Xf6 Xlt;rw [HS.out];exact ⟨_, rfl, B, h, zAT.own_mono J (zAL (Nat.le_refl _) (by omega)), L⟩
      ·have z5 : (c == 5) = false := by simp [q5]
       have fA : zDv 4 (r, c, tq, 5, (k : Int), dt, gg) = false := by
        cases q : zDv 4 (r, c, tq, 5, (k : Int), dt, gg)
        ·rfl
        ·obtain ⟨p1, p2, p3⟩ := zCV (by decide) q;exact absurd (p2 (by decide)) q5
       clear q5;have HS : Hid (zAU k (ws, (o, s, bz, kd, f, l, mk, d)) (r, c, tq, 5, (k : Int), dt, gg) = ((ws, (o, s, bz, kd, f, l, mk, d)), [], 0)) := by
        have e1 : zBd (ws, (o, s, bz, kd, f, l, mk, d)) (r, c, tq, 5, (k : Int), dt, gg) = some 0 := by rw [zBi (n := 4) rfl (by decide), fA]; rfl
        unfold Hid zAU;rw [e1]
       obtain ⟨wa, wc, da, dc, ⟨N, O⟩, m, ⟨i, b, G, E, y, C, D, z⟩, ⟨H, -⟩, ⟨p, F⟩, A, a, Y, T⟩ := zAr h;have K := a (k * 8);have M := a (k * 8 + 1);have F2 := a (k * 8 + 2);have F3 := a (k * 8 + 3);have V := a (k * 8 + 4);have R := a (k * 8 + 5);have Z := a (k * 8 + 6);have F7 := a (k * 8 + 7);have S := A k;simp only at m i b G E y C D z H p F
       obtain ⟨Xc0, Xc1, Xc2, Xc3, Xc4, Xc5, Xc6⟩ := zAe X;obtain ⟨Xf0, Xf1, Xf2, Xf3, Xf4, Xf5, Xf6⟩ := zAo X;have Xlt := (ltH X);go_wp2;go_ret2
       clear N O m i b G E y C D z H p F A a K M F2 F3 V R Z F7 S Y T Xc0 Xc1 Xc2 Xc3 Xc4 Xc5 Xc6 Xf0 Xf1 Xf2 Xf3 Xf4 Xf5 Xf6 Xlt;rw [HS.out];exact ⟨_, rfl, B, h, zAT.own_mono J (zAL (Nat.le_refl _) (by omega)), L⟩
     ·have e5 : (n == 5) = false := beq_false_of_ne n5;by_cases n3 : n = 3
      ·subst n3;by_cases qc : c ≤ 3
       ·have sA : zA6 c 0 3 = true := by unfold zA6; simp; omega
        by_cases qb : bz = true
        ·subst qb;have HS : Hid (zAU k (ws, (o, s, true, kd, f, l, mk, d)) (r, c, tq, 3, (k : Int), dt, gg) = ((ws, (o, s, true, kd, f, l, mk, d)), [], 2)) := by
          have e1 : zBd (ws, (o, s, true, kd, f, l, mk, d)) (r, c, tq, 3, (k : Int), dt, gg) = some 2 := by
           unfold zBd;rw [if_neg (show ¬ (0 : Int) < zBL 3 from by decide), if_pos (show (3 : Int) = 3 from rfl)];rw [show zA6 c 0 3 = true from sA];rfl
          unfold Hid zAU;rw [e1]
         obtain ⟨wa, wc, da, dc, ⟨N, O⟩, m, ⟨i, b, G, E, y, C, D, z⟩, ⟨H, -⟩, ⟨p, F⟩, A, a, Y, T⟩ := zAr h;have K := a (k * 8);have M := a (k * 8 + 1);have F2 := a (k * 8 + 2);have F3 := a (k * 8 + 3);have V := a (k * 8 + 4);have R := a (k * 8 + 5);have Z := a (k * 8 + 6);have F7 := a (k * 8 + 7);have S := A k;simp only at m i b G E y C D z H p F
         obtain ⟨Xc0, Xc1, Xc2, Xc3, Xc4, Xc5, Xc6⟩ := zAe X;obtain ⟨Xf0, Xf1, Xf2, Xf3, Xf4, Xf5, Xf6⟩ := zAo X;have Xlt := (ltH X);go_wp2;go_ret2
         clear N O m i b G E y C D z H p F A a K M F2 F3 V R Z F7 S Y T Xc0 Xc1 Xc2 Xc3 Xc4 Xc5 Xc6 Xf0 Xf1 Xf2 Xf3 Xf4 Xf5 Xf6 Xlt;rw [HS.out];exact ⟨_, rfl, B, h, zAT.own_mono J (zAL (Nat.le_refl _) (by omega)), L⟩
        ·have BA : bz = false := by simpa using qb
         subst BA;by_cases qo : o = c
         ·have zo : (o == c) = true := by simp [qo]
          by_cases qd : 0 < dt.length
          ·have zd : (0 : Int) < (dt.length : Int) := by omega
           have HS : Hid (zAU k (ws, (o, s, false, kd, f, l, mk, d)) (r, c, tq, 3, (k : Int), dt, gg) = ((dt, zCp (o, s, false, kd, f, l, mk, d) (fgO o c) (fgS s c)), [zC1 k 2 c 12 [] 0], 1)) := by
            have e1 : zBd (ws, (o, s, false, kd, f, l, mk, d)) (r, c, tq, 3, (k : Int), dt, gg) = none := by
             unfold zBd;rw [if_neg (show ¬ (0 : Int) < zBL 3 from by decide), if_pos (show (3 : Int) = 3 from rfl)];rw [show zA6 c 0 3 = true from sA];rfl
            unfold Hid zAU;rw [e1];show ((zBm k (ws, (o, s, false, kd, f, l, mk, d)) (r, c, tq, 3, (k : Int), dt, gg)).1, (zBm k (ws, (o, s, false, kd, f, l, mk, d)) (r, c, tq, 3, (k : Int), dt, gg)).2, (1 : Int)) = _
            unfold zBm;rw [if_neg (show ¬ (0 : Int) < zBL 3 from by decide), if_pos (show (3 : Int) = 3 from rfl)];unfold zDd;rw [if_pos (show zEt o c = true from by unfold zEt; rw [sA]; simp [qo])];rw [show zBA ws dt = dt from if_neg (by omega)]
           clear qo qd;obtain ⟨wa, wc, da, dc, ⟨N, O⟩, m, ⟨i, b, G, E, y, C, D, z⟩, ⟨H, -⟩, ⟨p, F⟩, A, a, Y, T⟩ := zAr h;have K := a (k * 8);have M := a (k * 8 + 1);have F2 := a (k * 8 + 2);have F3 := a (k * 8 + 3);have V := a (k * 8 + 4);have R := a (k * 8 + 5);have Z := a (k * 8 + 6);have F7 := a (k * 8 + 7);have S := A k;simp only at m i b G E y C D z H p F
           obtain ⟨Xc0, Xc1, Xc2, Xc3, Xc4, Xc5, Xc6⟩ := zAe X;obtain ⟨Xf0, Xf1, Xf2, Xf3, Xf4, Xf5, Xf6⟩ := zAo X;have Xlt := (ltH X);go_upto_region 24 with fail
           go_region
           go_upto_region 25 with fail
           clear N O m i b G E y C D z H p F A a K M F2 F3 V R Z F7 S Y T Xc0 Xc1 Xc2 Xc3 Xc4 Xc5 Xc6 Xf0 Xf1 Xf2 Xf3 Xf4 Xf5 Xf6 Xlt;replace h := zBD h;replace L := L.drew;replace X := zAV X;have zA : w3.heap.size ≤ w3.drew.heap.size := Nat.le_refl _;generalize w3.drew = w4 at zA h L X ⊢;clear J;obtain ⟨wa, wc, da, dc, ⟨N, O⟩, m, ⟨i, b, G, E, y, C, D, z⟩, ⟨H, -⟩, ⟨p, F⟩, A, a, Y, T⟩ := zAr h;have K := a (k * 8);have M := a (k * 8 + 1);have F2 := a (k * 8 + 2);have F3 := a (k * 8 + 3);have V := a (k * 8 + 4);have R := a (k * 8 + 5);have Z := a (k * 8 + 6);have F7 := a (k * 8 + 7);have S := A k;simp only at m i b G E y C D z H p F
           obtain ⟨Xc0, Xc1, Xc2, Xc3, Xc4, Xc5, Xc6⟩ := zAe X;obtain ⟨Xf0, Xf1, Xf2, Xf3, Xf4, Xf5, Xf6⟩ := zAo X;have Xlt := (ltH X);obtain ⟨rB, OB⟩ := hk_ne h;have nB : ¬ w.heap.size = mb := by omega
           have oA : Hid _ := aI h (aI X L);have K5 : Hid (∀ wx, Bl w4 wx → wx.cell? ⟨g, 0, none⟩ = some (sL (some ⟨mb, 0, none⟩) x.1.length mc) ∧ wx.cell? ⟨w.heap.size, 4, none⟩ = some (nI k) ∧ wx.cell? ⟨w.heap.size, 5, none⟩ = some (sL ma dt.length mc2)) := fun wx hh => ⟨zAf hh N (zAi N), zAf hh Xc4 (zAi Xc4), zAf hh Xc5 (zAi Xc5)⟩;have Q0 : Hid (Bl w4 w4.drew) := (Below.refl w4.heap.size w4).drew;have EB : Hid _ := K5.out _ Q0.out;have KM : Hid (∀ wx, Bl w4 wx → wx.cell? ⟨mb, k, none⟩ = some (sL wa ws.length wc)) := fun wx hh => zAf hh m (zAi m);clear h X L N O m i b G E y C D z H p F A a K M F2 F3 V R Z F7 S Y T Xc0 Xc1 Xc2 Xc3 Xc4 Xc5 Xc6 Xf0 Xf1 Xf2 Xf3 Xf4 Xf5 Xf6 Xlt;first | (go_region_held3 (fun wx => wx.cell? ⟨g, 0, none⟩ = some (sL (some ⟨mb, 0, none⟩) x.1.length mc) ∧ wx.cell? ⟨w.heap.size, 4, none⟩ = some (nI k) ∧ wx.cell? ⟨w.heap.size, 5, none⟩ = some (sL ma dt.length mc2)) (first | (with_reducible exact EB.out) | (with_reducible exact NA.out) | (with_reducible exact jB.out) | fail) (first | (go_at_call 95; refine (zCB ma dt mc2 _ (hd.out _ (oA.out.2.2.drew)) hm).mono ?_; rintro e w9 ⟨v, rfl, mr⟩; obtain ⟨ra, rc, rfl⟩ := zAB mr.1; have Q1 : Hid (Bl w4 w9) := zAa Q0.out mr.2; have NA : Hid _ := K5.out _ Q1.out; have DB : Hid _ := mr.1; have HB : w9.frozen? ⟨mb, k, none⟩ = false := hk_fm (zAH oA.out.1 Q1.out); have M9 := KM.out _ Q1.out; have jB : Hid ((w9.setCell ⟨mb, k, none⟩ (sL ra dt.length rc)).cell? ⟨g, 0, none⟩ = some (sL (some ⟨mb, 0, none⟩) x.1.length mc) ∧ (w9.setCell ⟨mb, k, none⟩ (sL ra dt.length rc)).cell? ⟨w.heap.size, 4, none⟩ = some (nI k) ∧ (w9.setCell ⟨mb, k, none⟩ (sL ra dt.length rc)).cell? ⟨w.heap.size, 5, none⟩ = some (sL ma dt.length mc2)) := ⟨zGU rB NA.out.1, zGU nB NA.out.2.1, zGU nB NA.out.2.2⟩; clear mr) | fail)) | fail
           go_upto_region 26 with fail
           have h : HK t g mb mc bb bc k x w9.heap.size (w9.setCell ⟨mb, k, none⟩ (sL ra dt.length rc)) (dt, (o, s, false, kd, f, l, mk, d)) := hk_w (zAH oA.out.1 Q1.out) (Nat.le_trans oA.out.1.2.2.2.1 Q1.out.size) (Nat.le_refl _) DB.out (fun j (q : rng w4.drew.heap.size w9.heap.size j) => ⟨Nat.le_trans oA.out.1.2.2.2.1 q.1, q.2⟩);have X := zAl (g := mb) (o := k) (v := (sL ra dt.length rc)) (zAb Q1.out oA.out.2.1) (by omega);have L := zAh (g := mb) (o := k) (v := (sL ra dt.length rc)) (zBj oA.out.2.2 Q1.out (zBT oA.out.1)) (zDS oA.out.1).1;clear jB HB M9 NA;generalize w9.setCell ⟨mb, k, none⟩ (sL ra dt.length rc) = w5 at h X L ⊢;obtain ⟨wa, wc, da, dc, ⟨N, O⟩, m, ⟨i, b, G, E, y, C, D, z⟩, ⟨H, -⟩, ⟨p, F⟩, A, a, Y, T⟩ := zAr h;have K := a (k * 8);have M := a (k * 8 + 1);have F2 := a (k * 8 + 2);have F3 := a (k * 8 + 3);have V := a (k * 8 + 4);have R := a (k * 8 + 5);have Z := a (k * 8 + 6);have F7 := a (k * 8 + 7);have S := A k;simp only at m i b G E y C D z H p F
           obtain ⟨Xc0, Xc1, Xc2, Xc3, Xc4, Xc5, Xc6⟩ := zAe X;obtain ⟨Xf0, Xf1, Xf2, Xf3, Xf4, Xf5, Xf6⟩ := zAo X;have Xlt := (ltH X);go_wp2_with fail
           refine (zBO bb (k * 8) o s c _ i b K M).mono ?_;clear N O m i b G E y C D z H p F A a K M F2 F3 V R Z F7 S Y T Xc0 Xc1 Xc2 Xc3 Xc4 Xc5 Xc6 Xf0 Xf1 Xf2 Xf3 Xf4 Xf5 Xf6 Xlt;rintro e KA ⟨rfl, DA⟩;rw [DA];clear DA KA;obtain ⟨h2, b2, r2⟩ := zLr h hw sA;simp only at h2 b2 r2
           have X2 : (fgW w5 bb (k * 8) o s c).heap[w.heap.size]? = _ := zJI X (by omega);replace L := L.trans b2;generalize fgW w5 bb (k * 8) o s c = wf at h2 X2 L ⊢;clear h X r2 b2;have h := h2;have X := X2;clear h2 X2;obtain ⟨wa, wc, da, dc, ⟨N, O⟩, m, ⟨i, b, G, E, y, C, D, z⟩, ⟨H, -⟩, ⟨p, F⟩, A, a, Y, T⟩ := zAr h;have K := a (k * 8);have M := a (k * 8 + 1);have F2 := a (k * 8 + 2);have F3 := a (k * 8 + 3);have V := a (k * 8 + 4);have R := a (k * 8 + 5);have Z := a (k * 8 + 6);have F7 := a (k * 8 + 7);have S := A k;simp only at m i b G E y C D z H p F
           obtain ⟨Xc0, Xc1, Xc2, Xc3, Xc4, Xc5, Xc6⟩ := zAe X;obtain ⟨Xf0, Xf1, Xf2, Xf3, Xf4, Xf5, Xf6⟩ := zAo X;have Xlt := (ltH X);go_wp2;go_ret2
           clear N O m i b G E y C D z H p F A a K M F2 F3 V R Z F7 S Y T Xc0 Xc1 Xc2 Xc3 Xc4 Xc5 Xc6 Xf0 Xf1 Xf2 Xf3 Xf4 Xf5 Xf6 Xlt;have ho := zD4 (B := w9.heap.size) (U := fun _ => False) (W := wf) (zBC (zB7 2) (zB7 4) (show zA4 c from ⟨by omega, by omega⟩) (zB7 12) hkk64 (zB7 0) (zD3 wf _)) (fun j q => q.elim) h.2.2.2.1;have pA := zAg wf (.cells #[nI 2, nI 4, nI c, nI 12, nI k, sL none 0 0, nI 0] 30);rw [HS.out];exact ⟨_, rfl, w9.heap.size, zAH h pA, ho, zBj L pA (zBT h)⟩
          ·have zd : ¬ ((0 : Int) < (dt.length : Int)) := by omega
           have HS : Hid (zAU k (ws, (o, s, false, kd, f, l, mk, d)) (r, c, tq, 3, (k : Int), dt, gg) = ((ws, zCp (o, s, false, kd, f, l, mk, d) (fgO o c) (fgS s c)), [zC1 k 2 c 12 [] 0], 1)) := by
            have e1 : zBd (ws, (o, s, false, kd, f, l, mk, d)) (r, c, tq, 3, (k : Int), dt, gg) = none := by
             unfold zBd;rw [if_neg (show ¬ (0 : Int) < zBL 3 from by decide), if_pos (show (3 : Int) = 3 from rfl)];rw [show zA6 c 0 3 = true from sA];rfl
            unfold Hid zAU;rw [e1];show ((zBm k (ws, (o, s, false, kd, f, l, mk, d)) (r, c, tq, 3, (k : Int), dt, gg)).1, (zBm k (ws, (o, s, false, kd, f, l, mk, d)) (r, c, tq, 3, (k : Int), dt, gg)).2, (1 : Int)) = _
            unfold zBm;rw [if_neg (show ¬ (0 : Int) < zBL 3 from by decide), if_pos (show (3 : Int) = 3 from rfl)];unfold zDd;rw [if_pos (show zEt o c = true from by unfold zEt; rw [sA]; simp [qo])];rw [show zBA ws dt = ws from if_pos (by omega)]
           clear qo qd;obtain ⟨wa, wc, da, dc, ⟨N, O⟩, m, ⟨i, b, G, E, y, C, D, z⟩, ⟨H, -⟩, ⟨p, F⟩, A, a, Y, T⟩ := zAr h;have K := a (k * 8);have M := a (k * 8 + 1);have F2 := a (k * 8 + 2);have F3 := a (k * 8 + 3);have V := a (k * 8 + 4);have R := a (k * 8 + 5);have Z := a (k * 8 + 6);have F7 := a (k * 8 + 7);have S := A k;simp only at m i b G E y C D z H p F
           obtain ⟨Xc0, Xc1, Xc2, Xc3, Xc4, Xc5, Xc6⟩ := zAe X;obtain ⟨Xf0, Xf1, Xf2, Xf3, Xf4, Xf5, Xf6⟩ := zAo X;have Xlt := (ltH X);go_upto_region 24 with fail
           go_region
           go_upto_region 26 with fail
           clear N O m i b G E y C D z H p F A a K M F2 F3 V R Z F7 S Y T Xc0 Xc1 Xc2 Xc3 Xc4 Xc5 Xc6 Xf0 Xf1 Xf2 Xf3 Xf4 Xf5 Xf6 Xlt;replace h := zBD h;replace L := L.drew;replace X := zAV X;have zA : w3.heap.size ≤ w3.drew.heap.size := Nat.le_refl _;generalize w3.drew = w4 at zA h L X ⊢;obtain ⟨wa, wc, da, dc, ⟨N, O⟩, m, ⟨i, b, G, E, y, C, D, z⟩, ⟨H, -⟩, ⟨p, F⟩, A, a, Y, T⟩ := zAr h;have K := a (k * 8);have M := a (k * 8 + 1);have F2 := a (k * 8 + 2);have F3 := a (k * 8 + 3);have V := a (k * 8 + 4);have R := a (k * 8 + 5);have Z := a (k * 8 + 6);have F7 := a (k * 8 + 7);have S := A k;simp only at m i b G E y C D z H p F
           obtain ⟨Xc0, Xc1, Xc2, Xc3, Xc4, Xc5, Xc6⟩ := zAe X;obtain ⟨Xf0, Xf1, Xf2, Xf3, Xf4, Xf5, Xf6⟩ := zAo X;have Xlt := (ltH X);go_wp2_with fail
           refine (zBO bb (k * 8) o s c _ i b K M).mono ?_;clear N O m i b G E y C D z H p F A a K M F2 F3 V R Z F7 S Y T Xc0 Xc1 Xc2 Xc3 Xc4 Xc5 Xc6 Xf0 Xf1 Xf2 Xf3 Xf4 Xf5 Xf6 Xlt;rintro e KA ⟨rfl, DA⟩;rw [DA];clear DA KA;obtain ⟨h2, b2, r2⟩ := zLr h hw sA;simp only at h2 b2 r2
           have X2 : (fgW w4 bb (k * 8) o s c).heap[w.heap.size]? = _ := zJI X (by omega);replace L := L.trans b2;generalize fgW w4 bb (k * 8) o s c = wf at h2 X2 L ⊢;clear h X r2 b2;have h := h2;have X := X2;clear h2 X2;obtain ⟨wa, wc, da, dc, ⟨N, O⟩, m, ⟨i, b, G, E, y, C, D, z⟩, ⟨H, -⟩, ⟨p, F⟩, A, a, Y, T⟩ := zAr h;have K := a (k * 8);have M := a (k * 8 + 1);have F2 := a (k * 8 + 2);have F3 := a (k * 8 + 3);have V := a (k * 8 + 4);have R := a (k * 8 + 5);have Z := a (k * 8 + 6);have F7 := a (k * 8 + 7);have S := A k;simp only at m i b G E y C D z H p F
           obtain ⟨Xc0, Xc1, Xc2, Xc3, Xc4, Xc5, Xc6⟩ := zAe X;obtain ⟨Xf0, Xf1, Xf2, Xf3, Xf4, Xf5, Xf6⟩ := zAo X;have Xlt := (ltH X);go_wp2;go_ret2
           clear N O m i b G E y C D z H p F A a K M F2 F3 V R Z F7 S Y T Xc0 Xc1 Xc2 Xc3 Xc4 Xc5 Xc6 Xf0 Xf1 Xf2 Xf3 Xf4 Xf5 Xf6 Xlt;have ho := zD4 (B := B) (U := fun _ => False) (W := wf) (zBC (zB7 2) (zB7 4) (show zA4 c from ⟨by omega, by omega⟩) (zB7 12) hkk64 (zB7 0) (zD3 wf _)) (fun j q => q.elim) h.2.2.2.1;have pA := zAg wf (.cells #[nI 2, nI 4, nI c, nI 12, nI k, sL none 0 0, nI 0] 30);rw [HS.out];exact ⟨_, rfl, B, zAH h pA, ho, zBj L pA (zBT h)⟩
         ·have zo : (o == c) = false := by simp [qo]
          have HS : Hid (zAU k (ws, (o, s, false, kd, f, l, mk, d)) (r, c, tq, 3, (k : Int), dt, gg) = ((ws, zCp (o, s, false, kd, f, l, mk, d) (fgO o c) (fgS s c)), [zC1 k 2 c 12 [] 0], 1)) := by
           have e1 : zBd (ws, (o, s, false, kd, f, l, mk, d)) (r, c, tq, 3, (k : Int), dt, gg) = none := by
            unfold zBd;rw [if_neg (show ¬ (0 : Int) < zBL 3 from by decide), if_pos (show (3 : Int) = 3 from rfl)];rw [show zA6 c 0 3 = true from sA];rfl
           unfold Hid zAU;rw [e1];show ((zBm k (ws, (o, s, false, kd, f, l, mk, d)) (r, c, tq, 3, (k : Int), dt, gg)).1, (zBm k (ws, (o, s, false, kd, f, l, mk, d)) (r, c, tq, 3, (k : Int), dt, gg)).2, (1 : Int)) = _
           unfold zBm;rw [if_neg (show ¬ (0 : Int) < zBL 3 from by decide), if_pos (show (3 : Int) = 3 from rfl)];unfold zDd;rw [if_neg (show ¬ zEt o c = true from by unfold zEt; rw [sA]; simp; omega)]
          clear qo;obtain ⟨wa, wc, da, dc, ⟨N, O⟩, m, ⟨i, b, G, E, y, C, D, z⟩, ⟨H, -⟩, ⟨p, F⟩, A, a, Y, T⟩ := zAr h;have K := a (k * 8);have M := a (k * 8 + 1);have F2 := a (k * 8 + 2);have F3 := a (k * 8 + 3);have V := a (k * 8 + 4);have R := a (k * 8 + 5);have Z := a (k * 8 + 6);have F7 := a (k * 8 + 7);have S := A k;simp only at m i b G E y C D z H p F
          obtain ⟨Xc0, Xc1, Xc2, Xc3, Xc4, Xc5, Xc6⟩ := zAe X;obtain ⟨Xf0, Xf1, Xf2, Xf3, Xf4, Xf5, Xf6⟩ := zAo X;have Xlt := (ltH X);go_upto_region 24 with fail
          go_region
          go_upto_region 26 with fail
          clear N O m i b G E y C D z H p F A a K M F2 F3 V R Z F7 S Y T Xc0 Xc1 Xc2 Xc3 Xc4 Xc5 Xc6 Xf0 Xf1 Xf2 Xf3 Xf4 Xf5 Xf6 Xlt;replace h := zBD h;replace L := L.drew;replace X := zAV X;have zA : w3.heap.size ≤ w3.drew.heap.size := Nat.le_refl _;generalize w3.drew = w4 at zA h L X ⊢;obtain ⟨wa, wc, da, dc, ⟨N, O⟩, m, ⟨i, b, G, E, y, C, D, z⟩, ⟨H, -⟩, ⟨p, F⟩, A, a, Y, T⟩ := zAr h;have K := a (k * 8);have M := a (k * 8 + 1);have F2 := a (k * 8 + 2);have F3 := a (k * 8 + 3);have V := a (k * 8 + 4);have R := a (k * 8 + 5);have Z := a (k * 8 + 6);have F7 := a (k * 8 + 7);have S := A k;simp only at m i b G E y C D z H p F
          obtain ⟨Xc0, Xc1, Xc2, Xc3, Xc4, Xc5, Xc6⟩ := zAe X;obtain ⟨Xf0, Xf1, Xf2, Xf3, Xf4, Xf5, Xf6⟩ := zAo X;have Xlt := (ltH X);go_wp2_with fail
          refine (zBO bb (k * 8) o s c _ i b K M).mono ?_;clear N O m i b G E y C D z H p F A a K M F2 F3 V R Z F7 S Y T Xc0 Xc1 Xc2 Xc3 Xc4 Xc5 Xc6 Xf0 Xf1 Xf2 Xf3 Xf4 Xf5 Xf6 Xlt;rintro e KA ⟨rfl, DA⟩;rw [DA];clear DA KA;obtain ⟨h2, b2, r2⟩ := zLr h hw sA;simp only at h2 b2 r2
          have X2 : (fgW w4 bb (k * 8) o s c).heap[w.heap.size]? = _ := zJI X (by omega);replace L := L.trans b2;generalize fgW w4 bb (k * 8) o s c = wf at h2 X2 L ⊢;clear h X r2 b2;have h := h2;have X := X2;clear h2 X2;obtain ⟨wa, wc, da, dc, ⟨N, O⟩, m, ⟨i, b, G, E, y, C, D, z⟩, ⟨H, -⟩, ⟨p, F⟩, A, a, Y, T⟩ := zAr h;have K := a (k * 8);have M := a (k * 8 + 1);have F2 := a (k * 8 + 2);have F3 := a (k * 8 + 3);have V := a (k * 8 + 4);have R := a (k * 8 + 5);have Z := a (k * 8 + 6);have F7 := a (k * 8 + 7);have S := A k;simp only at m i b G E y C D z H p F
          obtain ⟨Xc0, Xc1, Xc2, Xc3, Xc4, Xc5, Xc6⟩ := zAe X;obtain ⟨Xf0, Xf1, Xf2, Xf3, Xf4, Xf5, Xf6⟩ := zAo X;have Xlt := (ltH X);go_wp2;go_ret2
          clear N O m i b G E y C D z H p F A a K M F2 F3 V R Z F7 S Y T Xc0 Xc1 Xc2 Xc3 Xc4 Xc5 Xc6 Xf0 Xf1 Xf2 Xf3 Xf4 Xf5 Xf6 Xlt;have ho := zD4 (B := B) (U := fun _ => False) (W := wf) (zBC (zB7 2) (zB7 4) (show zA4 c from ⟨by omega, by omega⟩) (zB7 12) hkk64 (zB7 0) (zD3 wf _)) (fun j q => q.elim) h.2.2.2.1;have pA := zAg wf (.cells #[nI 2, nI 4, nI c, nI 12, nI k, sL none 0 0, nI 0] 30);rw [HS.out];exact ⟨_, rfl, B, zAH h pA, ho, zBj L pA (zBT h)⟩
       ·have sA : zA6 c 0 3 = false := by unfold zA6; simp; omega
        have HS : Hid (zAU k (ws, (o, s, bz, kd, f, l, mk, d)) (r, c, tq, 3, (k : Int), dt, gg) = ((ws, (o, s, bz, kd, f, l, mk, d)), [], 0)) := by
         have e1 : zBd (ws, (o, s, bz, kd, f, l, mk, d)) (r, c, tq, 3, (k : Int), dt, gg) = some 0 := by
          unfold zBd;rw [if_neg (show ¬ (0 : Int) < zBL 3 from by decide), if_pos (show (3 : Int) = 3 from rfl)];rw [show zA6 c 0 3 = false from sA];rfl
         unfold Hid zAU;rw [e1]
        obtain ⟨wa, wc, da, dc, ⟨N, O⟩, m, ⟨i, b, G, E, y, C, D, z⟩, ⟨H, -⟩, ⟨p, F⟩, A, a, Y, T⟩ := zAr h;have K := a (k * 8);have M := a (k * 8 + 1);have F2 := a (k * 8 + 2);have F3 := a (k * 8 + 3);have V := a (k * 8 + 4);have R := a (k * 8 + 5);have Z := a (k * 8 + 6);have F7 := a (k * 8 + 7);have S := A k;simp only at m i b G E y C D z H p F
        obtain ⟨Xc0, Xc1, Xc2, Xc3, Xc4, Xc5, Xc6⟩ := zAe X;obtain ⟨Xf0, Xf1, Xf2, Xf3, Xf4, Xf5, Xf6⟩ := zAo X;have Xlt := (ltH X);go_wp2;go_ret2
        clear N O m i b G E y C D z H p F A a K M F2 F3 V R Z F7 S Y T Xc0 Xc1 Xc2 Xc3 Xc4 Xc5 Xc6 Xf0 Xf1 Xf2 Xf3 Xf4 Xf5 Xf6 Xlt;rw [HS.out];exact ⟨_, rfl, B, h, zAT.own_mono J (zAL (Nat.le_refl _) (by omega)), L⟩
      ·have e3 : (n == 3) = false := beq_false_of_ne n3;by_cases n8 : n = 8
       ·subst n8;by_cases qc : c ≤ 3
        ·cases hA : zFL (o, s, bz, kd, f, l, mk, d) c
         ·skip
          have HS : Hid (zAU k (ws, (o, s, bz, kd, f, l, mk, d)) (r, c, tq, 8, (k : Int), dt, gg) = ((ws, (o, s, bz, kd, f, l, mk, d)), [], 0)) := by
           have e1 : zBd (ws, (o, s, bz, kd, f, l, mk, d)) (r, c, tq, 8, (k : Int), dt, gg) = some 0 := by
            unfold zBd;rw [if_neg (show ¬ (0 : Int) < zBL 8 from by decide), if_neg (show ¬ (8 : Int) = 3 from by decide), if_pos (show (8 : Int) = 8 ∨ (8 : Int) = 9 from by decide)];rw [hA];rfl
           unfold Hid zAU;rw [e1]
          have I : Hid _ := aI h L;obtain ⟨wa, wc, da, dc, ⟨N, O⟩, m, ⟨i, b, G, E, y, C, D, z⟩, ⟨H, -⟩, ⟨p, F⟩, A, a, Y, T⟩ := zAr h;have K := a (k * 8);have M := a (k * 8 + 1);have F2 := a (k * 8 + 2);have F3 := a (k * 8 + 3);have V := a (k * 8 + 4);have R := a (k * 8 + 5);have Z := a (k * 8 + 6);have F7 := a (k * 8 + 7);have S := A k;simp only at m i b G E y C D z H p F
          obtain ⟨Xc0, Xc1, Xc2, Xc3, Xc4, Xc5, Xc6⟩ := zAe X;obtain ⟨Xf0, Xf1, Xf2, Xf3, Xf4, Xf5, Xf6⟩ := zAo X;have Xlt := (ltH X);go_wp2_with fail
          refine (zF3 ws o s bz kd f l mk d r c tq 8 gg dt ma mc2 _ I.out.1 (hd9 hd I.out.2) hm hw c0 qc hA hlz).mono ?_;clear N O m i b G E y C D z H p F A a K M F2 F3 V R Z F7 S Y T Xc0 Xc1 Xc2 Xc3 Xc4 Xc5 Xc6 Xf0 Xf1 Xf2 Xf3 Xf4 Xf5 Xf6 Xlt;rintro e w9 ⟨ms, rfl, B8, k9, m9, b9⟩;have HF : Hid _ := aI k9 (aI m9 (I.out.2.trans b9));clear k9 m9 b9 h X L J;go_wp2;go_ret2
          rw [HS.out];exact ⟨ms, rfl, B8, HF.out⟩
         ·have qA := hA;unfold zFL at qA;simp only [Bool.and_eq_true, decide_eq_true_eq] at qA;obtain ⟨rfl, VA, LA⟩ := qA;have HS : Hid (zAU k (ws, (o, s, true, kd, f, l, mk, d)) (r, c, tq, 8, (k : Int), dt, gg) = ((zIn k (ws, (o, s, true, kd, f, l, mk, d)) (r, c, tq, 8, (k : Int), dt, gg)).1, (zIn k (ws, (o, s, true, kd, f, l, mk, d)) (r, c, tq, 8, (k : Int), dt, gg)).2, 1)) := by
           have e1 : zBd (ws, (o, s, true, kd, f, l, mk, d)) (r, c, tq, 8, (k : Int), dt, gg) = none := by
            unfold zBd;rw [if_neg (show ¬ (0 : Int) < zBL 8 from by decide), if_neg (show ¬ (8 : Int) = 3 from by decide), if_pos (show (8 : Int) = 8 ∨ (8 : Int) = 9 from by decide)];rw [hA];rfl
           unfold Hid zAU;rw [e1];show ((zBm k (ws, (o, s, true, kd, f, l, mk, d)) (r, c, tq, 8, (k : Int), dt, gg)).1, (zBm k (ws, (o, s, true, kd, f, l, mk, d)) (r, c, tq, 8, (k : Int), dt, gg)).2, (1 : Int)) = _
           unfold zBm;rw [if_neg (show ¬ (0 : Int) < zBL 8 from by decide), if_neg (show ¬ (8 : Int) = 3 from by decide), if_pos (show (8 : Int) = 8 ∨ (8 : Int) = 9 from by decide)]
          have I : Hid _ := aI h L;obtain ⟨wa, wc, da, dc, ⟨N, O⟩, m, ⟨i, b, G, E, y, C, D, z⟩, ⟨H, -⟩, ⟨p, F⟩, A, a, Y, T⟩ := zAr h;have K := a (k * 8);have M := a (k * 8 + 1);have F2 := a (k * 8 + 2);have F3 := a (k * 8 + 3);have V := a (k * 8 + 4);have R := a (k * 8 + 5);have Z := a (k * 8 + 6);have F7 := a (k * 8 + 7);have S := A k;simp only at m i b G E y C D z H p F
          obtain ⟨Xc0, Xc1, Xc2, Xc3, Xc4, Xc5, Xc6⟩ := zAe X;obtain ⟨Xf0, Xf1, Xf2, Xf3, Xf4, Xf5, Xf6⟩ := zAo X;have Xlt := (ltH X);go_wp2_with fail
          refine (zEX ws o s kd f l mk d r c tq 8 gg dt ma mc2 _ I.out.1 (hd9 hd I.out.2) hm hw c0 qc LA VA (zHJ he LA hl hdt) HE).mono ?_;clear N O m i b G E y C D z H p F A a K M F2 F3 V R Z F7 S Y T Xc0 Xc1 Xc2 Xc3 Xc4 Xc5 Xc6 Xf0 Xf1 Xf2 Xf3 Xf4 Xf5 Xf6 Xlt;rintro e w9 ⟨ms, rfl, B8, k9, m9, b9⟩;have HF : Hid _ := aI k9 (aI m9 (I.out.2.trans b9));clear k9 m9 b9 h X L J;go_wp2;go_ret2
          rw [HS.out];exact ⟨ms, rfl, B8, HF.out⟩
        ·have hA : zFL (o, s, bz, kd, f, l, mk, d) c = false := by
           cases q : zFL (o, s, bz, kd, f, l, mk, d) c
           ·rfl
           ·unfold zFL at q;simp only [Bool.and_eq_true, decide_eq_true_eq] at q;have := hol_c hw q.2.2;omega
         have HS : Hid (zAU k (ws, (o, s, bz, kd, f, l, mk, d)) (r, c, tq, 8, (k : Int), dt, gg) = ((ws, (o, s, bz, kd, f, l, mk, d)), [], 0)) := by
          have e1 : zBd (ws, (o, s, bz, kd, f, l, mk, d)) (r, c, tq, 8, (k : Int), dt, gg) = some 0 := by
           unfold zBd;rw [if_neg (show ¬ (0 : Int) < zBL 8 from by decide), if_neg (show ¬ (8 : Int) = 3 from by decide), if_pos (show (8 : Int) = 8 ∨ (8 : Int) = 9 from by decide)];rw [hA];rfl
          unfold Hid zAU;rw [e1]
         obtain ⟨wa, wc, da, dc, ⟨N, O⟩, m, ⟨i, b, G, E, y, C, D, z⟩, ⟨H, -⟩, ⟨p, F⟩, A, a, Y, T⟩ := zAr h;have K := a (k * 8);have M := a (k * 8 + 1);have F2 := a (k * 8 + 2);have F3 := a (k * 8 + 3);have V := a (k * 8 + 4);have R := a (k * 8 + 5);have Z := a (k * 8 + 6);have F7 := a (k * 8 + 7);have S := A k;simp only at m i b G E y C D z H p F
         obtain ⟨Xc0, Xc1, Xc2, Xc3, Xc4, Xc5, Xc6⟩ := zAe X;obtain ⟨Xf0, Xf1, Xf2, Xf3, Xf4, Xf5, Xf6⟩ := zAo X;have Xlt := (ltH X);go_wp2;go_ret2
         clear N O m i b G E y C D z H p F A a K M F2 F3 V R Z F7 S Y T Xc0 Xc1 Xc2 Xc3 Xc4 Xc5 Xc6 Xf0 Xf1 Xf2 Xf3 Xf4 Xf5 Xf6 Xlt;rw [HS.out];exact ⟨_, rfl, B, h, zAT.own_mono J (zAL (Nat.le_refl _) (by omega)), L⟩
       ·have e8 : (n == 8) = false := beq_false_of_ne n8;by_cases n9 : n = 9
        ·subst n9;by_cases qc : c ≤ 3
         ·cases hA : zFL (o, s, bz, kd, f, l, mk, d) c
          ·skip
           have HS : Hid (zAU k (ws, (o, s, bz, kd, f, l, mk, d)) (r, c, tq, 9, (k : Int), dt, gg) = ((ws, (o, s, bz, kd, f, l, mk, d)), [], 0)) := by
            have e1 : zBd (ws, (o, s, bz, kd, f, l, mk, d)) (r, c, tq, 9, (k : Int), dt, gg) = some 0 := by
             unfold zBd;rw [if_neg (show ¬ (0 : Int) < zBL 9 from by decide), if_neg (show ¬ (9 : Int) = 3 from by decide), if_pos (show (9 : Int) = 8 ∨ (9 : Int) = 9 from by decide)];rw [hA];rfl
            unfold Hid zAU;rw [e1]
           have I : Hid _ := aI h L;obtain ⟨wa, wc, da, dc, ⟨N, O⟩, m, ⟨i, b, G, E, y, C, D, z⟩, ⟨H, -⟩, ⟨p, F⟩, A, a, Y, T⟩ := zAr h;have K := a (k * 8);have M := a (k * 8 + 1);have F2 := a (k * 8 + 2);have F3 := a (k * 8 + 3);have V := a (k * 8 + 4);have R := a (k * 8 + 5);have Z := a (k * 8 + 6);have F7 := a (k * 8 + 7);have S := A k;simp only at m i b G E y C D z H p F
           obtain ⟨Xc0, Xc1, Xc2, Xc3, Xc4, Xc5, Xc6⟩ := zAe X;obtain ⟨Xf0, Xf1, Xf2, Xf3, Xf4, Xf5, Xf6⟩ := zAo X;have Xlt := (ltH X);go_wp2_with fail
           refine (zF3 ws o s bz kd f l mk d r c tq 9 gg dt ma mc2 _ I.out.1 (hd9 hd I.out.2) hm hw c0 qc hA hlz).mono ?_;clear N O m i b G E y C D z H p F A a K M F2 F3 V R Z F7 S Y T Xc0 Xc1 Xc2 Xc3 Xc4 Xc5 Xc6 Xf0 Xf1 Xf2 Xf3 Xf4 Xf5 Xf6 Xlt;rintro e w9 ⟨ms, rfl, B8, k9, m9, b9⟩;have HF : Hid _ := aI k9 (aI m9 (I.out.2.trans b9));clear k9 m9 b9 h X L J;go_wp2;go_ret2
           rw [HS.out];exact ⟨ms, rfl, B8, HF.out⟩
          ·have qA := hA;unfold zFL at qA;simp only [Bool.and_eq_true, decide_eq_true_eq] at qA;obtain ⟨rfl, VA, LA⟩ := qA;have HS : Hid (zAU k (ws, (o, s, true, kd, f, l, mk, d)) (r, c, tq, 9, (k : Int), dt, gg) = ((zIn k (ws, (o, s, true, kd, f, l, mk, d)) (r, c, tq, 9, (k : Int), dt, gg)).1, (zIn k (ws, (o, s, true, kd, f, l, mk, d)) (r, c, tq, 9, (k : Int), dt, gg)).2, 1)) := by
            have e1 : zBd (ws, (o, s, true, kd, f, l, mk, d)) (r, c, tq, 9, (k : Int), dt, gg) = none := by
             unfold zBd;rw [if_neg (show ¬ (0 : Int) < zBL 9 from by decide), if_neg (show ¬ (9 : Int) = 3 from by decide), if_pos (show (9 : Int) = 8 ∨ (9 : Int) = 9 from by decide)];rw [hA];rfl
            unfold Hid zAU;rw [e1];show ((zBm k (ws, (o, s, true, kd, f, l, mk, d)) (r, c, tq, 9, (k : Int), dt, gg)).1, (zBm k (ws, (o, s, true, kd, f, l, mk, d)) (r, c, tq, 9, (k : Int), dt, gg)).2, (1 : Int)) = _
            unfold zBm;rw [if_neg (show ¬ (0 : Int) < zBL 9 from by decide), if_neg (show ¬ (9 : Int) = 3 from by decide), if_pos (show (9 : Int) = 8 ∨ (9 : Int) = 9 from by decide)]
           have I : Hid _ := aI h L;obtain ⟨wa, wc, da, dc, ⟨N, O⟩, m, ⟨i, b, G, E, y, C, D, z⟩, ⟨H, -⟩, ⟨p, F⟩, A, a, Y, T⟩ := zAr h;have K := a (k * 8);have M := a (k * 8 + 1);have F2 := a (k * 8 + 2);have F3 := a (k * 8 + 3);have V := a (k * 8 + 4);have R := a (k * 8 + 5);have Z := a (k * 8 + 6);have F7 := a (k * 8 + 7);have S := A k;simp only at m i b G E y C D z H p F
           obtain ⟨Xc0, Xc1, Xc2, Xc3, Xc4, Xc5, Xc6⟩ := zAe X;obtain ⟨Xf0, Xf1, Xf2, Xf3, Xf4, Xf5, Xf6⟩ := zAo X;have Xlt := (ltH X);go_wp2_with fail
           refine (zEX ws o s kd f l mk d r c tq 9 gg dt ma mc2 _ I.out.1 (hd9 hd I.out.2) hm hw c0 qc LA VA (zHJ he LA hl hdt) HE).mono ?_;clear N O m i b G E y C D z H p F A a K M F2 F3 V R Z F7 S Y T Xc0 Xc1 Xc2 Xc3 Xc4 Xc5 Xc6 Xf0 Xf1 Xf2 Xf3 Xf4 Xf5 Xf6 Xlt;rintro e w9 ⟨ms, rfl, B8, k9, m9, b9⟩;have HF : Hid _ := aI k9 (aI m9 (I.out.2.trans b9));clear k9 m9 b9 h X L J;go_wp2;go_ret2
           rw [HS.out];exact ⟨ms, rfl, B8, HF.out⟩
         ·have hA : zFL (o, s, bz, kd, f, l, mk, d) c = false := by
            cases q : zFL (o, s, bz, kd, f, l, mk, d) c
            ·rfl
            ·unfold zFL at q;simp only [Bool.and_eq_true, decide_eq_true_eq] at q;have := hol_c hw q.2.2;omega
          have HS : Hid (zAU k (ws, (o, s, bz, kd, f, l, mk, d)) (r, c, tq, 9, (k : Int), dt, gg) = ((ws, (o, s, bz, kd, f, l, mk, d)), [], 0)) := by
           have e1 : zBd (ws, (o, s, bz, kd, f, l, mk, d)) (r, c, tq, 9, (k : Int), dt, gg) = some 0 := by
            unfold zBd;rw [if_neg (show ¬ (0 : Int) < zBL 9 from by decide), if_neg (show ¬ (9 : Int) = 3 from by decide), if_pos (show (9 : Int) = 8 ∨ (9 : Int) = 9 from by decide)];rw [hA];rfl
           unfold Hid zAU;rw [e1]
          obtain ⟨wa, wc, da, dc, ⟨N, O⟩, m, ⟨i, b, G, E, y, C, D, z⟩, ⟨H, -⟩, ⟨p, F⟩, A, a, Y, T⟩ := zAr h;have K := a (k * 8);have M := a (k * 8 + 1);have F2 := a (k * 8 + 2);have F3 := a (k * 8 + 3);have V := a (k * 8 + 4);have R := a (k * 8 + 5);have Z := a (k * 8 + 6);have F7 := a (k * 8 + 7);have S := A k;simp only at m i b G E y C D z H p F
          obtain ⟨Xc0, Xc1, Xc2, Xc3, Xc4, Xc5, Xc6⟩ := zAe X;obtain ⟨Xf0, Xf1, Xf2, Xf3, Xf4, Xf5, Xf6⟩ := zAo X;have Xlt := (ltH X);go_wp2;go_ret2
          clear N O m i b G E y C D z H p F A a K M F2 F3 V R Z F7 S Y T Xc0 Xc1 Xc2 Xc3 Xc4 Xc5 Xc6 Xf0 Xf1 Xf2 Xf3 Xf4 Xf5 Xf6 Xlt;rw [HS.out];exact ⟨_, rfl, B, h, zAT.own_mono J (zAL (Nat.le_refl _) (by omega)), L⟩
        ·have e9 : (n == 9) = false := beq_false_of_ne n9;by_cases YA : n = 10
         ·subst YA;cases hA : zDw (o, s, bz, kd, f, l, mk, d) c
          ·have qA : ¬ (bz = true ∧ l = 0 ∧ f = c) := fun q => by
             rw [show zDw (o, s, bz, kd, f, l, mk, d) c = (bz && (decide (l = 0) && decide (f = c))) from rfl, q.1, decide_eq_true q.2.1, decide_eq_true q.2.2] at hA;cases hA
           have HS : Hid (zAU k (ws, (o, s, bz, kd, f, l, mk, d)) (r, c, tq, 10, (k : Int), dt, gg) = ((ws, (o, s, bz, kd, f, l, mk, d)), [], 0)) := by
            have e1 : zBd (ws, (o, s, bz, kd, f, l, mk, d)) (r, c, tq, 10, (k : Int), dt, gg) = some 0 := by
             unfold zBd;rw [if_neg (show ¬ (0 : Int) < zBL 10 from by decide), if_neg (show ¬ (10 : Int) = 3 from by decide), if_neg (show ¬ ((10 : Int) = 8 ∨ (10 : Int) = 9) from by decide), if_pos (show (10 : Int) = 10 from rfl)];rw [hA];rfl
            unfold Hid zAU;rw [e1]
           skip
           cases bz
           ·skip
            obtain ⟨wa, wc, da, dc, ⟨N, O⟩, m, ⟨i, b, G, E, y, C, D, z⟩, ⟨H, -⟩, ⟨p, F⟩, A, a, Y, T⟩ := zAr h;have K := a (k * 8);have M := a (k * 8 + 1);have F2 := a (k * 8 + 2);have F3 := a (k * 8 + 3);have V := a (k * 8 + 4);have R := a (k * 8 + 5);have Z := a (k * 8 + 6);have F7 := a (k * 8 + 7);have S := A k;simp only at m i b G E y C D z H p F
            obtain ⟨Xc0, Xc1, Xc2, Xc3, Xc4, Xc5, Xc6⟩ := zAe X;obtain ⟨Xf0, Xf1, Xf2, Xf3, Xf4, Xf5, Xf6⟩ := zAo X;have Xlt := (ltH X);go_upto_region 33 with fail
            go_region
            go_wp2;go_ret2
            clear N O m i b G E y C D z H p F A a K M F2 F3 V R Z F7 S Y T Xc0 Xc1 Xc2 Xc3 Xc4 Xc5 Xc6 Xf0 Xf1 Xf2 Xf3 Xf4 Xf5 Xf6 Xlt;rw [HS.out];exact ⟨_, rfl, B, zBD h, zAT.own_mono (zCT J) (zAL (Nat.le_refl _) (show w2.heap.size ≤ w3.drew.heap.size from GA)), L.drew⟩
           ·by_cases ql : l = 0
            ·subst ql;have zf : (f == c) = false := beq_false_of_ne fun q => qA ⟨rfl, rfl, q⟩;obtain ⟨wa, wc, da, dc, ⟨N, O⟩, m, ⟨i, b, G, E, y, C, D, z⟩, ⟨H, -⟩, ⟨p, F⟩, A, a, Y, T⟩ := zAr h;have K := a (k * 8);have M := a (k * 8 + 1);have F2 := a (k * 8 + 2);have F3 := a (k * 8 + 3);have V := a (k * 8 + 4);have R := a (k * 8 + 5);have Z := a (k * 8 + 6);have F7 := a (k * 8 + 7);have S := A k;simp only at m i b G E y C D z H p F
             obtain ⟨Xc0, Xc1, Xc2, Xc3, Xc4, Xc5, Xc6⟩ := zAe X;obtain ⟨Xf0, Xf1, Xf2, Xf3, Xf4, Xf5, Xf6⟩ := zAo X;have Xlt := (ltH X);go_upto_region 33 with fail
             go_region
             go_wp2;go_ret2
             clear N O m i b G E y C D z H p F A a K M F2 F3 V R Z F7 S Y T Xc0 Xc1 Xc2 Xc3 Xc4 Xc5 Xc6 Xf0 Xf1 Xf2 Xf3 Xf4 Xf5 Xf6 Xlt;rw [HS.out];exact ⟨_, rfl, B, zBD h, zAT.own_mono (zCT J) (zAL (Nat.le_refl _) (show w2.heap.size ≤ w3.drew.heap.size from GA)), L.drew⟩
            ·have zl : (l == 0) = false := beq_false_of_ne ql;obtain ⟨wa, wc, da, dc, ⟨N, O⟩, m, ⟨i, b, G, E, y, C, D, z⟩, ⟨H, -⟩, ⟨p, F⟩, A, a, Y, T⟩ := zAr h;have K := a (k * 8);have M := a (k * 8 + 1);have F2 := a (k * 8 + 2);have F3 := a (k * 8 + 3);have V := a (k * 8 + 4);have R := a (k * 8 + 5);have Z := a (k * 8 + 6);have F7 := a (k * 8 + 7);have S := A k;simp only at m i b G E y C D z H p F
             obtain ⟨Xc0, Xc1, Xc2, Xc3, Xc4, Xc5, Xc6⟩ := zAe X;obtain ⟨Xf0, Xf1, Xf2, Xf3, Xf4, Xf5, Xf6⟩ := zAo X;have Xlt := (ltH X);go_upto_region 33 with fail
             go_region
             go_wp2;go_ret2
             clear N O m i b G E y C D z H p F A a K M F2 F3 V R Z F7 S Y T Xc0 Xc1 Xc2 Xc3 Xc4 Xc5 Xc6 Xf0 Xf1 Xf2 Xf3 Xf4 Xf5 Xf6 Xlt;rw [HS.out];exact ⟨_, rfl, B, zBD h, zAT.own_mono (zCT J) (zAL (Nat.le_refl _) (show w2.heap.size ≤ w3.drew.heap.size from GA)), L.drew⟩
          ·have qA := hA;unfold zDw at qA;simp only [Bool.and_eq_true, decide_eq_true_eq] at qA;obtain ⟨rfl, rfl, rfl⟩ := qA;have HS : Hid (zAU k (ws, (o, s, true, kd, f, 0, mk, d)) (r, f, tq, 10, (k : Int), dt, gg) = ((ws, zCD (o, s, true, kd, f, 0, mk, d)), [], 1)) := by
            have e1 : zBd (ws, (o, s, true, kd, f, 0, mk, d)) (r, f, tq, 10, (k : Int), dt, gg) = none := by
             unfold zBd;rw [if_neg (show ¬ (0 : Int) < zBL 10 from by decide), if_neg (show ¬ (10 : Int) = 3 from by decide), if_neg (show ¬ ((10 : Int) = 8 ∨ (10 : Int) = 9) from by decide), if_pos (show (10 : Int) = 10 from rfl)];rw [hA];rfl
            unfold Hid zAU;rw [e1];show ((zBm k (ws, (o, s, true, kd, f, 0, mk, d)) (r, f, tq, 10, (k : Int), dt, gg)).1, (zBm k (ws, (o, s, true, kd, f, 0, mk, d)) (r, f, tq, 10, (k : Int), dt, gg)).2, (1 : Int)) = _
            unfold zBm;rw [if_neg (show ¬ (0 : Int) < zBL 10 from by decide), if_neg (show ¬ (10 : Int) = 3 from by decide), if_neg (show ¬ ((10 : Int) = 8 ∨ (10 : Int) = 9) from by decide)]
           obtain ⟨wa, wc, da, dc, ⟨N, O⟩, m, ⟨i, b, G, E, y, C, D, z⟩, ⟨H, -⟩, ⟨p, F⟩, A, a, Y, T⟩ := zAr h;have K := a (k * 8);have M := a (k * 8 + 1);have F2 := a (k * 8 + 2);have F3 := a (k * 8 + 3);have V := a (k * 8 + 4);have R := a (k * 8 + 5);have Z := a (k * 8 + 6);have F7 := a (k * 8 + 7);have S := A k;simp only at m i b G E y C D z H p F
           obtain ⟨Xc0, Xc1, Xc2, Xc3, Xc4, Xc5, Xc6⟩ := zAe X;obtain ⟨Xf0, Xf1, Xf2, Xf3, Xf4, Xf5, Xf6⟩ := zAo X;have Xlt := (ltH X);go_upto_region 33 with fail
           go_region
           go_upto_region 34 with fail
           clear N O m i b G E y C D z H p F A a K M F2 F3 V R Z F7 S Y T Xc0 Xc1 Xc2 Xc3 Xc4 Xc5 Xc6 Xf0 Xf1 Xf2 Xf3 Xf4 Xf5 Xf6 Xlt;replace h := zBD h;replace L := L.drew;replace X := zAV X;replace J := zCT J;have zA : w3.heap.size ≤ w3.drew.heap.size := Nat.le_refl _;generalize w3.drew = w4 at zA h L X J ⊢;obtain ⟨wa, wc, da, dc, ⟨N, O⟩, m, ⟨i, b, G, E, y, C, D, z⟩, ⟨H, -⟩, ⟨p, F⟩, A, a, Y, T⟩ := zAr h;have K := a (k * 8);have M := a (k * 8 + 1);have F2 := a (k * 8 + 2);have F3 := a (k * 8 + 3);have V := a (k * 8 + 4);have R := a (k * 8 + 5);have Z := a (k * 8 + 6);have F7 := a (k * 8 + 7);have S := A k;simp only at m i b G E y C D z H p F
           obtain ⟨Xc0, Xc1, Xc2, Xc3, Xc4, Xc5, Xc6⟩ := zAe X;obtain ⟨Xf0, Xf1, Xf2, Xf3, Xf4, Xf5, Xf6⟩ := zAo X;have Xlt := (ltH X);go_region
           go_upto_region 35 with fail
           clear N O m i b G E y C D z H p F A a K M F2 F3 V R Z F7 S Y T Xc0 Xc1 Xc2 Xc3 Xc4 Xc5 Xc6 Xf0 Xf1 Xf2 Xf3 Xf4 Xf5 Xf6 Xlt;have mB := zBa h;replace X : ((((((((w4.setCell ⟨bb, k * 8, none⟩ (nI o)).setCell ⟨bb, k * 8 + 1, none⟩ (nI s)).setCell ⟨bb, k * 8 + 2, none⟩ (.bool false)).setCell ⟨bb, k * 8 + 3, none⟩ (nI 0)).setCell ⟨bb, k * 8 + 4, none⟩ (nI 0)).setCell ⟨bb, k * 8 + 5, none⟩ (nI 0)).setCell ⟨bb, k * 8 + 6, none⟩ (nI 0)).setCell ⟨bb, k * 8 + 7, none⟩ (sL none 0 0)).heap[w.heap.size]? = _ := zH8 X (by omega);replace J : _ := zJG (w := w4) (bb := bb) (v0 := nI o) (v1 := nI s) (v2 := .bool false) (v3 := nI 0) (v4 := nI 0) (v5 := nI 0) (v6 := nI 0) (v7 := sL none 0 0) (n0 := k * 8) (n1 := k * 8 + 1) (n2 := k * 8 + 2) (n3 := k * 8 + 3) (n4 := k * 8 + 4) (n5 := k * 8 + 5) (n6 := k * 8 + 6) (n7 := k * 8 + 7) J (fun q => by have := q.1; omega);replace L : Below t w ((((((((w4.setCell ⟨bb, k * 8, none⟩ (nI o)).setCell ⟨bb, k * 8 + 1, none⟩ (nI s)).setCell ⟨bb, k * 8 + 2, none⟩ (.bool false)).setCell ⟨bb, k * 8 + 3, none⟩ (nI 0)).setCell ⟨bb, k * 8 + 4, none⟩ (nI 0)).setCell ⟨bb, k * 8 + 5, none⟩ (nI 0)).setCell ⟨bb, k * 8 + 6, none⟩ (nI 0)).setCell ⟨bb, k * 8 + 7, none⟩ (sL none 0 0)) := zFr L mB.1;replace h := zIW h;simp only at h
           have lB : w4.heap.size ≤ ((((((((w4.setCell ⟨bb, k * 8, none⟩ (nI o)).setCell ⟨bb, k * 8 + 1, none⟩ (nI s)).setCell ⟨bb, k * 8 + 2, none⟩ (.bool false)).setCell ⟨bb, k * 8 + 3, none⟩ (nI 0)).setCell ⟨bb, k * 8 + 4, none⟩ (nI 0)).setCell ⟨bb, k * 8 + 5, none⟩ (nI 0)).setCell ⟨bb, k * 8 + 6, none⟩ (nI 0)).setCell ⟨bb, k * 8 + 7, none⟩ (sL none 0 0)).heap.size := by simp
           clear mB;generalize ((((((((w4.setCell ⟨bb, k * 8, none⟩ (nI o)).setCell ⟨bb, k * 8 + 1, none⟩ (nI s)).setCell ⟨bb, k * 8 + 2, none⟩ (.bool false)).setCell ⟨bb, k * 8 + 3, none⟩ (nI 0)).setCell ⟨bb, k * 8 + 4, none⟩ (nI 0)).setCell ⟨bb, k * 8 + 5, none⟩ (nI 0)).setCell ⟨bb, k * 8 + 6, none⟩ (nI 0)).setCell ⟨bb, k * 8 + 7, none⟩ (sL none 0 0)) = w5 at lB h L X J ⊢;replace h := zBD h;replace L := L.drew;replace X := zAV X;replace J := zCT J;have kB : w5.heap.size ≤ w5.drew.heap.size := Nat.le_refl _;generalize w5.drew = w6 at kB h L X J ⊢;obtain ⟨wa, wc, da, dc, ⟨N, O⟩, m, ⟨i, b, G, E, y, C, D, z⟩, ⟨H, -⟩, ⟨p, F⟩, A, a, Y, T⟩ := zAr h;have K := a (k * 8);have M := a (k * 8 + 1);have F2 := a (k * 8 + 2);have F3 := a (k * 8 + 3);have V := a (k * 8 + 4);have R := a (k * 8 + 5);have Z := a (k * 8 + 6);have F7 := a (k * 8 + 7);have S := A k;simp only at m i b G E y C D z H p F
           obtain ⟨Xc0, Xc1, Xc2, Xc3, Xc4, Xc5, Xc6⟩ := zAe X;obtain ⟨Xf0, Xf1, Xf2, Xf3, Xf4, Xf5, Xf6⟩ := zAo X;have Xlt := (ltH X);go_wp2;go_ret2
           clear N O m i b G E y C D z H p F A a K M F2 F3 V R Z F7 S Y T Xc0 Xc1 Xc2 Xc3 Xc4 Xc5 Xc6 Xf0 Xf1 Xf2 Xf3 Xf4 Xf5 Xf6 Xlt;rw [HS.out];exact ⟨_, rfl, B, h, zAT.own_mono J (zAL (Nat.le_refl _) (by omega)), L⟩
         ·have TB : (n == 10) = false := beq_false_of_ne YA;have HS : Hid (zAU k (ws, (o, s, bz, kd, f, l, mk, d)) (r, c, tq, n, (k : Int), dt, gg) = ((ws, (o, s, bz, kd, f, l, mk, d)), [], 0)) := by
           have e1 : zBd (ws, (o, s, bz, kd, f, l, mk, d)) (r, c, tq, n, (k : Int), dt, gg) = some 0 := by
            unfold zBd;rw [if_neg (show ¬ (0 : Int) < zBL n from by unfold zBL; simp [n1, n2, n4, n5]), if_neg (show ¬ n = 3 from n3), if_neg (show ¬ (n = 8 ∨ n = 9) from fun q => q.elim n8 n9), if_neg (show ¬ n = 10 from YA)]
           unfold Hid zAU;rw [e1]
          obtain ⟨wa, wc, da, dc, ⟨N, O⟩, m, ⟨i, b, G, E, y, C, D, z⟩, ⟨H, -⟩, ⟨p, F⟩, A, a, Y, T⟩ := zAr h;have K := a (k * 8);have M := a (k * 8 + 1);have F2 := a (k * 8 + 2);have F3 := a (k * 8 + 3);have V := a (k * 8 + 4);have R := a (k * 8 + 5);have Z := a (k * 8 + 6);have F7 := a (k * 8 + 7);have S := A k;simp only at m i b G E y C D z H p F
          obtain ⟨Xc0, Xc1, Xc2, Xc3, Xc4, Xc5, Xc6⟩ := zAe X;obtain ⟨Xf0, Xf1, Xf2, Xf3, Xf4, Xf5, Xf6⟩ := zAo X;have Xlt := (ltH X);go_wp2;go_ret2
          clear N O m i b G E y C D z H p F A a K M F2 F3 V R Z F7 S Y T Xc0 Xc1 Xc2 Xc3 Xc4 Xc5 Xc6 Xf0 Xf1 Xf2 Xf3 Xf4 Xf5 Xf6 Xlt;rw [HS.out];exact ⟨_, rfl, B, h, zAT.own_mono J (zAL (Nat.le_refl _) (by omega)), L⟩
end Go.Proofs.YtmaopldahnejdaaGreatDoor
