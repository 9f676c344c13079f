import Derived.Test.YtmaopldahnejdaaGreatDoorG00Box
import Derived.Test.YtmaopldahnejdaaGreatDoorG10
namespace Go.Proofs.YtmaopldahnejdaaGreatDoor
set_option maxHeartbeats 4000000
set_option maxRecDepth 8000
open Go.ChangeShapes Go.WideShapes Go.ChangeAt Go.RowKit
set_option linter.unusedVariables false
theorem zLi {o s : Int} {b : Bool} {k f l m : Int} {d : List Int} (h : zBR (o, s, b, k, f, l, m, d) = true) : zAI o s = true := by rw [eb] at h; exact (Bool.and_eq_true _ _ ▸ h).1
theorem cs_1 {w : World} {g b k j : Nat} {u x : Value} (hne : ¬ (b = g)) (h : w.cell? ⟨b, k, none⟩ = some u) : (w.setCell ⟨g, j, none⟩ x).cell? ⟨b, k, none⟩ = some u :=
 (World.cell?_of_block (w := w) (a := ⟨b, k, none⟩) (heap_setCell_other w ⟨g, j, none⟩ b x hne)).trans h
theorem cs8 {w : World} {g b k : Nat} {u x0 x1 x2 x3 x4 x5 x6 x7 : Value} (hne : ¬ (b = g)) (h : w.cell? ⟨b, k, none⟩ = some u) : ((((((((w.setCell ⟨g, 0, none⟩ x0).setCell ⟨g, 1, none⟩ x1).setCell ⟨g, 2, none⟩ x2).setCell ⟨g, 3, none⟩ x3).setCell ⟨g, 4, none⟩ x4).setCell ⟨g, 5, none⟩ x5).setCell ⟨g, 6, none⟩ x6).setCell ⟨g, 7, none⟩ x7).cell? ⟨b, k, none⟩ = some u :=
 cs_1 hne (cs_1 hne (cs_1 hne (cs_1 hne (cs_1 hne (cs_1 hne (cs_1 hne (cs_1 hne h)))))))
theorem zEi (o s k f l m : Int) (b : Bool) (d : List Int) (a : Option Addr) (cap : Nat) (w : World) (h : zBv zBf w a d) :
    Calls Tryz.prog 57 #[.agg #[.int .i64 o, .int .i64 s, .bool b, .int .i64 k, .int .i64 f, .int .i64 l, .int .i64 m, .slice a d.length cap]] w fun e w' => ∃ v, e = .returned v ∧ zCH w w' v (if zBR (o, s, b, k, f, l, m, d) then hoI o s else []) := by
 have X := zAw w (.cells #[.int .i64 o, .int .i64 s, .bool b, .int .i64 k, .int .i64 f, .int .i64 l, .int .i64 m, .slice a d.length cap] 48);have B := zAg w (.cells #[.int .i64 o, .int .i64 s, .bool b, .int .i64 k, .int .i64 f, .int .i64 l, .int .i64 m, .slice a d.length cap] 48);have HK : Hid (∀ W, Below w.heap.size w W → Calls Tryz.prog 102 #[.agg #[.int .i64 o, .int .i64 s, .bool b, .int .i64 k, .int .i64 f, .int .i64 l, .int .i64 m, .slice a d.length cap]] W fun e w' => e = .returned (.bool (zBR (o, s, b, k, f, l, m, d))) ∧ Below W.heap.size W w') := fun W hb => zCv o s k f l m b d a cap W (zAt h hb);clear h;cases hv : zBR (o, s, b, k, f, l, m, d)
 ·rw [hv] at HK;go_enter Tryz.func57, Tryz.ntmps57;go_wp2_with fail
  generalize w.alloc (.cells #[.int .i64 o, .int .i64 s, .bool b, .int .i64 k, .int .i64 f, .int .i64 l, .int .i64 m, .slice a d.length cap] 48) = W0 at X B ⊢;refine (HK.out _ B).mono ?_;rintro e w1 ⟨rfl, b1⟩;have M : Hid (zCH w (w1.alloc (.cells #[] 2)) (.slice (some ⟨w1.heap.size, 0, none⟩) 0 0) []) := zBn (zAa B b1) (zFF w1 #[] [] rfl (by unfold maxLen; simp));clear b1 HK X B;go_wp2;go_ret
  exact ⟨_, rfl, M.out⟩
 ·rw [hv] at HK;have HE : Hid (zEA o s 8 = hoI o s) := zLf (zLi hv);go_enter Tryz.func57, Tryz.ntmps57;go_wp2_with fail
  generalize w.alloc (.cells #[.int .i64 o, .int .i64 s, .bool b, .int .i64 k, .int .i64 f, .int .i64 l, .int .i64 m, .slice a d.length cap] 48) = W0 at X B ⊢;refine (HK.out _ B).mono ?_;rintro e w1 ⟨rfl, b1⟩;replace X := zAb b1 X;replace B := zAa B b1;obtain ⟨x0, x1, x2, x3, x4, x5, x6, x7⟩ := zAk X;clear b1 HK X;go_wp2_with fail
  refine (zCx o s k f l m b _ _).mono ?_;rintro e w2 ⟨rfl, b2⟩;replace B := zAa B b2;clear b2 x0 x1 x2 x3 x4 x5 x6 x7;go_wp2_with (go_at_call 104; refine (zGc o s _).mono ?_; rintro e w3 ⟨v, rfl, mm⟩; rw [HE.out] at mm; have HM : Hid (zCH w w3 v (hoI o s)) := zBn B mm; clear mm)
  go_ret
  exact ⟨_, rfl, HM.out⟩
theorem zE2 (o s k f l m : Int) (b : Bool) (d : List Int) (a : Option Addr) (cap : Nat) (c : Int) (w : World) (i0 : zA4 o) (i1 : zA4 s) (i3 : zA4 k) (i4 : zA4 f) (i5 : zA4 l) (i6 : zA4 m) (h : zBv zBf w a d) (hm : d.length ≤ 1048576) :
    Calls Tryz.prog 147 #[.agg #[.int .i64 o, .int .i64 s, .bool b, .int .i64 k, .int .i64 f, .int .i64 l, .int .i64 m, .slice a d.length cap], .int .i64 c] w fun e w' => ∃ av cv, e = .returned (.agg #[.int .i64 (zER (o, s, b, k, f, l, m, d) c).1, .int .i64 (zER (o, s, b, k, f, l, m, d) c).2.1, .bool (zER (o, s, b, k, f, l, m, d) c).2.2.1, .int .i64 (zER (o, s, b, k, f, l, m, d) c).2.2.2.1, .int .i64 (zER (o, s, b, k, f, l, m, d) c).2.2.2.2.1, .int .i64 (zER (o, s, b, k, f, l, m, d) c).2.2.2.2.2.1, .int .i64 (zER (o, s, b, k, f, l, m, d) c).2.2.2.2.2.2.1, .slice av (zER (o, s, b, k, f, l, m, d) c).2.2.2.2.2.2.2.length cv]) ∧ zAD zB6 w w' [.int .i64 (zER (o, s, b, k, f, l, m, d) c).1, .int .i64 (zER (o, s, b, k, f, l, m, d) c).2.1, .bool (zER (o, s, b, k, f, l, m, d) c).2.2.1, .int .i64 (zER (o, s, b, k, f, l, m, d) c).2.2.2.1, .int .i64 (zER (o, s, b, k, f, l, m, d) c).2.2.2.2.1, .int .i64 (zER (o, s, b, k, f, l, m, d) c).2.2.2.2.2.1, .int .i64 (zER (o, s, b, k, f, l, m, d) c).2.2.2.2.2.2.1, .slice av (zER (o, s, b, k, f, l, m, d) c).2.2.2.2.2.2.2.length cv] (zER (o, s, b, k, f, l, m, d) c) := by
 have X := zAW (.cells #[.int .i64 0, .int .i64 0, .bool false, .int .i64 0, .int .i64 0, .int .i64 0, .int .i64 0, .slice none 0 0] 48) (zAw w (.cells #[.int .i64 o, .int .i64 s, .bool b, .int .i64 k, .int .i64 f, .int .i64 l, .int .i64 m, .slice a d.length cap] 48));have Y := zAw (w.alloc (.cells #[.int .i64 o, .int .i64 s, .bool b, .int .i64 k, .int .i64 f, .int .i64 l, .int .i64 m, .slice a d.length cap] 48)) (.cells #[.int .i64 0, .int .i64 0, .bool false, .int .i64 0, .int .i64 0, .int .i64 0, .int .i64 0, .slice none 0 0] 48);have B := zAa (zAg w (.cells #[.int .i64 o, .int .i64 s, .bool b, .int .i64 k, .int .i64 f, .int .i64 l, .int .i64 m, .slice a d.length cap] 48)) (zAg _ (.cells #[.int .i64 0, .int .i64 0, .bool false, .int .i64 0, .int .i64 0, .int .i64 0, .int .i64 0, .slice none 0 0] 48));rw [zAu] at Y;have HK : Hid (∀ W, Below w.heap.size w W → Calls Tryz.prog 102 #[.agg #[.int .i64 o, .int .i64 s, .bool b, .int .i64 k, .int .i64 f, .int .i64 l, .int .i64 m, .slice a d.length cap]] W fun e w' => e = .returned (.bool (zBR (o, s, b, k, f, l, m, d))) ∧ Below W.heap.size W w') := fun W hb => zCv o s k f l m b d a cap W (zAt h hb);have HD : Hid (∀ W, Below w.heap.size w W → zBv zBf W a d) := fun W hb => zAt h hb;have HM : Hid (d.length ≤ 1048576) := hm;clear h hm;have SZ : ((w.alloc (.cells #[.int .i64 o, .int .i64 s, .bool b, .int .i64 k, .int .i64 f, .int .i64 l, .int .i64 m, .slice a d.length cap] 48)).alloc (.cells #[.int .i64 0, .int .i64 0, .bool false, .int .i64 0, .int .i64 0, .int .i64 0, .int .i64 0, .slice none 0 0] 48)).heap.size ≥ w.heap.size + 2 := by simp
 cases hv : zBR (o, s, b, k, f, l, m, d)
 ·rw [hv] at HK;have HF : Hid ((zER (o, s, b, k, f, l, m, d) c) = zIh) := by unfold Hid zER; rw [hv]; rfl
  rw [HF.out];show Calls Tryz.prog 147 _ w fun e w' => ∃ av cv, e = .returned (.agg #[.int .i64 0, .int .i64 0, .bool false, .int .i64 0, .int .i64 0, .int .i64 0, .int .i64 0, .slice av 0 cv]) ∧ zAD zB6 w w' [.int .i64 0, .int .i64 0, .bool false, .int .i64 0, .int .i64 0, .int .i64 0, .int .i64 0, .slice av 0 cv] zIh
  clear i0 i1 i3 i4 i5 i6 HD HM SZ;go_enter Tryz.func147, Tryz.ntmps147;go_wp2_with fail
  generalize (w.alloc (.cells #[.int .i64 o, .int .i64 s, .bool b, .int .i64 k, .int .i64 f, .int .i64 l, .int .i64 m, .slice a d.length cap] 48)).alloc (.cells #[.int .i64 0, .int .i64 0, .bool false, .int .i64 0, .int .i64 0, .int .i64 0, .int .i64 0, .slice none 0 0] 48) = W0 at X Y B ⊢;refine (HK.out _ B).mono ?_;rintro e w1 ⟨rfl, b1⟩;replace Y := zAb b1 Y;replace B := zAa B b1;obtain ⟨y0, y1, y2, y3, y4, y5, y6, y7⟩ := zAk Y;obtain ⟨g0, g1, g2, g3, g4, g5, g6, g7⟩ := zA3 Y;have HY : Hid _ := Y;clear b1 HK X Y;go_wp2;obtain ⟨r0, r1, r2, r3, r4, r5, r6, r7⟩ := zAk (zKN (y0 := .int .i64 0) (y1 := .int .i64 0) (y2 := .bool false) (y3 := .int .i64 0) (y4 := .int .i64 0) (y5 := .int .i64 0) (y6 := .int .i64 0) (y7 := .slice none 0 0) HY.out);refine bodyPost_ret (v := .agg #[.int .i64 0, .int .i64 0, .bool false, .int .i64 0, .int .i64 0, .int .i64 0, .int .i64 0, .slice none 0 0]) (by simp [results, Tryz.results147, go_sem, r0, r1, r2, r3, r4, r5, r6, r7]) rfl ⟨none, 0, rfl, zLh (by omega) B⟩
 ·rw [hv] at HK;have hw := zLi hv;have HF : Hid ((zER (o, s, b, k, f, l, m, d) c) = (fgO o c, fgS s c, b, k, f, l, m, d)) := by unfold Hid zER; rw [hv]; rfl
  rw [HF.out];show Calls Tryz.prog 147 _ w fun e w' => ∃ av cv, e = .returned (.agg #[.int .i64 (fgO o c), .int .i64 (fgS s c), .bool b, .int .i64 k, .int .i64 f, .int .i64 l, .int .i64 m, .slice av d.length cv]) ∧ zAD zB6 w w' [.int .i64 (fgO o c), .int .i64 (fgS s c), .bool b, .int .i64 k, .int .i64 f, .int .i64 l, .int .i64 m, .slice av d.length cv] (fgO o c, fgS s c, b, k, f, l, m, d)
  have HG : Hid (zA4 (fgO o c) ∧ zA4 (fgS s c)) := zEv c hw;have HI : Hid (zA4 o ∧ zA4 s ∧ zA4 k ∧ zA4 f ∧ zA4 l ∧ zA4 m) := ⟨i0, i1, i3, i4, i5, i6⟩;clear i0 i1 i3 i4 i5 i6 HF hw;go_enter Tryz.func147, Tryz.ntmps147;go_wp2_with fail
  generalize (w.alloc (.cells #[.int .i64 o, .int .i64 s, .bool b, .int .i64 k, .int .i64 f, .int .i64 l, .int .i64 m, .slice a d.length cap] 48)).alloc (.cells #[.int .i64 0, .int .i64 0, .bool false, .int .i64 0, .int .i64 0, .int .i64 0, .int .i64 0, .slice none 0 0] 48) = W0 at X Y B SZ ⊢;refine (HK.out _ B).mono ?_;rintro e w1 ⟨rfl, b1⟩;replace X := zAb b1 X;replace Y := zAb b1 Y;replace B := zAa B b1;have SZ1 : w1.heap.size ≥ w.heap.size + 2 := Nat.le_trans SZ b1.size;clear SZ b1 HK;obtain ⟨x0, x1, x2, x3, x4, x5, x6, x7⟩ := zAk X;go_wp2_with fail
  have XD : w1.drew.heap[w.heap.size]? = _ := X;have YD : w1.drew.heap[w.heap.size + 1]? = _ := Y;have BD := B.drew;have SD : Hid (w1.drew.heap.size ≥ w.heap.size + 2) := SZ1;have ne0 : ¬ (w.heap.size = w.heap.size + 1) := by omega
  clear X Y B SZ1
  go_region_held3 (fun wx => wx.cell? ⟨w.heap.size, 0, none⟩ = some (.int .i64 o) ∧ wx.cell? ⟨w.heap.size, 1, none⟩ = some (.int .i64 s) ∧ wx.cell? ⟨w.heap.size, 2, none⟩ = some (.bool b) ∧ wx.cell? ⟨w.heap.size, 3, none⟩ = some (.int .i64 k) ∧ wx.cell? ⟨w.heap.size, 4, none⟩ = some (.int .i64 f) ∧ wx.cell? ⟨w.heap.size, 5, none⟩ = some (.int .i64 l) ∧ wx.cell? ⟨w.heap.size, 6, none⟩ = some (.int .i64 m) ∧ wx.cell? ⟨w.heap.size, 7, none⟩ = some (.slice a d.length cap)) (first | (go_keep; done) | (exact ⟨x0, x1, x2, x3, x4, x5, x6, x7⟩) | (exact ⟨cs8 ne0 x0, cs8 ne0 x1, cs8 ne0 x2, cs8 ne0 x3, cs8 ne0 x4, cs8 ne0 x5, cs8 ne0 x6, cs8 ne0 x7⟩)) (first
   | (go_at_call 112; refine (zDR o s k f l m b d a cap _ HI.out.1 HI.out.2.1 HI.out.2.2.1 HI.out.2.2.2.1 HI.out.2.2.2.2.1 HI.out.2.2.2.2.2 (HD.out _ BD) HM.out).mono ?_; rintro e w2 ⟨av, cv, rfl, mm⟩; have HO : Hid _ := And.intro (zC8 mm.1) SD.out; have HS2 : Hid (w1.drew.heap.size ≤ w2.heap.size) := mm.2.size; replace BD := zAa BD mm.2; replace XD := zAb mm.2 XD; replace YD := zAb mm.2 YD; clear mm SD x0 x1 x2 x3 x4 x5 x6 x7; obtain ⟨x0, x1, x2, x3, x4, x5, x6, x7⟩ := zAk XD)
   | (go_at_call 105; refine (zCx o s k f l m b _ _).mono ?_; rintro e w3 ⟨rfl, b3⟩; replace BD := zAa BD b3; replace XD := zAb b3 XD; replace YD := zAb b3 YD; clear x0 x1 x2 x3 x4 x5 x6 x7; obtain ⟨x0, x1, x2, x3, x4, x5, x6, x7⟩ := zAk XD)
   | (go_at_call 160; refine (zEu o s c _).mono ?_; rintro e w4 ⟨rfl, b4⟩; replace BD := zAa BD b4; replace XD := zAb b4 XD; replace YD := zAb b4 YD; clear x0 x1 x2 x3 x4 x5 x6 x7; obtain ⟨x0, x1, x2, x3, x4, x5, x6, x7⟩ := zAk XD)
   | (go_at_call 168; refine (zEw o s k f l m (fgO o c) (fgS s c) b _ _ _ _).mono ?_; rintro e w5 ⟨rfl, b5⟩; replace BD := zAa BD b5; replace XD := zAb b5 XD; replace YD := zAb b5 YD; clear x0 x1 x2 x3 x4 x5 x6 x7; obtain ⟨x0, x1, x2, x3, x4, x5, x6, x7⟩ := zAk XD; obtain ⟨y0, y1, y2, y3, y4, y5, y6, y7⟩ := zAk YD; obtain ⟨g0, g1, g2, g3, g4, g5, g6, g7⟩ := zA3 YD))
  all_goals
   go_wp2;obtain ⟨⟨v0, ev, -, -, -, -, -, -, N⟩, hsz⟩ := HO.out;simp only [List.cons.injEq, and_true, true_and] at ev;subst ev;have N5 : zAm.own w5 (rng w1.drew.heap.size w2.heap.size) [.slice av d.length cv] d := zAm.own_keep N (zD6 (D := w2.heap.size) ((b3.trans (b4.mono b3.size)).trans (b5.mono (Nat.le_trans b3.size b4.size))) (fun k hk => hk.2));have S5 : w2.heap.size ≤ w5.heap.size := Nat.le_trans b3.size (Nat.le_trans b4.size b5.size);obtain ⟨r0, r1, r2, r3, r4, r5, r6, r7⟩ := zAk (zKN (y0 := .int .i64 (fgO o c)) (y1 := .int .i64 (fgS s c)) (y2 := .bool b) (y3 := .int .i64 k) (y4 := .int .i64 f) (y5 := .int .i64 l) (y6 := .int .i64 m) (y7 := .slice av d.length cv) YD);refine bodyPost_ret (v := .agg #[.int .i64 (fgO o c), .int .i64 (fgS s c), .bool b, .int .i64 k, .int .i64 f, .int .i64 l, .int .i64 m, .slice av d.length cv]) (by simp [results, Tryz.results147, go_sem, r0, r1, r2, r3, r4, r5, r6, r7]) rfl ⟨av, cv, rfl, zLg HG.out.1 HG.out.2 HI.out.2.2.1 HI.out.2.2.2.1 HI.out.2.2.2.2.1 HI.out.2.2.2.2.2 N5 (fun k hk => ⟨by have := hk.1; omega, by have := hk.2; omega, by have := hk.1; omega⟩) (by omega) BD⟩
def fgW (w : World) (g off : Nat) (o s c : Int) : World := (if o = c then w.setCell ⟨g, off, none⟩ (.int .i64 (-1)) else w).setCell ⟨g, off + 1, none⟩ (.int .i64 (zCj s c))
theorem zBO (g off : Nat) (o s c : Int) (w : World) (h0 : w.cell? ⟨g, off, none⟩ = some (.int .i64 o)) (h1 : w.cell? ⟨g, off + 1, none⟩ = some (.int .i64 s)) (f0 : w.frozen? ⟨g, off, none⟩ = false) (f1 : w.frozen? ⟨g, off + 1, none⟩ = false) :
    Calls Tryz.prog 97 #[.pointer (some ⟨g, off, none⟩), .int .i64 c] w fun e w' => e = .returned (.tuple #[]) ∧ w' = fgW w g off o s c := by
 have h1' : (w.setCell ⟨g, off, none⟩ (.int .i64 (-1))).cell? ⟨g, off + 1, none⟩ = some (.int .i64 s) := by
  rw [World.cell?_setCell_other _ _ _ _ (by intro h; simp only [Addr.mk.injEq] at h; omega)]; exact h1
 have f1' : (w.setCell ⟨g, off, none⟩ (.int .i64 (-1))).frozen? ⟨g, off + 1, none⟩ = false := by
  simpa using f1
 by_cases he : o = c
 ·have HE : Hid (fgW w g off o s c = (w.setCell ⟨g, off, none⟩ (.int .i64 (-1))).setCell ⟨g, off + 1, none⟩ (.int .i64 (zCj s c))) := by unfold Hid fgW; rw [if_pos he]
  subst he;go_enter Tryz.func97, Tryz.ntmps97;go_wp2_with (go_at_call 125; refine (zEg _ _ _).mono ?_; rintro e w' ⟨rfl, rfl⟩)
  refine bodyPost_end (v := .tuple #[]) (by simp [results, Tryz.results97, go_sem]) rfl ⟨rfl, ?_⟩;first | exact HE.out.symm | rfl
 ·have heb : (o == c) = false := beq_false_of_ne he;have HE : Hid (fgW w g off o s c = w.setCell ⟨g, off + 1, none⟩ (.int .i64 (zCj s c))) := by unfold Hid fgW; rw [if_neg he]
  go_enter Tryz.func97, Tryz.ntmps97;go_wp2_with (go_at_call 125; refine (zEg _ _ _).mono ?_; rintro e w' ⟨rfl, rfl⟩)
  refine bodyPost_end (v := .tuple #[]) (by simp [results, Tryz.results97, go_sem]) rfl ⟨rfl, ?_⟩;first | exact HE.out.symm | rfl
theorem zH0 {s : Int} : ∀ {k : Nat} {x : Int}, x ∈ zD9 s k → 0 ≤ x ∧ x < k
 | 0, x, h => by simp [zD9] at h
 | k + 1, x, h => by
  unfold zD9 at h;split at h
  ·rcases List.mem_append.1 h with h | h
   ·have := zH0 h; omega
   ·simp at h; omega
  ·have := zH0 h; omega
noncomputable def zCf (x : zA2) (k : Int) : List Int := if zAR x && zA6 k 0 ((x.2.length : Int) - 1) then hoI (x.2.getD k.toNat zIh).1 (x.2.getD k.toNat zIh).2.1 else []
theorem zLj {o s : Int} (h : zAI o s = true) : ∀ y ∈ hoI o s, zA4 y := by
 obtain ⟨h1, h2, h3, h4⟩ := zCy h;intro y a;unfold hoI at a;split at a
 ·simp only [List.mem_singleton] at a;subst a;constructor <;> omega
 ·have := zH0 a;constructor <;> omega
theorem zEB {u : zA7} (h : zBR u = true) : zAI u.1 u.2.1 = true := by
 unfold zBR at h;rw [Bool.and_eq_true] at h;exact h.1
theorem zDJ {x : zA2} (h : zAR x = true) {k : Nat} {u : zA7} (hu : x.2[k]? = some u) : zBR u = true := by
 unfold zAR at h;simp only [Bool.and_eq_true] at h;exact List.all_eq_true.1 h.2.2 u (List.mem_of_getElem? hu)
theorem zCk {x : zA2} (h : zAR x = true) : zCa x.1 = true ∧ x.2.length = x.1.length := by
 unfold zAR at h;simp only [Bool.and_eq_true, decide_eq_true_eq] at h;exact ⟨h.1, h.2.1⟩
theorem zJB {x : zA2} {k : Int} (h : zAR x = true) (hb : zA6 k 0 ((x.2.length : Int) - 1) = true) : ∃ (n : Nat) (u : zA7), k = n ∧ n < x.2.length ∧ x.2[n]? = some u ∧ zBR u = true ∧ zCf x k = hoI u.1 u.2.1 := by
 obtain ⟨n, rfl, a⟩ := zEN hb;refine ⟨n, x.2[n], rfl, a, List.getElem?_eq_getElem a, zDJ h (List.getElem?_eq_getElem a), ?_⟩;unfold zCf;rw [h, hb, Bool.true_and, if_pos rfl, List.getD_eq_getElem?_getD, show ((n : Int)).toNat = n by omega, List.getElem?_eq_getElem a];rfl
theorem zJC {x : zA2} {k : Int} (h : zAR x = true → zA6 k 0 ((x.2.length : Int) - 1) = false) : zCf x k = [] := by
 unfold zCf;cases a : zAR x
 ·rfl
 ·rw [h a]; rfl
theorem zDA (o s : Int) : (hoI o s).length ≤ 8 := by
 unfold hoI;split
 ·simp
 ·exact zHy s 8
theorem zIi (cs : List Value) (x : zA2) (k : Int) (w : World) (h : zAz.rd w cs x) :
    Calls Tryz.prog 56 #[zBw cs, nI k] w fun e w' => e = .returned (.bool (zA6 k 0 ((x.2.length : Int) - 1))) ∧ Bl w w' := by
 obtain ⟨v0, v1, rfl, ⟨g, a, f, l1, l2, l⟩, ⟨b, c, d, p, o, j⟩⟩ := zBW h;simp only [List.cons.injEq, and_true] at f d;obtain rfl := f;obtain rfl := d;have hl : x.2.length ≤ 9223372036854775807 := Nat.le_trans p o;clear h l j;change Calls Tryz.prog 56 #[.agg #[sL g x.1.length a, sL b x.2.length c], nI k] w _
 generalize x.1.length = n at *;generalize x.2.length = m at *;have B := zAg w (.cells #[sL g n a, sL b m c] 27);have i : Hid _ := B;clear B;go_enter Tryz.func56, Tryz.ntmps56;go_wp2_with (go_at_call 91; refine (zA8 k 0 ((m : Int) - 1) _).mono ?_; rintro e w1 ⟨rfl, rfl⟩)
 go_ret
 exact ⟨rfl, i.out⟩
theorem zGe (cs : List Value) (x : zA2) (k : Int) (w : World) (h : zAz.rd w cs x) :
    Calls Tryz.prog 18 #[zBw cs, nI k] w fun e w' => ∃ ds, e = .returned (zFl ds) ∧ zAD zAm w w' ds (zCf x k) := by
 obtain ⟨v0, v1, rfl, ⟨G, D, N, l1, l2, Z⟩, ⟨y, E, L, T, M, K⟩⟩ := zBW h;simp only [List.cons.injEq, and_true] at N L;obtain rfl := N;obtain rfl := L;have aA : x.2.length ≤ 9223372036854775807 := Nat.le_trans T M;have p : Hid (∀ W, Bl w W → Calls Tryz.prog 15 #[.agg #[sL G x.1.length D, sL y x.2.length E]] W fun e w' => e = .returned (.bool (zAR x)) ∧ Bl W w') := fun W hb => zEO _ x W (zBl h hb);have s : Hid (∀ W, Bl w W → Calls Tryz.prog 56 #[.agg #[sL G x.1.length D, sL y x.2.length E], nI k] W fun e w' => e = .returned (.bool (zA6 k 0 ((x.2.length : Int) - 1))) ∧ Bl W w') := fun W hb => zIi _ x k W (zBl h hb);have H : Hid (∀ W, Bl w W → zBv zB6 W y x.2) := fun W hb => zAt K hb;clear h Z K l1 l2 T M;change Calls Tryz.prog 18 #[.agg #[sL G x.1.length D, sL y x.2.length E], nI k] w _
 have A : Hid (∀ l, Bl w l → zCf x k = [] → ∃ ds, Ending.returned (sL (some ⟨l.heap.size, 0, none⟩) 0 0) = .returned (zFl ds) ∧ zAD zAm w (l.alloc (.cells #[] 2)) ds (zCf x k)) := fun l hb e => by
  rw [e];have r := zC4 hb (zHZ (e := 2) (R := zBf) l);exact ⟨_, rfl, r⟩
 have C : Hid (zAR x = true → zA6 k 0 ((x.2.length : Int) - 1) = true → _) := fun h1 h2 => zJB (x := x) (k := k) h1 h2;have q : Hid ((zAR x = true → zA6 k 0 ((x.2.length : Int) - 1) = false) → zCf x k = []) := zJC;generalize zAR x = hb at p C q;go_enter Tryz.func18, Tryz.ntmps18;go_wp2_with fail
 generalize g : w.alloc _ = W0;have X := boxH g;have B := boxB g;clear g;refine (p.out _ B).mono ?_;rintro e l ⟨rfl, f⟩;replace X := zAb f X;replace B := zAa B f;clear f;cases hb
 ·have j : Hid (zCf x k = []) := q.out (fun e => by cases e);obtain ⟨o, m⟩ := zAd X;have d := (ltH X);have a : Hid _ := B;clear X B;go_wp2;go_ret
  exact A.out _ a.out j.out
 ·cases c : zA6 k 0 ((x.2.length : Int) - 1)
  ·have j : Hid (zCf x k = []) := q.out (fun _ => c);rw [c] at s;obtain ⟨o, m⟩ := zAd X;have d := (ltH X);go_wp2_with fail
   refine (s.out _ B).mono ?_;rintro e w3 ⟨rfl, f⟩;replace B := zAa B f;clear f o m X d;have a : Hid _ := B;clear B;go_wp2;go_ret
   exact A.out _ a.out j.out
  ·obtain ⟨n, u, rfl, hn, J, i, I⟩ := C.out rfl c;have F : Hid (zCf x n = hoI u.1 u.2.1) := I;have bA : (n : Int) < (x.2.length : Int) := by omega
   rw [c] at s;obtain ⟨o, m⟩ := zAd X;have d := (ltH X);go_wp2_with fail
   clear o m d;refine (s.out _ B).mono ?_;rintro e w3 ⟨rfl, f⟩;replace X := zAb f X;replace B := zAa B f;clear f;obtain ⟨b, V, ad, Y, rfl, z0, z1, z2, z3, z4, z5, z6, z7, O⟩ := zJ9 (H.out _ B) J;have S := zEi u.1 u.2.1 u.2.2.2.1 u.2.2.2.2.1 u.2.2.2.2.2.1 u.2.2.2.2.2.2.1 u.2.2.1 u.2.2.2.2.2.2.2 ad Y _ O;rw [show zBR (u.1, u.2.1, u.2.2.1, u.2.2.2.1, u.2.2.2.2.1, u.2.2.2.2.2.1, u.2.2.2.2.2.2.1, u.2.2.2.2.2.2.2) = zBR u from rfl, i, if_pos rfl] at S;obtain ⟨o, m⟩ := zAd X;have d := (ltH X);have a : Hid _ := aI B i;clear X B c C q H A i J O I;go_wp2_with fail
   refine S.mono ?_;rintro e w4 ⟨v, rfl, r⟩;have z := zC4 a.out.1 (zB8 r (zLj (zEB a.out.2)));rw [← F.out] at z;obtain ⟨va, vc, rfl⟩ := zAB z.1;have U : Hid _ := z;clear z r a;go_wp2;go_ret
   exact ⟨_, rfl, U.out⟩
theorem zGf (cs : List Value) (x : zA2) (k : Int) (w : World) (h : zAz.rd w cs x) (hk : zC3.bk x ≤ 1048576) :
    Calls Tryz.prog 19 #[zBw cs, nI k] w fun e w' => ∃ ds, e = .returned (zFl ds) ∧ zAm.rd w' ds (zCf x k) ∧ Bl w w' := by
 obtain ⟨v0, v1, rfl, ⟨S, E, O, l1, l2, Z⟩, ⟨y, G, L, T, M, J⟩⟩ := zBW h;simp only [List.cons.injEq, and_true] at O L;obtain rfl := O;obtain rfl := L;have aA : x.2.length ≤ 9223372036854775807 := Nat.le_trans T M;have o : Hid (∀ W, Bl w W → Calls Tryz.prog 16 #[.agg #[sL S x.1.length E, sL y x.2.length G]] W fun e w' => e = .returned (.bool (zAR x)) ∧ Bl W w') := fun W hb => zEP _ x W (zBl h hb) hk;have D : Hid (∀ W, Bl w W → zBv zB6 W y x.2) := fun W hb => zAt J hb;clear h Z J l1 l2 T M;change Calls Tryz.prog 19 #[.agg #[sL S x.1.length E, sL y x.2.length G], nI k] w _
 have q : Hid (∀ f, Bl w f → zCf x k = [] → ∃ ds, Ending.returned (sL (some ⟨f.heap.size, 0, none⟩) 0 0) = .returned (zFl ds) ∧ zAm.rd (f.alloc (.cells #[] 2)) ds (zCf x k) ∧ Bl w (f.alloc (.cells #[] 2))) := fun f hb e => by
  rw [e];have j := zC4 hb (zHZ (e := 2) (R := zBf) f);exact ⟨_, rfl, zAm.own_rd (j).1, (j).2⟩
 have s : Hid (zAR x = true → zA6 k 0 ((x.2.length : Int) - 1) = true → _) := fun h1 h2 => zJB (x := x) (k := k) h1 h2;have p : Hid ((zAR x = true → zA6 k 0 ((x.2.length : Int) - 1) = false) → zCf x k = []) := zJC;generalize zAR x = hb at o s p;go_enter Tryz.func19, Tryz.ntmps19;go_wp2_with fail
 generalize g : w.alloc _ = W0;have X := boxH g;have B := boxB g;clear g;refine (o.out _ B).mono ?_;rintro e f ⟨rfl, A⟩;replace X := zAb A X;replace B := zAa B A;clear A;cases hb
 ·have d : Hid (zCf x k = []) := p.out (fun e => by cases e);obtain ⟨N, K⟩ := zAd X;have l := (ltH X);have a : Hid _ := B;clear X B;go_wp2;go_ret
  exact q.out _ a.out d.out
 ·cases c : zA6 k 0 ((x.2.length : Int) - 1)
  ·have d : Hid (zCf x k = []) := p.out (fun _ => c);have m : k < 0 ∨ (x.2.length : Int) ≤ k := by
    simp [zA6] at c
    omega
   obtain ⟨N, K⟩ := zAd X;have l := (ltH X);have a : Hid _ := B;clear X B c;by_cases F : k < 0
   ·go_wp2;go_ret
    exact q.out _ a.out d.out
   ·have eA : (x.2.length : Int) ≤ k := by omega
    clear m;go_wp2;go_ret
    exact q.out _ a.out d.out
  ·obtain ⟨n, u, rfl, hn, I, i, H⟩ := s.out rfl c;have z : Hid (zCf x n = hoI u.1 u.2.1) := H;have bA : (n : Int) < (x.2.length : Int) := by omega
   have cA : ¬ ((n : Int) < 0) := by omega
   have Y : ¬ ((x.2.length : Int) ≤ (n : Int)) := by omega
   obtain ⟨b, U, ad, V, rfl, z0, z1, z2, z3, z4, z5, z6, z7, hd⟩ := zJ9 (D.out _ B) I;have HC := zCh u.1 u.2.1 u.2.2.2.1 u.2.2.2.2.1 u.2.2.2.2.2.1 u.2.2.2.2.2.2.1 u.2.2.1 u.2.2.2.2.2.2.2 ad V f (zEB i);skip
   obtain ⟨N, K⟩ := zAd X;have l := (ltH X);have a : Hid _ := aI B i;clear X B c s p D q i I hd H;go_wp2_with fail
   refine HC.mono ?_;rintro e w4 ⟨v, rfl, j⟩;have r := zC4 a.out.1 (zB8 j (zLj (zEB a.out.2)));rw [← z.out] at r;obtain ⟨va, vc, rfl⟩ := zAB r.1;have C : Hid _ := r;clear r j a;go_wp2;go_ret
   exact ⟨_, rfl, zAm.own_rd (C.out).1, (C.out).2⟩
open Go.RowKit
theorem for_ok {u : zA7} (c : Int) (h : zBR u = true) : zBR (zER u c) = true := by
 have e : zER u c = (fgO u.1 c, fgS u.2.1 c, u.2.2.1, u.2.2.2.1, u.2.2.2.2.1, u.2.2.2.2.2.1, u.2.2.2.2.2.2.1, u.2.2.2.2.2.2.2) := by unfold zER; rw [h]; rfl
 have a : (zAI u.1 u.2.1 && (if u.2.2.1 then zAA u.2.2.2.1 u.2.2.2.2.1 u.2.2.2.2.2.1 u.2.2.2.2.2.2.1 u.2.2.2.2.2.2.2 else zAY u.2.2.2.1 u.2.2.2.2.1 u.2.2.2.2.2.1 u.2.2.2.2.2.2.1 u.2.2.2.2.2.2.2)) = true := h;rw [e, eb, Bool.and_eq_true];rw [Bool.and_eq_true] at a;exact ⟨zE1 c a.1, a.2⟩
abbrev zAS := Int × Int × Int × Int × Int × List Int × Int
abbrev zDk : Rep zAS := zCg zBf (zCg zBf (zCg zBf (zCg zBf (zCg zBf (zCg zAm zBf)))))
abbrev zK9 : Mk zAS := zEK zHV (zEK zHV (zEK zHV (zEK zHV (zEK zHV (zEK zDm zHV)))))
abbrev zAT : Rep (List zAS) := slR 30 zDk
abbrev zIj : Mk (List zAS) := slM zK9
theorem zGR {w : World} {cs : List Value} {u : zAS} (h : zDk.rd w cs u) :
    ∃ a b, cs = [nI u.1, nI u.2.1, nI u.2.2.1, nI u.2.2.2.1, nI u.2.2.2.2.1, sL a u.2.2.2.2.2.1.length b, nI u.2.2.2.2.2.2] ∧ zA4 u.1 ∧ zA4 u.2.1 ∧ zA4 u.2.2.1 ∧ zA4 u.2.2.2.1 ∧ zA4 u.2.2.2.2.1 ∧ zA4 u.2.2.2.2.2.2 ∧ u.2.2.2.2.2.1.length ≤ b ∧ b ≤ maxLen ∧ zBv zBf w a u.2.2.2.2.2.1 := by
 obtain ⟨c0, e0, rfl, ⟨rfl, d⟩, c1, e1, rfl, ⟨rfl, m⟩, c2, e2, rfl, ⟨rfl, j⟩, c3, e3, rfl, ⟨rfl, i⟩, c4, e4, rfl, ⟨rfl, c⟩, c5, e5, rfl, ⟨a, b, rfl, k, g, l⟩, ⟨rfl, f⟩⟩ := h;exact ⟨a, b, rfl, d, m, j, i, c, f, k, g, l⟩
theorem msg_own {w : World} {S : zAN} {cs : List Value} {u : zAS} (h : zDk.own w S cs u) :
    ∃ v, cs = [nI u.1, nI u.2.1, nI u.2.2.1, nI u.2.2.2.1, nI u.2.2.2.2.1, v, nI u.2.2.2.2.2.2] ∧ zA4 u.1 ∧ zA4 u.2.1 ∧ zA4 u.2.2.1 ∧ zA4 u.2.2.2.1 ∧ zA4 u.2.2.2.2.1 ∧ zA4 u.2.2.2.2.2.2 ∧ zAm.own w S [v] u.2.2.2.2.2.1 := by
 obtain ⟨c0, e0, S0, T0, rfl, ⟨rfl, g⟩, ⟨c1, e1, S1, T1, rfl, ⟨rfl, q⟩, ⟨c2, e2, S2, T2, rfl, ⟨rfl, p⟩, ⟨c3, e3, S3, T3, rfl, ⟨rfl, o⟩, ⟨c4, e4, S4, T4, rfl, ⟨rfl, d⟩, ⟨n, e5, S5, T5, rfl, a, ⟨rfl, j⟩, i, q5, d5⟩, p4, b, d4⟩, p3, k, d3⟩, p2, c, d2⟩, p1, l, d1⟩, p0, m, d0⟩ := h;have f := zAm.rd_len (zAm.own_rd a);obtain ⟨v, rfl⟩ : ∃ v, n = [v] := List.length_eq_one_iff.1 f;exact ⟨v, rfl, g, q, p, o, d, j, zAm.own_mono a ((((((i).trans b).trans k).trans c).trans l).trans m)⟩
theorem zBC {w : World} {S : zAN} {f0 f1 f2 f3 f4 f6 : Int} {d : List Int} {v : Value} (i0 : zA4 f0) (i1 : zA4 f1) (i2 : zA4 f2) (i3 : zA4 f3) (i4 : zA4 f4) (i6 : zA4 f6) (h : zAm.own w S [v] d) : zDk.own w S [nI f0, nI f1, nI f2, nI f3, nI f4, v, nI f6] (f0, f1, f2, f3, f4, d, f6) :=
 ⟨[_], [_, _, _, _, _, _], fun _ => False, S, rfl, ⟨rfl, i0⟩, ⟨[_], [_, _, _, _, _], fun _ => False, S, rfl, ⟨rfl, i1⟩, ⟨[_], [_, _, _, _], fun _ => False, S, rfl, ⟨rfl, i2⟩, ⟨[_], [_, _, _], fun _ => False, S, rfl, ⟨rfl, i3⟩, ⟨[_], [_, _], fun _ => False, S, rfl, ⟨rfl, i4⟩, ⟨[_], [_], S, fun _ => False, rfl, h, ⟨rfl, i6⟩, Sub.refl _, fun _ h => h.elim, fun _ _ h => h⟩, fun _ h => h.elim, Sub.refl _, fun _ h _ => h⟩, fun _ h => h.elim, Sub.refl _, fun _ h _ => h⟩, fun _ h => h.elim, Sub.refl _, fun _ h _ => h⟩, fun _ h => h.elim, Sub.refl _, fun _ h _ => h⟩, fun _ h => h.elim, Sub.refl _, fun _ h _ => h⟩
theorem zLk (u : zAS) : zK9.bk u = zDm.bk u.2.2.2.2.2.1 := by
 show 0 + (0 + (0 + (0 + (0 + (zDm.bk u.2.2.2.2.2.1 + 0))))) = _
 omega
theorem zAe {w : World} {g : Nat} {x0 x1 x2 x3 x4 x5 x6 : Value} {t : TypeId} (h : w.heap[g]? = some (.cells #[x0, x1, x2, x3, x4, x5, x6] t (0, 0))) :
    w.cell? ⟨g, 0, none⟩ = some x0 ∧ w.cell? ⟨g, 1, none⟩ = some x1 ∧ w.cell? ⟨g, 2, none⟩ = some x2 ∧ w.cell? ⟨g, 3, none⟩ = some x3 ∧ w.cell? ⟨g, 4, none⟩ = some x4 ∧ w.cell? ⟨g, 5, none⟩ = some x5 ∧ w.cell? ⟨g, 6, none⟩ = some x6 :=
 ⟨by rw [cell_of_row w g 0 _ t (0, 0) h]; rfl, by rw [cell_of_row w g 1 _ t (0, 0) h]; rfl, by rw [cell_of_row w g 2 _ t (0, 0) h]; rfl, by rw [cell_of_row w g 3 _ t (0, 0) h]; rfl, by rw [cell_of_row w g 4 _ t (0, 0) h]; rfl, by rw [cell_of_row w g 5 _ t (0, 0) h]; rfl, by rw [cell_of_row w g 6 _ t (0, 0) h]; rfl⟩
theorem zAo {w : World} {g : Nat} {cs : Array Value} {t : TypeId} (h : w.heap[g]? = some (.cells cs t (0, 0))) : w.frozen? ⟨g, 0, none⟩ = false ∧ w.frozen? ⟨g, 1, none⟩ = false ∧ w.frozen? ⟨g, 2, none⟩ = false ∧ w.frozen? ⟨g, 3, none⟩ = false ∧ w.frozen? ⟨g, 4, none⟩ = false ∧ w.frozen? ⟨g, 5, none⟩ = false ∧ w.frozen? ⟨g, 6, none⟩ = false :=
 ⟨frozen_of_row w g 0 _ t h, frozen_of_row w g 1 _ t h, frozen_of_row w g 2 _ t h, frozen_of_row w g 3 _ t h, frozen_of_row w g 4 _ t h, frozen_of_row w g 5 _ t h, frozen_of_row w g 6 _ t h⟩
theorem put_7 {w : World} {g : Nat} {x0 y0 x1 y1 x2 y2 x3 y3 x4 y4 x5 y5 x6 y6 : Value} {t : TypeId} (h : w.heap[g]? = some (.cells #[x0, x1, x2, x3, x4, x5, x6] t (0, 0))) :
    (((((((w.setCell ⟨g, 0, none⟩ y0).setCell ⟨g, 1, none⟩ y1).setCell ⟨g, 2, none⟩ y2).setCell ⟨g, 3, none⟩ y3).setCell ⟨g, 4, none⟩ y4).setCell ⟨g, 5, none⟩ y5).setCell ⟨g, 6, none⟩ y6).heap[g]? = some (.cells #[y0, y1, y2, y3, y4, y5, y6] t (0, 0)) := by
 have b : (w.setCell ⟨g, 0, none⟩ y0).heap[g]? = some (.cells #[y0, x1, x2, x3, x4, x5, x6] t (0, 0)) := heap_setCell_same _ g 0 _ t y0 h;have a : ((w.setCell ⟨g, 0, none⟩ y0).setCell ⟨g, 1, none⟩ y1).heap[g]? = some (.cells #[y0, y1, x2, x3, x4, x5, x6] t (0, 0)) := heap_setCell_same _ g 1 _ t y1 b;have j : (((w.setCell ⟨g, 0, none⟩ y0).setCell ⟨g, 1, none⟩ y1).setCell ⟨g, 2, none⟩ y2).heap[g]? = some (.cells #[y0, y1, y2, x3, x4, x5, x6] t (0, 0)) := heap_setCell_same _ g 2 _ t y2 a;have d : ((((w.setCell ⟨g, 0, none⟩ y0).setCell ⟨g, 1, none⟩ y1).setCell ⟨g, 2, none⟩ y2).setCell ⟨g, 3, none⟩ y3).heap[g]? = some (.cells #[y0, y1, y2, y3, x4, x5, x6] t (0, 0)) := heap_setCell_same _ g 3 _ t y3 j;have c : (((((w.setCell ⟨g, 0, none⟩ y0).setCell ⟨g, 1, none⟩ y1).setCell ⟨g, 2, none⟩ y2).setCell ⟨g, 3, none⟩ y3).setCell ⟨g, 4, none⟩ y4).heap[g]? = some (.cells #[y0, y1, y2, y3, y4, x5, x6] t (0, 0)) := heap_setCell_same _ g 4 _ t y4 d;have f : ((((((w.setCell ⟨g, 0, none⟩ y0).setCell ⟨g, 1, none⟩ y1).setCell ⟨g, 2, none⟩ y2).setCell ⟨g, 3, none⟩ y3).setCell ⟨g, 4, none⟩ y4).setCell ⟨g, 5, none⟩ y5).heap[g]? = some (.cells #[y0, y1, y2, y3, y4, y5, x6] t (0, 0)) := heap_setCell_same _ g 5 _ t y5 c;have i : (((((((w.setCell ⟨g, 0, none⟩ y0).setCell ⟨g, 1, none⟩ y1).setCell ⟨g, 2, none⟩ y2).setCell ⟨g, 3, none⟩ y3).setCell ⟨g, 4, none⟩ y4).setCell ⟨g, 5, none⟩ y5).setCell ⟨g, 6, none⟩ y6).heap[g]? = some (.cells #[y0, y1, y2, y3, y4, y5, y6] t (0, 0)) := heap_setCell_same _ g 6 _ t y6 f;exact i
end Go.Proofs.YtmaopldahnejdaaGreatDoor
