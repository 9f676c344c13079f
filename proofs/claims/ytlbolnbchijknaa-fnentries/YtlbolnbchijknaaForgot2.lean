/- Who holds a line, and one core forgotten: Holders and Forgot of the program, Forgot of the specification. Conditions: lists of at most 2^20 numbers that read as told. -/
import Derived.Test.YtlbolnbchijknaaForgot
namespace Go.Proofs.Ytlbolnbchijknaa
open Go.ChangeShapes Go.WideShapes Go.ChangeAt Go.RowKit
set_option linter.unusedVariables false

theorem who_of {o s : Int} {b : Bool} {k f l m : Int} {d : List Int} (h : entB (o, s, b, k, f, l, m, d) = true) : whoB o s = true := by rw [eb] at h; exact (Bool.and_eq_true _ _ ▸ h).1
theorem cs_1 {w : World} {g b k j : Nat} {u x : Value} (hne : ¬ (b = g)) (h : w.cell? ⟨b, k, none⟩ = some u) : (w.setCell ⟨g, j, none⟩ x).cell? ⟨b, k, none⟩ = some u :=
  (World.cell?_of_block (w := w) (a := ⟨b, k, none⟩) (heap_setCell_other w ⟨g, j, none⟩ b x hne)).trans h
theorem cs8 {w : World} {g b k : Nat} {u x0 x1 x2 x3 x4 x5 x6 x7 : Value} (hne : ¬ (b = g)) (h : w.cell? ⟨b, k, none⟩ = some u) : ((((((((w.setCell ⟨g, 0, none⟩ x0).setCell ⟨g, 1, none⟩ x1).setCell ⟨g, 2, none⟩ x2).setCell ⟨g, 3, none⟩ x3).setCell ⟨g, 4, none⟩ x4).setCell ⟨g, 5, none⟩ x5).setCell ⟨g, 6, none⟩ x6).setCell ⟨g, 7, none⟩ x7).cell? ⟨b, k, none⟩ = some u :=
  cs_1 hne (cs_1 hne (cs_1 hne (cs_1 hne (cs_1 hne (cs_1 hne (cs_1 hne (cs_1 hne h)))))))
set_option maxHeartbeats 2000000 in
theorem implHolders_any (o s k f l m : Int) (b : Bool) (d : List Int) (a : Option Addr) (cap : Nat) (w : World) (h : SlRd intR w a d) :
    Calls Try.prog 11 #[.agg #[.int .i64 o, .int .i64 s, .bool b, .int .i64 k, .int .i64 f, .int .i64 l, .int .i64 m, .slice a d.length cap]] w fun e w' => ∃ v, e = .returned v ∧ Made w w' v (if entB (o, s, b, k, f, l, m, d) then hoI o s else []) := by
  have X := heap_at w (.cells #[.int .i64 o, .int .i64 s, .bool b, .int .i64 k, .int .i64 f, .int .i64 l, .int .i64 m, .slice a d.length cap] 26)
  have B := box_below w (.cells #[.int .i64 o, .int .i64 s, .bool b, .int .i64 k, .int .i64 f, .int .i64 l, .int .i64 m, .slice a d.length cap] 26)
  have HK : Hid (∀ W, Below w.heap.size w W → Calls Try.prog 16 #[.agg #[.int .i64 o, .int .i64 s, .bool b, .int .i64 k, .int .i64 f, .int .i64 l, .int .i64 m, .slice a d.length cap]] W fun e w' => e = .returned (.bool (entB (o, s, b, k, f, l, m, d))) ∧ Below W.heap.size W w') := fun W hb => implEntryOk_any o s k f l m b d a cap W (slrd_next h hb)
  clear h
  cases hv : entB (o, s, b, k, f, l, m, d)
  · rw [hv] at HK
    go_enter Try.func11, Try.ntmps11
    go_wp2_with fail
    generalize w.alloc (.cells #[.int .i64 o, .int .i64 s, .bool b, .int .i64 k, .int .i64 f, .int .i64 l, .int .i64 m, .slice a d.length cap] 26) = W0 at X B ⊢
    refine (HK.out _ B).mono ?_
    rintro e w1 ⟨rfl, b1⟩
    have M : Hid (Made w (w1.alloc (.cells #[] 2)) (.slice (some ⟨w1.heap.size, 0, none⟩) 0 0) []) := made_step (below_step B b1) (made_lit w1 #[] [] rfl (by unfold maxLen; simp))
    clear b1 HK X B
    go_wp2
    go_ret
    exact ⟨_, rfl, M.out⟩
  · rw [hv] at HK
    have HE : Hid (holL o s 8 = hoI o s) := holL_eq (who_of hv)
    go_enter Try.func11, Try.ntmps11
    go_wp2_with fail
    generalize w.alloc (.cells #[.int .i64 o, .int .i64 s, .bool b, .int .i64 k, .int .i64 f, .int .i64 l, .int .i64 m, .slice a d.length cap] 26) = W0 at X B ⊢
    refine (HK.out _ B).mono ?_
    rintro e w1 ⟨rfl, b1⟩
    replace X := row_keep b1 X
    replace B := below_step B b1
    obtain ⟨x0, x1, x2, x3, x4, x5, x6, x7⟩ := cells_8 X
    clear b1 HK X
    go_wp2_with fail
    refine (page_any o s k f l m b _ _).mono ?_
    rintro e w2 ⟨rfl, b2⟩
    replace B := below_step B b2
    clear b2 x0 x1 x2 x3 x4 x5 x6 x7
    go_wp2_with (go_at_call 38; refine (chosenP_any o s _).mono ?_; rintro e w3 ⟨v, rfl, mm⟩; rw [HE.out] at mm; have HM : Hid (Made w w3 v (hoI o s)) := made_step B mm; clear mm)
    go_ret
    exact ⟨_, rfl, HM.out⟩

set_option maxRecDepth 8000 in
set_option maxHeartbeats 4000000 in
theorem implForgot_any (o s k f l m : Int) (b : Bool) (d : List Int) (a : Option Addr) (cap : Nat) (c : Int) (w : World) (i0 : In64 o) (i1 : In64 s) (i3 : In64 k) (i4 : In64 f) (i5 : In64 l) (i6 : In64 m) (h : SlRd intR w a d) (hm : d.length ≤ 1048576) :
    Calls Try.prog 10 #[.agg #[.int .i64 o, .int .i64 s, .bool b, .int .i64 k, .int .i64 f, .int .i64 l, .int .i64 m, .slice a d.length cap], .int .i64 c] w fun e w' => ∃ av cv, e = .returned (.agg #[.int .i64 (forD (o, s, b, k, f, l, m, d) c).1, .int .i64 (forD (o, s, b, k, f, l, m, d) c).2.1, .bool (forD (o, s, b, k, f, l, m, d) c).2.2.1, .int .i64 (forD (o, s, b, k, f, l, m, d) c).2.2.2.1, .int .i64 (forD (o, s, b, k, f, l, m, d) c).2.2.2.2.1, .int .i64 (forD (o, s, b, k, f, l, m, d) c).2.2.2.2.2.1, .int .i64 (forD (o, s, b, k, f, l, m, d) c).2.2.2.2.2.2.1, .slice av (forD (o, s, b, k, f, l, m, d) c).2.2.2.2.2.2.2.length cv]) ∧ MadeR entR w w' [.int .i64 (forD (o, s, b, k, f, l, m, d) c).1, .int .i64 (forD (o, s, b, k, f, l, m, d) c).2.1, .bool (forD (o, s, b, k, f, l, m, d) c).2.2.1, .int .i64 (forD (o, s, b, k, f, l, m, d) c).2.2.2.1, .int .i64 (forD (o, s, b, k, f, l, m, d) c).2.2.2.2.1, .int .i64 (forD (o, s, b, k, f, l, m, d) c).2.2.2.2.2.1, .int .i64 (forD (o, s, b, k, f, l, m, d) c).2.2.2.2.2.2.1, .slice av (forD (o, s, b, k, f, l, m, d) c).2.2.2.2.2.2.2.length cv] (forD (o, s, b, k, f, l, m, d) c) := by
  have X := heap_on (.cells #[.int .i64 0, .int .i64 0, .bool false, .int .i64 0, .int .i64 0, .int .i64 0, .int .i64 0, .slice none 0 0] 26) (heap_at w (.cells #[.int .i64 o, .int .i64 s, .bool b, .int .i64 k, .int .i64 f, .int .i64 l, .int .i64 m, .slice a d.length cap] 26))
  have Y := heap_at (w.alloc (.cells #[.int .i64 o, .int .i64 s, .bool b, .int .i64 k, .int .i64 f, .int .i64 l, .int .i64 m, .slice a d.length cap] 26)) (.cells #[.int .i64 0, .int .i64 0, .bool false, .int .i64 0, .int .i64 0, .int .i64 0, .int .i64 0, .slice none 0 0] 26)
  have B := below_step (box_below w (.cells #[.int .i64 o, .int .i64 s, .bool b, .int .i64 k, .int .i64 f, .int .i64 l, .int .i64 m, .slice a d.length cap] 26)) (box_below _ (.cells #[.int .i64 0, .int .i64 0, .bool false, .int .i64 0, .int .i64 0, .int .i64 0, .int .i64 0, .slice none 0 0] 26))
  rw [alloc_len] at Y
  have HK : Hid (∀ W, Below w.heap.size w W → Calls Try.prog 16 #[.agg #[.int .i64 o, .int .i64 s, .bool b, .int .i64 k, .int .i64 f, .int .i64 l, .int .i64 m, .slice a d.length cap]] W fun e w' => e = .returned (.bool (entB (o, s, b, k, f, l, m, d))) ∧ Below W.heap.size W w') := fun W hb => implEntryOk_any o s k f l m b d a cap W (slrd_next h hb)
  have HD : Hid (∀ W, Below w.heap.size w W → SlRd intR W a d) := fun W hb => slrd_next h hb
  have HM : Hid (d.length ≤ 1048576) := hm
  clear h hm
  have SZ : ((w.alloc (.cells #[.int .i64 o, .int .i64 s, .bool b, .int .i64 k, .int .i64 f, .int .i64 l, .int .i64 m, .slice a d.length cap] 26)).alloc (.cells #[.int .i64 0, .int .i64 0, .bool false, .int .i64 0, .int .i64 0, .int .i64 0, .int .i64 0, .slice none 0 0] 26)).heap.size ≥ w.heap.size + 2 := by simp
  cases hv : entB (o, s, b, k, f, l, m, d)
  · rw [hv] at HK
    have HF : Hid ((forD (o, s, b, k, f, l, m, d) c) = zeroE) := by unfold Hid forD; rw [hv]; rfl
    rw [HF.out]
    show Calls Try.prog 10 _ w fun e w' => ∃ av cv, e = .returned (.agg #[.int .i64 0, .int .i64 0, .bool false, .int .i64 0, .int .i64 0, .int .i64 0, .int .i64 0, .slice av 0 cv]) ∧ MadeR entR w w' [.int .i64 0, .int .i64 0, .bool false, .int .i64 0, .int .i64 0, .int .i64 0, .int .i64 0, .slice av 0 cv] zeroE
    clear i0 i1 i3 i4 i5 i6 HD HM SZ
    go_enter Try.func10, Try.ntmps10
    go_wp2_with fail
    generalize (w.alloc (.cells #[.int .i64 o, .int .i64 s, .bool b, .int .i64 k, .int .i64 f, .int .i64 l, .int .i64 m, .slice a d.length cap] 26)).alloc (.cells #[.int .i64 0, .int .i64 0, .bool false, .int .i64 0, .int .i64 0, .int .i64 0, .int .i64 0, .slice none 0 0] 26) = W0 at X Y B ⊢
    refine (HK.out _ B).mono ?_
    rintro e w1 ⟨rfl, b1⟩
    replace Y := row_keep b1 Y
    replace B := below_step B b1
    obtain ⟨y0, y1, y2, y3, y4, y5, y6, y7⟩ := cells_8 Y
    obtain ⟨g0, g1, g2, g3, g4, g5, g6, g7⟩ := froz_8 Y
    have HY : Hid _ := Y
    clear b1 HK X Y
    go_wp2
    obtain ⟨r0, r1, r2, r3, r4, r5, r6, r7⟩ := cells_8 (put_8 (y0 := .int .i64 0) (y1 := .int .i64 0) (y2 := .bool false) (y3 := .int .i64 0) (y4 := .int .i64 0) (y5 := .int .i64 0) (y6 := .int .i64 0) (y7 := .slice none 0 0) HY.out)
    refine bodyPost_ret (v := .agg #[.int .i64 0, .int .i64 0, .bool false, .int .i64 0, .int .i64 0, .int .i64 0, .int .i64 0, .slice none 0 0]) (by simp [results, Try.results10, go_sem, r0, r1, r2, r3, r4, r5, r6, r7]) rfl ⟨none, 0, rfl, made_zero (by omega) B⟩
  · rw [hv] at HK
    have hw := who_of hv
    have HF : Hid ((forD (o, s, b, k, f, l, m, d) c) = (fgO o c, fgS s c, b, k, f, l, m, d)) := by unfold Hid forD; rw [hv]; rfl
    rw [HF.out]
    show Calls Try.prog 10 _ w fun e w' => ∃ av cv, e = .returned (.agg #[.int .i64 (fgO o c), .int .i64 (fgS s c), .bool b, .int .i64 k, .int .i64 f, .int .i64 l, .int .i64 m, .slice av d.length cv]) ∧ MadeR entR w w' [.int .i64 (fgO o c), .int .i64 (fgS s c), .bool b, .int .i64 k, .int .i64 f, .int .i64 l, .int .i64 m, .slice av d.length cv] (fgO o c, fgS s c, b, k, f, l, m, d)
    have HG : Hid (In64 (fgO o c) ∧ In64 (fgS s c)) := fg_small c hw
    have HI : Hid (In64 o ∧ In64 s ∧ In64 k ∧ In64 f ∧ In64 l ∧ In64 m) := ⟨i0, i1, i3, i4, i5, i6⟩
    clear i0 i1 i3 i4 i5 i6 HF
    clear hw
    go_enter Try.func10, Try.ntmps10
    go_wp2_with fail
    generalize (w.alloc (.cells #[.int .i64 o, .int .i64 s, .bool b, .int .i64 k, .int .i64 f, .int .i64 l, .int .i64 m, .slice a d.length cap] 26)).alloc (.cells #[.int .i64 0, .int .i64 0, .bool false, .int .i64 0, .int .i64 0, .int .i64 0, .int .i64 0, .slice none 0 0] 26) = W0 at X Y B SZ ⊢
    refine (HK.out _ B).mono ?_
    rintro e w1 ⟨rfl, b1⟩
    replace X := row_keep b1 X
    replace Y := row_keep b1 Y
    replace B := below_step B b1
    have SZ1 : w1.heap.size ≥ w.heap.size + 2 := Nat.le_trans SZ b1.size
    clear SZ b1 HK
    obtain ⟨x0, x1, x2, x3, x4, x5, x6, x7⟩ := cells_8 X
    go_wp2_with fail
    have XD : w1.drew.heap[w.heap.size]? = _ := X
    have YD : w1.drew.heap[w.heap.size + 1]? = _ := Y
    have BD := B.drew
    have SD : Hid (w1.drew.heap.size ≥ w.heap.size + 2) := SZ1
    have ne0 : ¬ (w.heap.size = w.heap.size + 1) := by omega
    clear X Y B SZ1
    go_region_held3 (fun wx => wx.cell? ⟨w.heap.size, 0, none⟩ = some (.int .i64 o) ∧ wx.cell? ⟨w.heap.size, 1, none⟩ = some (.int .i64 s) ∧ wx.cell? ⟨w.heap.size, 2, none⟩ = some (.bool b) ∧ wx.cell? ⟨w.heap.size, 3, none⟩ = some (.int .i64 k) ∧ wx.cell? ⟨w.heap.size, 4, none⟩ = some (.int .i64 f) ∧ wx.cell? ⟨w.heap.size, 5, none⟩ = some (.int .i64 l) ∧ wx.cell? ⟨w.heap.size, 6, none⟩ = some (.int .i64 m) ∧ wx.cell? ⟨w.heap.size, 7, none⟩ = some (.slice a d.length cap)) (first | (go_keep; done) | (exact ⟨x0, x1, x2, x3, x4, x5, x6, x7⟩) | (exact ⟨cs8 ne0 x0, cs8 ne0 x1, cs8 ne0 x2, cs8 ne0 x3, cs8 ne0 x4, cs8 ne0 x5, cs8 ne0 x6, cs8 ne0 x7⟩)) (first
      | (go_at_call 34; refine (entCopied_any o s k f l m b d a cap _ HI.out.1 HI.out.2.1 HI.out.2.2.1 HI.out.2.2.2.1 HI.out.2.2.2.2.1 HI.out.2.2.2.2.2 (HD.out _ BD) HM.out).mono ?_; rintro e w2 ⟨av, cv, rfl, mm⟩; have HO : Hid _ := And.intro (ent_own mm.1) SD.out; have HS2 : Hid (w1.drew.heap.size ≤ w2.heap.size) := mm.2.size; replace BD := below_step BD mm.2; replace XD := row_keep mm.2 XD; replace YD := row_keep mm.2 YD; clear mm SD x0 x1 x2 x3 x4 x5 x6 x7; obtain ⟨x0, x1, x2, x3, x4, x5, x6, x7⟩ := cells_8 XD)
      | (go_at_call 36; refine (page_any o s k f l m b _ _).mono ?_; rintro e w3 ⟨rfl, b3⟩; replace BD := below_step BD b3; replace XD := row_keep b3 XD; replace YD := row_keep b3 YD; clear x0 x1 x2 x3 x4 x5 x6 x7; obtain ⟨x0, x1, x2, x3, x4, x5, x6, x7⟩ := cells_8 XD)
      | (go_at_call 37; refine (forget_any o s c _).mono ?_; rintro e w4 ⟨rfl, b4⟩; replace BD := below_step BD b4; replace XD := row_keep b4 XD; replace YD := row_keep b4 YD; clear x0 x1 x2 x3 x4 x5 x6 x7; obtain ⟨x0, x1, x2, x3, x4, x5, x6, x7⟩ := cells_8 XD)
      | (go_at_call 35; refine (heldAs_any o s k f l m (fgO o c) (fgS s c) b _ _ _ _).mono ?_; rintro e w5 ⟨rfl, b5⟩; replace BD := below_step BD b5; replace XD := row_keep b5 XD; replace YD := row_keep b5 YD; clear x0 x1 x2 x3 x4 x5 x6 x7; obtain ⟨x0, x1, x2, x3, x4, x5, x6, x7⟩ := cells_8 XD; obtain ⟨y0, y1, y2, y3, y4, y5, y6, y7⟩ := cells_8 YD; obtain ⟨g0, g1, g2, g3, g4, g5, g6, g7⟩ := froz_8 YD))
    all_goals
      go_wp2
      obtain ⟨⟨v0, ev, -, -, -, -, -, -, N⟩, hsz⟩ := HO.out
      simp only [List.cons.injEq, and_true, true_and] at ev
      subst ev
      have N5 : intsR.own w5 (rng w1.drew.heap.size w2.heap.size) [.slice av d.length cv] d := intsR.own_keep N (keeps_below_of (D := w2.heap.size) ((b3.trans (b4.mono b3.size)).trans (b5.mono (Nat.le_trans b3.size b4.size))) (fun k hk => hk.2))
      have S5 : w2.heap.size ≤ w5.heap.size := Nat.le_trans b3.size (Nat.le_trans b4.size b5.size)
      obtain ⟨r0, r1, r2, r3, r4, r5, r6, r7⟩ := cells_8 (put_8 (y0 := .int .i64 (fgO o c)) (y1 := .int .i64 (fgS s c)) (y2 := .bool b) (y3 := .int .i64 k) (y4 := .int .i64 f) (y5 := .int .i64 l) (y6 := .int .i64 m) (y7 := .slice av d.length cv) YD)
      refine bodyPost_ret (v := .agg #[.int .i64 (fgO o c), .int .i64 (fgS s c), .bool b, .int .i64 k, .int .i64 f, .int .i64 l, .int .i64 m, .slice av d.length cv]) (by simp [results, Try.results10, go_sem, r0, r1, r2, r3, r4, r5, r6, r7]) rfl ⟨av, cv, rfl, ret_ent HG.out.1 HG.out.2 HI.out.2.2.1 HI.out.2.2.2.1 HI.out.2.2.2.2.1 HI.out.2.2.2.2.2 N5 (fun k hk => ⟨by have := hk.1; omega, by have := hk.2; omega, by have := hk.1; omega⟩) (by omega) BD⟩

def fgW (w : World) (g off : Nat) (o s c : Int) : World := (if o = c then w.setCell ⟨g, off, none⟩ (.int .i64 (-1)) else w).setCell ⟨g, off + 1, none⟩ (.int .i64 (withoutI s c))
set_option maxHeartbeats 2000000 in
theorem l10Forget_any (g off : Nat) (o s c : Int) (w : World) (h0 : w.cell? ⟨g, off, none⟩ = some (.int .i64 o)) (h1 : w.cell? ⟨g, off + 1, none⟩ = some (.int .i64 s)) (f0 : w.frozen? ⟨g, off, none⟩ = false) (f1 : w.frozen? ⟨g, off + 1, none⟩ = false) :
    Calls Try.prog 42 #[.pointer (some ⟨g, off, none⟩), .int .i64 c] w fun e w' => e = .returned (.tuple #[]) ∧ w' = fgW w g off o s c := by
  have h1' : (w.setCell ⟨g, off, none⟩ (.int .i64 (-1))).cell? ⟨g, off + 1, none⟩ = some (.int .i64 s) := by
    rw [World.cell?_setCell_other _ _ _ _ (by intro h; simp only [Addr.mk.injEq] at h; omega)]; exact h1
  have f1' : (w.setCell ⟨g, off, none⟩ (.int .i64 (-1))).frozen? ⟨g, off + 1, none⟩ = false := by
    simpa using f1
  by_cases he : o = c
  · have HE : Hid (fgW w g off o s c = (w.setCell ⟨g, off, none⟩ (.int .i64 (-1))).setCell ⟨g, off + 1, none⟩ (.int .i64 (withoutI s c))) := by unfold Hid fgW; rw [if_pos he]
    subst he
    go_enter Try.func42, Try.ntmps42
    go_wp2_with (go_at_call 59; refine (specWithout_any _ _ _).mono ?_; rintro e w' ⟨rfl, rfl⟩)
    refine bodyPost_end (v := .tuple #[]) (by simp [results, Try.results42, go_sem]) rfl ⟨rfl, ?_⟩
    first | exact HE.out.symm | rfl
  · have heb : (o == c) = false := beq_false_of_ne he
    have HE : Hid (fgW w g off o s c = w.setCell ⟨g, off + 1, none⟩ (.int .i64 (withoutI s c))) := by unfold Hid fgW; rw [if_neg he]
    go_enter Try.func42, Try.ntmps42
    go_wp2_with (go_at_call 59; refine (specWithout_any _ _ _).mono ?_; rintro e w' ⟨rfl, rfl⟩)
    refine bodyPost_end (v := .tuple #[]) (by simp [results, Try.results42, go_sem]) rfl ⟨rfl, ?_⟩
    first | exact HE.out.symm | rfl
set_option maxRecDepth 8000 in
set_option maxHeartbeats 4000000 in
theorem specForgot_any (o s k f l m : Int) (b : Bool) (d : List Int) (a : Option Addr) (cap : Nat) (c : Int) (w : World) (i0 : In64 o) (i1 : In64 s) (i3 : In64 k) (i4 : In64 f) (i5 : In64 l) (i6 : In64 m) (h : SlRd intR w a d) (hm : d.length ≤ 1048576) :
    Calls Try.prog 13 #[.agg #[.int .i64 o, .int .i64 s, .bool b, .int .i64 k, .int .i64 f, .int .i64 l, .int .i64 m, .slice a d.length cap], .int .i64 c] w fun e w' => ∃ av cv, e = .returned (.agg #[.int .i64 (forD (o, s, b, k, f, l, m, d) c).1, .int .i64 (forD (o, s, b, k, f, l, m, d) c).2.1, .bool (forD (o, s, b, k, f, l, m, d) c).2.2.1, .int .i64 (forD (o, s, b, k, f, l, m, d) c).2.2.2.1, .int .i64 (forD (o, s, b, k, f, l, m, d) c).2.2.2.2.1, .int .i64 (forD (o, s, b, k, f, l, m, d) c).2.2.2.2.2.1, .int .i64 (forD (o, s, b, k, f, l, m, d) c).2.2.2.2.2.2.1, .slice av (forD (o, s, b, k, f, l, m, d) c).2.2.2.2.2.2.2.length cv]) ∧ MadeR entR w w' [.int .i64 (forD (o, s, b, k, f, l, m, d) c).1, .int .i64 (forD (o, s, b, k, f, l, m, d) c).2.1, .bool (forD (o, s, b, k, f, l, m, d) c).2.2.1, .int .i64 (forD (o, s, b, k, f, l, m, d) c).2.2.2.1, .int .i64 (forD (o, s, b, k, f, l, m, d) c).2.2.2.2.1, .int .i64 (forD (o, s, b, k, f, l, m, d) c).2.2.2.2.2.1, .int .i64 (forD (o, s, b, k, f, l, m, d) c).2.2.2.2.2.2.1, .slice av (forD (o, s, b, k, f, l, m, d) c).2.2.2.2.2.2.2.length cv] (forD (o, s, b, k, f, l, m, d) c) := by
  have X := heap_on (.cells #[.int .i64 0, .int .i64 0, .bool false, .int .i64 0, .int .i64 0, .int .i64 0, .int .i64 0, .slice none 0 0] 26) (heap_at w (.cells #[.int .i64 o, .int .i64 s, .bool b, .int .i64 k, .int .i64 f, .int .i64 l, .int .i64 m, .slice a d.length cap] 26))
  have Y := heap_at (w.alloc (.cells #[.int .i64 o, .int .i64 s, .bool b, .int .i64 k, .int .i64 f, .int .i64 l, .int .i64 m, .slice a d.length cap] 26)) (.cells #[.int .i64 0, .int .i64 0, .bool false, .int .i64 0, .int .i64 0, .int .i64 0, .int .i64 0, .slice none 0 0] 26)
  have B := below_step (box_below w (.cells #[.int .i64 o, .int .i64 s, .bool b, .int .i64 k, .int .i64 f, .int .i64 l, .int .i64 m, .slice a d.length cap] 26)) (box_below _ (.cells #[.int .i64 0, .int .i64 0, .bool false, .int .i64 0, .int .i64 0, .int .i64 0, .int .i64 0, .slice none 0 0] 26))
  rw [alloc_len] at Y
  have HK : Hid (∀ W, Below w.heap.size w W → Calls Try.prog 17 #[.agg #[.int .i64 o, .int .i64 s, .bool b, .int .i64 k, .int .i64 f, .int .i64 l, .int .i64 m, .slice a d.length cap]] W fun e w' => e = .returned (.bool (entB (o, s, b, k, f, l, m, d))) ∧ Below W.heap.size W w') := fun W hb => specEntryOk_any o s k f l m b d a cap W (slrd_next h hb)
  have HD : Hid (∀ W, Below w.heap.size w W → SlRd intR W a d) := fun W hb => slrd_next h hb
  have HM : Hid (d.length ≤ 1048576) := hm
  clear h hm
  have SZ : ((w.alloc (.cells #[.int .i64 o, .int .i64 s, .bool b, .int .i64 k, .int .i64 f, .int .i64 l, .int .i64 m, .slice a d.length cap] 26)).alloc (.cells #[.int .i64 0, .int .i64 0, .bool false, .int .i64 0, .int .i64 0, .int .i64 0, .int .i64 0, .slice none 0 0] 26)).heap.size ≥ w.heap.size + 2 := by simp
  cases hv : entB (o, s, b, k, f, l, m, d)
  · rw [hv] at HK
    have HF : Hid ((forD (o, s, b, k, f, l, m, d) c) = zeroE) := by unfold Hid forD; rw [hv]; rfl
    rw [HF.out]
    show Calls Try.prog 13 _ w fun e w' => ∃ av cv, e = .returned (.agg #[.int .i64 0, .int .i64 0, .bool false, .int .i64 0, .int .i64 0, .int .i64 0, .int .i64 0, .slice av 0 cv]) ∧ MadeR entR w w' [.int .i64 0, .int .i64 0, .bool false, .int .i64 0, .int .i64 0, .int .i64 0, .int .i64 0, .slice av 0 cv] zeroE
    clear i0 i1 i3 i4 i5 i6 HD HM SZ
    go_enter Try.func13, Try.ntmps13
    go_wp2_with fail
    generalize (w.alloc (.cells #[.int .i64 o, .int .i64 s, .bool b, .int .i64 k, .int .i64 f, .int .i64 l, .int .i64 m, .slice a d.length cap] 26)).alloc (.cells #[.int .i64 0, .int .i64 0, .bool false, .int .i64 0, .int .i64 0, .int .i64 0, .int .i64 0, .slice none 0 0] 26) = W0 at X Y B ⊢
    refine (HK.out _ B).mono ?_
    rintro e w1 ⟨rfl, b1⟩
    replace Y := row_keep b1 Y
    replace B := below_step B b1
    obtain ⟨y0, y1, y2, y3, y4, y5, y6, y7⟩ := cells_8 Y
    obtain ⟨g0, g1, g2, g3, g4, g5, g6, g7⟩ := froz_8 Y
    have HY : Hid _ := Y
    clear b1 HK X Y
    go_wp2
    obtain ⟨r0, r1, r2, r3, r4, r5, r6, r7⟩ := cells_8 (put_8 (y0 := .int .i64 0) (y1 := .int .i64 0) (y2 := .bool false) (y3 := .int .i64 0) (y4 := .int .i64 0) (y5 := .int .i64 0) (y6 := .int .i64 0) (y7 := .slice none 0 0) HY.out)
    refine bodyPost_ret (v := .agg #[.int .i64 0, .int .i64 0, .bool false, .int .i64 0, .int .i64 0, .int .i64 0, .int .i64 0, .slice none 0 0]) (by simp [results, Try.results13, go_sem, r0, r1, r2, r3, r4, r5, r6, r7]) rfl ⟨none, 0, rfl, made_zero (by omega) B⟩
  · rw [hv] at HK
    have hw := who_of hv
    have HF : Hid ((forD (o, s, b, k, f, l, m, d) c) = (fgO o c, fgS s c, b, k, f, l, m, d)) := by unfold Hid forD; rw [hv]; rfl
    rw [HF.out]
    show Calls Try.prog 13 _ w fun e w' => ∃ av cv, e = .returned (.agg #[.int .i64 (fgO o c), .int .i64 (fgS s c), .bool b, .int .i64 k, .int .i64 f, .int .i64 l, .int .i64 m, .slice av d.length cv]) ∧ MadeR entR w w' [.int .i64 (fgO o c), .int .i64 (fgS s c), .bool b, .int .i64 k, .int .i64 f, .int .i64 l, .int .i64 m, .slice av d.length cv] (fgO o c, fgS s c, b, k, f, l, m, d)
    have HG : Hid (In64 (fgO o c) ∧ In64 (fgS s c)) := fg_small c hw
    have HI : Hid (In64 o ∧ In64 s ∧ In64 k ∧ In64 f ∧ In64 l ∧ In64 m) := ⟨i0, i1, i3, i4, i5, i6⟩
    clear i0 i1 i3 i4 i5 i6 HF
    have HN : Hid (betw c 0 3 = true → (fgO o c = if o = c then -1 else o) ∧ withoutI s c = fgS s c) := fg_in hw
    have HU : Hid (betw c 0 3 = false → fgO o c = o ∧ fgS s c = s) := fg_out hw
    clear hw
    go_enter Try.func13, Try.ntmps13
    go_wp2_with fail
    generalize (w.alloc (.cells #[.int .i64 o, .int .i64 s, .bool b, .int .i64 k, .int .i64 f, .int .i64 l, .int .i64 m, .slice a d.length cap] 26)).alloc (.cells #[.int .i64 0, .int .i64 0, .bool false, .int .i64 0, .int .i64 0, .int .i64 0, .int .i64 0, .slice none 0 0] 26) = W0 at X Y B SZ ⊢
    refine (HK.out _ B).mono ?_
    rintro e w1 ⟨rfl, b1⟩
    replace X := row_keep b1 X
    replace Y := row_keep b1 Y
    replace B := below_step B b1
    have SZ1 : w1.heap.size ≥ w.heap.size + 2 := Nat.le_trans SZ b1.size
    clear SZ b1 HK
    obtain ⟨x0, x1, x2, x3, x4, x5, x6, x7⟩ := cells_8 X
    go_wp2_with fail
    refine (l1Copy_rep a d cap _ (HD.out _ B) HM.out).mono ?_
    rintro e w2 ⟨v, rfl, mm⟩
    obtain ⟨av, cv, rfl⟩ := slown_val mm.1
    have NN : Hid _ := mm.1
    have S2 : w1.heap.size ≤ w2.heap.size := mm.2.size
    replace X := row_keep mm.2 X
    replace Y := row_keep mm.2 Y
    replace B := below_step B mm.2
    clear x0 x1 x2 x3 x4 x5 x6 x7 mm
    obtain ⟨x0, x1, x2, x3, x4, x5, x6, x7⟩ := cells_8 X
    obtain ⟨f0, f1, f2, f3, f4, f5, f6, f7⟩ := froz_8 X
    have X2 : (w2.setCell ⟨w.heap.size, 7, none⟩ (.slice av d.length cv)).heap[w.heap.size]? = some (.cells #[.int .i64 o, .int .i64 s, .bool b, .int .i64 k, .int .i64 f, .int .i64 l, .int .i64 m, .slice av d.length cv] 26 (0, 0)) := heap_setCell_same _ _ 7 _ _ _ X
    have Y2 : (w2.setCell ⟨w.heap.size, 7, none⟩ (.slice av d.length cv)).heap[w.heap.size + 1]? = _ := heap_setC Y (by omega)
    have B2 : Below w.heap.size w (w2.setCell ⟨w.heap.size, 7, none⟩ (.slice av d.length cv)) := below_setC B (by omega)
    have HO : Hid (intsR.own (w2.setCell ⟨w.heap.size, 7, none⟩ (.slice av d.length cv)) (rng w1.heap.size w2.heap.size) [.slice av d.length cv] d) := own_setC NN.out (fun h => by have := h.1; omega)
    have S3 : (w2.setCell ⟨w.heap.size, 7, none⟩ (.slice av d.length cv)).heap.size ≥ w2.heap.size := by simp
    have HP : Hid (w1.heap.size ≥ w.heap.size + 2 ∧ w1.heap.size ≤ w2.heap.size) := ⟨SZ1, S2⟩
    have HX2 : Hid _ := X2
    have HY2 : Hid _ := Y2
    have HB2 : Hid _ := B2
    have HS3 : Hid _ := S3
    clear X Y B X2 Y2 B2 NN S2 SZ1 S3
    go_wp2_with fail
    have X2 := HX2.out
    have Y2 := HY2.out
    have B2 := HB2.out
    have S3 := HS3.out
    clear HX2 HY2 HB2 HS3 x0 x1 x2 x3 x4 x5 x6 x7 f0 f1 f2 f3 f4 f5 f6 f7
    generalize w2.setCell ⟨w.heap.size, 7, none⟩ (.slice av d.length cv) = w3 at X2 Y2 B2 HO S3 ⊢
    obtain ⟨x0, x1, x2, x3, x4, x5, x6, x7⟩ := cells_8 X2
    obtain ⟨f0, f1, f2, f3, f4, f5, f6, f7⟩ := froz_8 X2
    obtain ⟨y0, y1, y2, y3, y4, y5, y6, y7⟩ := cells_8 Y2
    obtain ⟨g0, g1, g2, g3, g4, g5, g6, g7⟩ := froz_8 Y2
    cases hc : betw c 0 3
    · obtain ⟨E1, E2⟩ := HU.out hc
      rw [E1, E2] at HG
      have HE : Hid _ := And.intro E1 E2
      have HX2 : Hid _ := X2
      have HY2 : Hid _ := Y2
      clear E1 E2 X2 Y2
      refine (l1In_any _ _ _ _).mono ?_
      rintro e w' ⟨rfl, rfl⟩
      rw [hc]
      go_wp2
      obtain ⟨r0, r1, r2, r3, r4, r5, r6, r7⟩ := cells_8 (put_8 (y0 := .int .i64 o) (y1 := .int .i64 s) (y2 := .bool b) (y3 := .int .i64 k) (y4 := .int .i64 f) (y5 := .int .i64 l) (y6 := .int .i64 m) (y7 := .slice av d.length cv) HY2.out)
      have N5 := HO.out
      have B5 := B2
      obtain ⟨h1, h2⟩ := HP.out
      refine bodyPost_ret (v := .agg #[.int .i64 o, .int .i64 s, .bool b, .int .i64 k, .int .i64 f, .int .i64 l, .int .i64 m, .slice av d.length cv]) (by simp [results, Try.results13, go_sem, r0, r1, r2, r3, r4, r5, r6, r7]) rfl ⟨av, cv, by rw [HE.out.1, HE.out.2], by rw [HE.out.1, HE.out.2]; exact ret_ent HG.out.1 HG.out.2 HI.out.2.2.1 HI.out.2.2.2.1 HI.out.2.2.2.2.1 HI.out.2.2.2.2.2 N5 (fun k hk => ⟨by have := hk.1; omega, by have := hk.2; omega, by have := hk.1; omega⟩) (by omega) B5⟩
    · obtain ⟨E1, E2⟩ := HN.out hc
      refine (l1In_any _ _ _ _).mono ?_
      rintro e w' ⟨rfl, rfl⟩
      rw [hc]
      have HX2 : Hid _ := X2
      have HY2 : Hid _ := Y2
      have HE : Hid _ := And.intro E1 E2
      clear X2 Y2 E1 E2
      go_wp2_with fail
      refine (l10Forget_any w.heap.size 0 o s c _ x0 x1 f0 f1).mono ?_
      rintro e w4 ⟨rfl, hw4⟩
      have B4 : Below w.heap.size w w4 := by
        rw [hw4]; unfold fgW
        split
        · exact below_setC (below_setC B2 (by omega)) (by omega)
        · exact below_setC B2 (by omega)
      have N4 : intsR.own w4 (rng w1.heap.size w2.heap.size) [.slice av d.length cv] d := by
        obtain ⟨h1, h2⟩ := HP.out
        rw [hw4]; unfold fgW
        split
        · exact own_setC (own_setC HO.out (fun h => by have := h.1; omega)) (fun h => by have := h.1; omega)
        · exact own_setC HO.out (fun h => by have := h.1; omega)
      have X4 : w4.heap[w.heap.size]? = some (.cells #[.int .i64 (fgO o c), .int .i64 (fgS s c), .bool b, .int .i64 k, .int .i64 f, .int .i64 l, .int .i64 m, .slice av d.length cv] 26 (0, 0)) := by
        rw [hw4, HE.out.1, ← HE.out.2]; unfold fgW
        split
        · exact heap_setCell_same _ _ 1 _ _ _ (heap_setCell_same _ _ 0 _ _ _ HX2.out)
        · exact heap_setCell_same _ _ 1 _ _ _ HX2.out
      have Y4 : w4.heap[w.heap.size + 1]? = some (.cells #[.int .i64 0, .int .i64 0, .bool false, .int .i64 0, .int .i64 0, .int .i64 0, .int .i64 0, .slice none 0 0] 26 (0, 0)) := by
        rw [hw4]; unfold fgW
        split
        · exact heap_setC (heap_setC HY2.out (by omega)) (by omega)
        · exact heap_setC HY2.out (by omega)
      have S4 : w4.heap.size ≥ w2.heap.size := by
        rw [hw4]; unfold fgW
        split <;> (simp; exact S3)
      clear hw4 x0 x1 x2 x3 x4 x5 x6 x7 f0 f1 f2 f3 f4 f5 f6 f7 y0 y1 y2 y3 y4 y5 y6 y7 g0 g1 g2 g3 g4 g5 g6 g7 HX2 HY2 HO B2 HE
      obtain ⟨x0, x1, x2, x3, x4, x5, x6, x7⟩ := cells_8 X4
      obtain ⟨y0, y1, y2, y3, y4, y5, y6, y7⟩ := cells_8 Y4
      obtain ⟨g0, g1, g2, g3, g4, g5, g6, g7⟩ := froz_8 Y4
      have HY4 : Hid _ := Y4
      have HN4 : Hid _ := N4
      have HB4 : Hid _ := B4
      clear X4 Y4 N4 B4
      go_wp2
      obtain ⟨r0, r1, r2, r3, r4, r5, r6, r7⟩ := cells_8 (put_8 (y0 := .int .i64 (fgO o c)) (y1 := .int .i64 (fgS s c)) (y2 := .bool b) (y3 := .int .i64 k) (y4 := .int .i64 f) (y5 := .int .i64 l) (y6 := .int .i64 m) (y7 := .slice av d.length cv) HY4.out)
      have N5 := HN4.out
      have B5 := HB4.out
      obtain ⟨h1, h2⟩ := HP.out
      refine bodyPost_ret (v := .agg #[.int .i64 (fgO o c), .int .i64 (fgS s c), .bool b, .int .i64 k, .int .i64 f, .int .i64 l, .int .i64 m, .slice av d.length cv]) (by simp [results, Try.results13, go_sem, r0, r1, r2, r3, r4, r5, r6, r7]) rfl ⟨av, cv, rfl, ret_ent HG.out.1 HG.out.2 HI.out.2.2.1 HI.out.2.2.2.1 HI.out.2.2.2.2.1 HI.out.2.2.2.2.2 N5 (fun k hk => ⟨by have := hk.1; omega, by have := hk.2; omega, by have := hk.1; omega⟩) (by omega) B5⟩
end Go.Proofs.Ytlbolnbchijknaa
