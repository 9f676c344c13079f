/- The law FnLines returns true at every code of at most 4096 bytes, and nothing that was there turns. -/
import Derived.Test.YtkiakcmhcjiknaaLineFacts
namespace Go.Proofs.Ytkiakcmhcjiknaa
open Go.ChangeShapes Go.WideShapes Go.ChangeAt Go.RowKit

set_option maxHeartbeats 4000000 in
set_option maxRecDepth 100000 in
theorem lines_any (a : Option Addr) (len cap : Nat) (zs : List Int) (w : World) (hr : Row8 w a len zs) (hs : len ≤ 4096) :
    Calls Try.prog 3 #[.slice a len cap] w fun e w' => e = .returned (.bool true) ∧ Below w.heap.size w w' := by
  have hbig : decide ((4096 : Int) < len) = false := by simp; omega
  go_enter Try.func3, Try.ntmps3
  go_wp2_with fail
  refine (big_any _ _ _ _).mono ?_
  rintro e w0 ⟨rfl, rfl⟩
  go_wp2_with fail
  refine (drawPut_any _ _ _ zs _ hr).mono ?_
  rintro e w1 ⟨g1, c1, xs, k, u, rfl, lx, o1, B1⟩
  clear hbig
  go_wp2_with fail
  refine (implPut_any _ xs _ _ _ _ (reads_owni o1)).mono ?_
  rintro e w2 ⟨v, rfl, g2, c2, rfl, _, _, o2, b2⟩
  have B2 := below_step B1 b2
  replace o1 := owni_below o1 b2 (owni_lt o1).2
  clear b2 B1
  generalize hpb : putB xs k u = is
  generalize hpl : putL xs k u = ps at o2 ⊢
  have HP : Hid (putB xs k u = is ∧ putL xs k u = ps) := ⟨hpb, hpl⟩
  clear hpb hpl
  have lp : ps.length ≤ 3 := by
    rw [← HP.out.2]
    unfold putL
    split
    · split
      · split
        · simpa using lx
        · exact lx
      · exact lx
    · simp
  go_wp2_with fail
  refine (drawMasked_any _ _ _ zs _ (row8_below hr B2)).mono ?_
  rintro e w3 ⟨g3, c3, ys, g4, c4, zs2, m, rfl, la, lb, o3, o4, b3⟩
  have B3 := below_step B2 b3
  replace o1 := owni_below o1 b3 (owni_lt o1).2
  replace o2 := owni_below o2 b3 (owni_lt o2).2
  clear b3 B2
  go_wp2_with fail
  refine (implMasked_any _ _ ys zs2 _ _ _ _ (reads_owni o3) (reads_owni o4)).mono ?_
  rintro e w5 ⟨v, rfl, g5, c5, rfl, _, _, o5, b5⟩
  have B5 := below_step B3 b5
  replace o1 := owni_below o1 b5 (owni_lt o1).2
  replace o2 := owni_below o2 b5 (owni_lt o2).2
  replace o3 := owni_below o3 b5 (owni_lt o3).2
  replace o4 := owni_below o4 b5 (owni_lt o4).2
  clear b5 B3
  generalize hml : maskL ys zs2 m = ms at o5 ⊢
  have HM : Hid (maskL ys zs2 m = ms) := hml
  clear hml
  have lm : ms.length ≤ 2 := by
    rw [← HM.out]
    unfold maskL
    split <;> simp
  go_wp2_with fail
  refine (drawWordAt_any _ _ _ zs _ (row8_below hr B5)).mono ?_
  rintro e w6 ⟨g6, c6, qs, i, rfl, lq, o6, b6⟩
  have K : Kit6 w0 w6 g1 c1 xs g2 c2 ps g3 c3 ys g4 c4 zs2 g5 c5 ms g6 c6 qs :=
    ⟨below_step B5 b6, owni_mono (owni_below o1 b6 (owni_lt o1).2) (Nat.zero_le _), owni_mono (owni_below o2 b6 (owni_lt o2).2) (Nat.zero_le _), owni_mono (owni_below o3 b6 (owni_lt o3).2) (Nat.zero_le _), owni_mono (owni_below o4 b6 (owni_lt o4).2) (Nat.zero_le _), owni_mono (owni_below o5 b6 (owni_lt o5).2) (Nat.zero_le _), owni_mono o6 (Nat.zero_le _)⟩
  clear o1 o2 o3 o4 o5 o6 b6 B5 hr
  go_wp2_with fail
  refine (specPut_any _ xs _ _ _ _ (reads_owni K.o1)).mono ?_
  rintro e w7 ⟨v, rfl, g7, c7, rfl, _, _, o7, b7⟩
  replace K := K.below b7
  rw [HP.out.2] at o7
  rw [HP.out.1, HP.out.2]
  clear b7
  go_wp2_with fail
  refine (likeInts_any _ _ ps _ _ _ (reads_owni K.o2) (reads_owni o7) (by omega)).mono ?_
  rintro e w8 ⟨rfl, n8, rfl⟩
  replace K := K.drew n8
  clear o7
  generalize w7.drewN n8 = w8 at K ⊢
  go_wp2_with fail
  refine (specMasked_any _ _ ys zs2 _ _ _ _ (reads_owni K.o3) (reads_owni K.o4)).mono ?_
  rintro e w9 ⟨v, rfl, g9, c9, rfl, _, _, o9, b9⟩
  replace K := K.below b9
  rw [HM.out] at o9
  rw [HM.out]
  clear b9
  go_wp2_with fail
  refine (likeInts_any _ _ ms _ _ _ (reads_owni K.o5) (reads_owni o9) (by omega)).mono ?_
  rintro e w10 ⟨rfl, n10, rfl⟩
  replace K := K.drew n10
  clear o9
  generalize w9.drewN n10 = w10 at K ⊢
  go_wp2_with fail
  refine (implWordAt_any _ qs _ _ _ (reads_owni K.o6)).mono ?_
  rintro e w11 ⟨rfl, b11⟩
  replace K := K.below b11
  clear b11
  go_wp2_with fail
  refine (specWordAt_any _ qs _ _ _ (reads_owni K.o6)).mono ?_
  rintro e w12 ⟨rfl, rfl⟩
  go_wp2_with fail
  refine (implLineOk_any _ qs _ _ (reads_owni K.o6)).mono ?_
  rintro e w13 ⟨rfl, b13⟩
  replace K := K.below b13
  clear b13
  go_wp2_with fail
  refine (specLineOk_any _ qs _ _ (reads_owni K.o6)).mono ?_
  rintro e w14 ⟨rfl, rfl⟩
  cases is
  · cases hl : isL xs
    · go_wp2_with fail
      refine (specLineOk_any _ xs _ _ (reads_owni K.o1)).mono ?_
      rintro e w15 ⟨rfl, rfl⟩
      rw [hl]
      clear HP
      by_cases hn : (isL ys && isL zs2 && betw m 0 3) = false
      · obtain rfl : ms = [] := HM.out.symm.trans (mask_not hn)
        go_wp2
        go_ret
        exact ⟨rfl, K.bel⟩
      · rcases isL_cases ys with h1 | ⟨x1, y1, rfl, hx1, hy1⟩
        · simp [h1] at hn
        rcases isL_cases zs2 with h1 | ⟨x2, y2, rfl, hx2, hy2⟩
        · simp [h1] at hn
        cases hm : betw m 0 3
        · simp [hm] at hn
        clear hn la lb lm
        have E0 : Hid (maskL [x1, y1] [x2, y2] 0 = [x1, y1]) := by unfold Hid; rw [mask_val hx1 hy1 hx2 hy2 rfl]; rfl
        have E3 : Hid (maskL [x1, y1] [x2, y2] 3 = [x2, y2]) := by unfold Hid; rw [mask_val hx1 hy1 hx2 hy2 rfl]; rfl
        rcases betw_four hm with rfl | rfl | rfl | rfl
        · obtain rfl : ms = [x1, y1] := HM.out.symm.trans (by rw [mask_val hx1 hy1 hx2 hy2 hm]; rfl)
          have EM : Hid (maskL [x1, y1] [x2, y2] 0 = [x1, y1]) := by unfold Hid; rw [mask_val hx1 hy1 hx2 hy2 hm]; rfl
          obtain ⟨p0, p1, -, -⟩ := owni_cells K.o3
          obtain ⟨q0, q1, -, -⟩ := owni_cells K.o4
          obtain ⟨r0, r1, -, -⟩ := owni_cells K.o5
          go_wp2_with fail
          refine wp_loop_rounds 3 ?_
          rw [rounds_succ]
          go_wp2_with fail
          rw [rounds_succ]
          go_wp2_with fail
          rw [rounds_succ]
          go_wp2_with fail
          refine (implMasked_any _ _ [x1, y1] [x2, y2] _ _ _ _ (reads_owni K.o3) (reads_owni K.o4)).mono ?_
          rintro e w20 ⟨v, rfl, g20, c20, rfl, _, _, o20, b20⟩
          replace K := K.below b20
          rw [E0.out] at o20
          rw [E0.out]
          clear p0 p1 q0 q1 r0 r1 b20
          go_wp2_with fail
          refine (likeInts_any _ _ [x1, y1] _ _ _ (reads_owni o20) (reads_owni K.o3) (by simp)).mono ?_
          rintro e w21 ⟨rfl, n21, rfl⟩
          replace K := K.drew n21
          clear o20
          generalize w20.drewN n21 = w21 at K ⊢
          go_wp2_with fail
          refine (implMasked_any _ _ [x1, y1] [x2, y2] _ _ _ _ (reads_owni K.o3) (reads_owni K.o4)).mono ?_
          rintro e w22 ⟨v, rfl, g22, c22, rfl, _, _, o22, b22⟩
          replace K := K.below b22
          rw [E3.out] at o22
          rw [E3.out]
          clear b22
          go_wp2_with fail
          refine (likeInts_any _ _ [x2, y2] _ _ _ (reads_owni o22) (reads_owni K.o4) (by simp)).mono ?_
          rintro e w23 ⟨rfl, n23, rfl⟩
          replace K := K.drew n23
          clear o22
          generalize w22.drewN n23 = w23 at K ⊢
          go_wp2_with fail
          refine (implMasked_any _ _ [x1, y1] [x2, y2] _ _ _ _ (reads_owni K.o5) (reads_owni K.o4)).mono ?_
          rintro e w24 ⟨v, rfl, g24, c24, rfl, _, _, o24, b24⟩
          replace K := K.below b24
          rw [EM.out] at o24
          rw [EM.out]
          clear b24
          go_wp2_with fail
          refine (likeInts_any _ _ [x1, y1] _ _ _ (reads_owni o24) (reads_owni K.o5) (by simp)).mono ?_
          rintro e w25 ⟨rfl, n25, rfl⟩
          replace K := K.drew n25
          go_wp2
          go_ret
          exact ⟨rfl, K.bel⟩
        · obtain rfl : ms = [x2, y1] := HM.out.symm.trans (by rw [mask_val hx1 hy1 hx2 hy2 hm]; rfl)
          have EM : Hid (maskL [x2, y1] [x2, y2] 1 = [x2, y1]) := by unfold Hid; rw [mask_val hx2 hy1 hx2 hy2 hm]; rfl
          obtain ⟨p0, p1, -, -⟩ := owni_cells K.o3
          obtain ⟨q0, q1, -, -⟩ := owni_cells K.o4
          obtain ⟨r0, r1, -, -⟩ := owni_cells K.o5
          go_wp2_with fail
          refine wp_loop_rounds 3 ?_
          rw [rounds_succ]
          go_wp2_with fail
          rw [rounds_succ]
          go_wp2_with fail
          rw [rounds_succ]
          go_wp2_with fail
          refine (implMasked_any _ _ [x1, y1] [x2, y2] _ _ _ _ (reads_owni K.o3) (reads_owni K.o4)).mono ?_
          rintro e w20 ⟨v, rfl, g20, c20, rfl, _, _, o20, b20⟩
          replace K := K.below b20
          rw [E0.out] at o20
          rw [E0.out]
          clear p0 p1 q0 q1 r0 r1 b20
          go_wp2_with fail
          refine (likeInts_any _ _ [x1, y1] _ _ _ (reads_owni o20) (reads_owni K.o3) (by simp)).mono ?_
          rintro e w21 ⟨rfl, n21, rfl⟩
          replace K := K.drew n21
          clear o20
          generalize w20.drewN n21 = w21 at K ⊢
          go_wp2_with fail
          refine (implMasked_any _ _ [x1, y1] [x2, y2] _ _ _ _ (reads_owni K.o3) (reads_owni K.o4)).mono ?_
          rintro e w22 ⟨v, rfl, g22, c22, rfl, _, _, o22, b22⟩
          replace K := K.below b22
          rw [E3.out] at o22
          rw [E3.out]
          clear b22
          go_wp2_with fail
          refine (likeInts_any _ _ [x2, y2] _ _ _ (reads_owni o22) (reads_owni K.o4) (by simp)).mono ?_
          rintro e w23 ⟨rfl, n23, rfl⟩
          replace K := K.drew n23
          clear o22
          generalize w22.drewN n23 = w23 at K ⊢
          go_wp2_with fail
          refine (implMasked_any _ _ [x2, y1] [x2, y2] _ _ _ _ (reads_owni K.o5) (reads_owni K.o4)).mono ?_
          rintro e w24 ⟨v, rfl, g24, c24, rfl, _, _, o24, b24⟩
          replace K := K.below b24
          rw [EM.out] at o24
          rw [EM.out]
          clear b24
          go_wp2_with fail
          refine (likeInts_any _ _ [x2, y1] _ _ _ (reads_owni o24) (reads_owni K.o5) (by simp)).mono ?_
          rintro e w25 ⟨rfl, n25, rfl⟩
          replace K := K.drew n25
          go_wp2
          go_ret
          exact ⟨rfl, K.bel⟩
        · obtain rfl : ms = [x1, y2] := HM.out.symm.trans (by rw [mask_val hx1 hy1 hx2 hy2 hm]; rfl)
          have EM : Hid (maskL [x1, y2] [x2, y2] 2 = [x1, y2]) := by unfold Hid; rw [mask_val hx1 hy2 hx2 hy2 hm]; rfl
          obtain ⟨p0, p1, -, -⟩ := owni_cells K.o3
          obtain ⟨q0, q1, -, -⟩ := owni_cells K.o4
          obtain ⟨r0, r1, -, -⟩ := owni_cells K.o5
          go_wp2_with fail
          refine wp_loop_rounds 3 ?_
          rw [rounds_succ]
          go_wp2_with fail
          rw [rounds_succ]
          go_wp2_with fail
          rw [rounds_succ]
          go_wp2_with fail
          refine (implMasked_any _ _ [x1, y1] [x2, y2] _ _ _ _ (reads_owni K.o3) (reads_owni K.o4)).mono ?_
          rintro e w20 ⟨v, rfl, g20, c20, rfl, _, _, o20, b20⟩
          replace K := K.below b20
          rw [E0.out] at o20
          rw [E0.out]
          clear p0 p1 q0 q1 r0 r1 b20
          go_wp2_with fail
          refine (likeInts_any _ _ [x1, y1] _ _ _ (reads_owni o20) (reads_owni K.o3) (by simp)).mono ?_
          rintro e w21 ⟨rfl, n21, rfl⟩
          replace K := K.drew n21
          clear o20
          generalize w20.drewN n21 = w21 at K ⊢
          go_wp2_with fail
          refine (implMasked_any _ _ [x1, y1] [x2, y2] _ _ _ _ (reads_owni K.o3) (reads_owni K.o4)).mono ?_
          rintro e w22 ⟨v, rfl, g22, c22, rfl, _, _, o22, b22⟩
          replace K := K.below b22
          rw [E3.out] at o22
          rw [E3.out]
          clear b22
          go_wp2_with fail
          refine (likeInts_any _ _ [x2, y2] _ _ _ (reads_owni o22) (reads_owni K.o4) (by simp)).mono ?_
          rintro e w23 ⟨rfl, n23, rfl⟩
          replace K := K.drew n23
          clear o22
          generalize w22.drewN n23 = w23 at K ⊢
          go_wp2_with fail
          refine (implMasked_any _ _ [x1, y2] [x2, y2] _ _ _ _ (reads_owni K.o5) (reads_owni K.o4)).mono ?_
          rintro e w24 ⟨v, rfl, g24, c24, rfl, _, _, o24, b24⟩
          replace K := K.below b24
          rw [EM.out] at o24
          rw [EM.out]
          clear b24
          go_wp2_with fail
          refine (likeInts_any _ _ [x1, y2] _ _ _ (reads_owni o24) (reads_owni K.o5) (by simp)).mono ?_
          rintro e w25 ⟨rfl, n25, rfl⟩
          replace K := K.drew n25
          go_wp2
          go_ret
          exact ⟨rfl, K.bel⟩
        · obtain rfl : ms = [x2, y2] := HM.out.symm.trans (by rw [mask_val hx1 hy1 hx2 hy2 hm]; rfl)
          have EM : Hid (maskL [x2, y2] [x2, y2] 3 = [x2, y2]) := by unfold Hid; rw [mask_val hx2 hy2 hx2 hy2 hm]; rfl
          obtain ⟨p0, p1, -, -⟩ := owni_cells K.o3
          obtain ⟨q0, q1, -, -⟩ := owni_cells K.o4
          obtain ⟨r0, r1, -, -⟩ := owni_cells K.o5
          go_wp2_with fail
          refine wp_loop_rounds 3 ?_
          rw [rounds_succ]
          go_wp2_with fail
          rw [rounds_succ]
          go_wp2_with fail
          rw [rounds_succ]
          go_wp2_with fail
          refine (implMasked_any _ _ [x1, y1] [x2, y2] _ _ _ _ (reads_owni K.o3) (reads_owni K.o4)).mono ?_
          rintro e w20 ⟨v, rfl, g20, c20, rfl, _, _, o20, b20⟩
          replace K := K.below b20
          rw [E0.out] at o20
          rw [E0.out]
          clear p0 p1 q0 q1 r0 r1 b20
          go_wp2_with fail
          refine (likeInts_any _ _ [x1, y1] _ _ _ (reads_owni o20) (reads_owni K.o3) (by simp)).mono ?_
          rintro e w21 ⟨rfl, n21, rfl⟩
          replace K := K.drew n21
          clear o20
          generalize w20.drewN n21 = w21 at K ⊢
          go_wp2_with fail
          refine (implMasked_any _ _ [x1, y1] [x2, y2] _ _ _ _ (reads_owni K.o3) (reads_owni K.o4)).mono ?_
          rintro e w22 ⟨v, rfl, g22, c22, rfl, _, _, o22, b22⟩
          replace K := K.below b22
          rw [E3.out] at o22
          rw [E3.out]
          clear b22
          go_wp2_with fail
          refine (likeInts_any _ _ [x2, y2] _ _ _ (reads_owni o22) (reads_owni K.o4) (by simp)).mono ?_
          rintro e w23 ⟨rfl, n23, rfl⟩
          replace K := K.drew n23
          clear o22
          generalize w22.drewN n23 = w23 at K ⊢
          go_wp2_with fail
          refine (implMasked_any _ _ [x2, y2] [x2, y2] _ _ _ _ (reads_owni K.o5) (reads_owni K.o4)).mono ?_
          rintro e w24 ⟨v, rfl, g24, c24, rfl, _, _, o24, b24⟩
          replace K := K.below b24
          rw [EM.out] at o24
          rw [EM.out]
          clear b24
          go_wp2_with fail
          refine (likeInts_any _ _ [x2, y2] _ _ _ (reads_owni o24) (reads_owni K.o5) (by simp)).mono ?_
          rintro e w25 ⟨rfl, n25, rfl⟩
          replace K := K.drew n25
          go_wp2
          go_ret
          exact ⟨rfl, K.bel⟩
    · obtain rfl : ps = xs := HP.out.2.symm.trans (put_no HP.out.1 hl)
      clear HP
      go_wp2_with fail
      refine (specLineOk_any _ ps _ _ (reads_owni K.o1)).mono ?_
      rintro e w15 ⟨rfl, rfl⟩
      rw [hl]
      go_wp2_with fail
      refine (likeInts_any _ _ ps _ _ _ (reads_owni K.o2) (reads_owni K.o1) (by omega)).mono ?_
      rintro e w16 ⟨rfl, n16, rfl⟩
      replace K := K.drew n16
      generalize w15.drewN n16 = w16 at K ⊢
      by_cases hn : (isL ys && isL zs2 && betw m 0 3) = false
      · obtain rfl : ms = [] := HM.out.symm.trans (mask_not hn)
        go_wp2
        go_ret
        exact ⟨rfl, K.bel⟩
      · rcases isL_cases ys with h1 | ⟨x1, y1, rfl, hx1, hy1⟩
        · simp [h1] at hn
        rcases isL_cases zs2 with h1 | ⟨x2, y2, rfl, hx2, hy2⟩
        · simp [h1] at hn
        cases hm : betw m 0 3
        · simp [hm] at hn
        clear hn la lb lm
        have E0 : Hid (maskL [x1, y1] [x2, y2] 0 = [x1, y1]) := by unfold Hid; rw [mask_val hx1 hy1 hx2 hy2 rfl]; rfl
        have E3 : Hid (maskL [x1, y1] [x2, y2] 3 = [x2, y2]) := by unfold Hid; rw [mask_val hx1 hy1 hx2 hy2 rfl]; rfl
        rcases betw_four hm with rfl | rfl | rfl | rfl
        · obtain rfl : ms = [x1, y1] := HM.out.symm.trans (by rw [mask_val hx1 hy1 hx2 hy2 hm]; rfl)
          have EM : Hid (maskL [x1, y1] [x2, y2] 0 = [x1, y1]) := by unfold Hid; rw [mask_val hx1 hy1 hx2 hy2 hm]; rfl
          obtain ⟨p0, p1, -, -⟩ := owni_cells K.o3
          obtain ⟨q0, q1, -, -⟩ := owni_cells K.o4
          obtain ⟨r0, r1, -, -⟩ := owni_cells K.o5
          go_wp2_with fail
          refine wp_loop_rounds 3 ?_
          rw [rounds_succ]
          go_wp2_with fail
          rw [rounds_succ]
          go_wp2_with fail
          rw [rounds_succ]
          go_wp2_with fail
          refine (implMasked_any _ _ [x1, y1] [x2, y2] _ _ _ _ (reads_owni K.o3) (reads_owni K.o4)).mono ?_
          rintro e w20 ⟨v, rfl, g20, c20, rfl, _, _, o20, b20⟩
          replace K := K.below b20
          rw [E0.out] at o20
          rw [E0.out]
          clear p0 p1 q0 q1 r0 r1 b20
          go_wp2_with fail
          refine (likeInts_any _ _ [x1, y1] _ _ _ (reads_owni o20) (reads_owni K.o3) (by simp)).mono ?_
          rintro e w21 ⟨rfl, n21, rfl⟩
          replace K := K.drew n21
          clear o20
          generalize w20.drewN n21 = w21 at K ⊢
          go_wp2_with fail
          refine (implMasked_any _ _ [x1, y1] [x2, y2] _ _ _ _ (reads_owni K.o3) (reads_owni K.o4)).mono ?_
          rintro e w22 ⟨v, rfl, g22, c22, rfl, _, _, o22, b22⟩
          replace K := K.below b22
          rw [E3.out] at o22
          rw [E3.out]
          clear b22
          go_wp2_with fail
          refine (likeInts_any _ _ [x2, y2] _ _ _ (reads_owni o22) (reads_owni K.o4) (by simp)).mono ?_
          rintro e w23 ⟨rfl, n23, rfl⟩
          replace K := K.drew n23
          clear o22
          generalize w22.drewN n23 = w23 at K ⊢
          go_wp2_with fail
          refine (implMasked_any _ _ [x1, y1] [x2, y2] _ _ _ _ (reads_owni K.o5) (reads_owni K.o4)).mono ?_
          rintro e w24 ⟨v, rfl, g24, c24, rfl, _, _, o24, b24⟩
          replace K := K.below b24
          rw [EM.out] at o24
          rw [EM.out]
          clear b24
          go_wp2_with fail
          refine (likeInts_any _ _ [x1, y1] _ _ _ (reads_owni o24) (reads_owni K.o5) (by simp)).mono ?_
          rintro e w25 ⟨rfl, n25, rfl⟩
          replace K := K.drew n25
          go_wp2
          go_ret
          exact ⟨rfl, K.bel⟩
        · obtain rfl : ms = [x2, y1] := HM.out.symm.trans (by rw [mask_val hx1 hy1 hx2 hy2 hm]; rfl)
          have EM : Hid (maskL [x2, y1] [x2, y2] 1 = [x2, y1]) := by unfold Hid; rw [mask_val hx2 hy1 hx2 hy2 hm]; rfl
          obtain ⟨p0, p1, -, -⟩ := owni_cells K.o3
          obtain ⟨q0, q1, -, -⟩ := owni_cells K.o4
          obtain ⟨r0, r1, -, -⟩ := owni_cells K.o5
          go_wp2_with fail
          refine wp_loop_rounds 3 ?_
          rw [rounds_succ]
          go_wp2_with fail
          rw [rounds_succ]
          go_wp2_with fail
          rw [rounds_succ]
          go_wp2_with fail
          refine (implMasked_any _ _ [x1, y1] [x2, y2] _ _ _ _ (reads_owni K.o3) (reads_owni K.o4)).mono ?_
          rintro e w20 ⟨v, rfl, g20, c20, rfl, _, _, o20, b20⟩
          replace K := K.below b20
          rw [E0.out] at o20
          rw [E0.out]
          clear p0 p1 q0 q1 r0 r1 b20
          go_wp2_with fail
          refine (likeInts_any _ _ [x1, y1] _ _ _ (reads_owni o20) (reads_owni K.o3) (by simp)).mono ?_
          rintro e w21 ⟨rfl, n21, rfl⟩
          replace K := K.drew n21
          clear o20
          generalize w20.drewN n21 = w21 at K ⊢
          go_wp2_with fail
          refine (implMasked_any _ _ [x1, y1] [x2, y2] _ _ _ _ (reads_owni K.o3) (reads_owni K.o4)).mono ?_
          rintro e w22 ⟨v, rfl, g22, c22, rfl, _, _, o22, b22⟩
          replace K := K.below b22
          rw [E3.out] at o22
          rw [E3.out]
          clear b22
          go_wp2_with fail
          refine (likeInts_any _ _ [x2, y2] _ _ _ (reads_owni o22) (reads_owni K.o4) (by simp)).mono ?_
          rintro e w23 ⟨rfl, n23, rfl⟩
          replace K := K.drew n23
          clear o22
          generalize w22.drewN n23 = w23 at K ⊢
          go_wp2_with fail
          refine (implMasked_any _ _ [x2, y1] [x2, y2] _ _ _ _ (reads_owni K.o5) (reads_owni K.o4)).mono ?_
          rintro e w24 ⟨v, rfl, g24, c24, rfl, _, _, o24, b24⟩
          replace K := K.below b24
          rw [EM.out] at o24
          rw [EM.out]
          clear b24
          go_wp2_with fail
          refine (likeInts_any _ _ [x2, y1] _ _ _ (reads_owni o24) (reads_owni K.o5) (by simp)).mono ?_
          rintro e w25 ⟨rfl, n25, rfl⟩
          replace K := K.drew n25
          go_wp2
          go_ret
          exact ⟨rfl, K.bel⟩
        · obtain rfl : ms = [x1, y2] := HM.out.symm.trans (by rw [mask_val hx1 hy1 hx2 hy2 hm]; rfl)
          have EM : Hid (maskL [x1, y2] [x2, y2] 2 = [x1, y2]) := by unfold Hid; rw [mask_val hx1 hy2 hx2 hy2 hm]; rfl
          obtain ⟨p0, p1, -, -⟩ := owni_cells K.o3
          obtain ⟨q0, q1, -, -⟩ := owni_cells K.o4
          obtain ⟨r0, r1, -, -⟩ := owni_cells K.o5
          go_wp2_with fail
          refine wp_loop_rounds 3 ?_
          rw [rounds_succ]
          go_wp2_with fail
          rw [rounds_succ]
          go_wp2_with fail
          rw [rounds_succ]
          go_wp2_with fail
          refine (implMasked_any _ _ [x1, y1] [x2, y2] _ _ _ _ (reads_owni K.o3) (reads_owni K.o4)).mono ?_
          rintro e w20 ⟨v, rfl, g20, c20, rfl, _, _, o20, b20⟩
          replace K := K.below b20
          rw [E0.out] at o20
          rw [E0.out]
          clear p0 p1 q0 q1 r0 r1 b20
          go_wp2_with fail
          refine (likeInts_any _ _ [x1, y1] _ _ _ (reads_owni o20) (reads_owni K.o3) (by simp)).mono ?_
          rintro e w21 ⟨rfl, n21, rfl⟩
          replace K := K.drew n21
          clear o20
          generalize w20.drewN n21 = w21 at K ⊢
          go_wp2_with fail
          refine (implMasked_any _ _ [x1, y1] [x2, y2] _ _ _ _ (reads_owni K.o3) (reads_owni K.o4)).mono ?_
          rintro e w22 ⟨v, rfl, g22, c22, rfl, _, _, o22, b22⟩
          replace K := K.below b22
          rw [E3.out] at o22
          rw [E3.out]
          clear b22
          go_wp2_with fail
          refine (likeInts_any _ _ [x2, y2] _ _ _ (reads_owni o22) (reads_owni K.o4) (by simp)).mono ?_
          rintro e w23 ⟨rfl, n23, rfl⟩
          replace K := K.drew n23
          clear o22
          generalize w22.drewN n23 = w23 at K ⊢
          go_wp2_with fail
          refine (implMasked_any _ _ [x1, y2] [x2, y2] _ _ _ _ (reads_owni K.o5) (reads_owni K.o4)).mono ?_
          rintro e w24 ⟨v, rfl, g24, c24, rfl, _, _, o24, b24⟩
          replace K := K.below b24
          rw [EM.out] at o24
          rw [EM.out]
          clear b24
          go_wp2_with fail
          refine (likeInts_any _ _ [x1, y2] _ _ _ (reads_owni o24) (reads_owni K.o5) (by simp)).mono ?_
          rintro e w25 ⟨rfl, n25, rfl⟩
          replace K := K.drew n25
          go_wp2
          go_ret
          exact ⟨rfl, K.bel⟩
        · obtain rfl : ms = [x2, y2] := HM.out.symm.trans (by rw [mask_val hx1 hy1 hx2 hy2 hm]; rfl)
          have EM : Hid (maskL [x2, y2] [x2, y2] 3 = [x2, y2]) := by unfold Hid; rw [mask_val hx2 hy2 hx2 hy2 hm]; rfl
          obtain ⟨p0, p1, -, -⟩ := owni_cells K.o3
          obtain ⟨q0, q1, -, -⟩ := owni_cells K.o4
          obtain ⟨r0, r1, -, -⟩ := owni_cells K.o5
          go_wp2_with fail
          refine wp_loop_rounds 3 ?_
          rw [rounds_succ]
          go_wp2_with fail
          rw [rounds_succ]
          go_wp2_with fail
          rw [rounds_succ]
          go_wp2_with fail
          refine (implMasked_any _ _ [x1, y1] [x2, y2] _ _ _ _ (reads_owni K.o3) (reads_owni K.o4)).mono ?_
          rintro e w20 ⟨v, rfl, g20, c20, rfl, _, _, o20, b20⟩
          replace K := K.below b20
          rw [E0.out] at o20
          rw [E0.out]
          clear p0 p1 q0 q1 r0 r1 b20
          go_wp2_with fail
          refine (likeInts_any _ _ [x1, y1] _ _ _ (reads_owni o20) (reads_owni K.o3) (by simp)).mono ?_
          rintro e w21 ⟨rfl, n21, rfl⟩
          replace K := K.drew n21
          clear o20
          generalize w20.drewN n21 = w21 at K ⊢
          go_wp2_with fail
          refine (implMasked_any _ _ [x1, y1] [x2, y2] _ _ _ _ (reads_owni K.o3) (reads_owni K.o4)).mono ?_
          rintro e w22 ⟨v, rfl, g22, c22, rfl, _, _, o22, b22⟩
          replace K := K.below b22
          rw [E3.out] at o22
          rw [E3.out]
          clear b22
          go_wp2_with fail
          refine (likeInts_any _ _ [x2, y2] _ _ _ (reads_owni o22) (reads_owni K.o4) (by simp)).mono ?_
          rintro e w23 ⟨rfl, n23, rfl⟩
          replace K := K.drew n23
          clear o22
          generalize w22.drewN n23 = w23 at K ⊢
          go_wp2_with fail
          refine (implMasked_any _ _ [x2, y2] [x2, y2] _ _ _ _ (reads_owni K.o5) (reads_owni K.o4)).mono ?_
          rintro e w24 ⟨v, rfl, g24, c24, rfl, _, _, o24, b24⟩
          replace K := K.below b24
          rw [EM.out] at o24
          rw [EM.out]
          clear b24
          go_wp2_with fail
          refine (likeInts_any _ _ [x2, y2] _ _ _ (reads_owni o24) (reads_owni K.o5) (by simp)).mono ?_
          rintro e w25 ⟨rfl, n25, rfl⟩
          replace K := K.drew n25
          go_wp2
          go_ret
          exact ⟨rfl, K.bel⟩
  · obtain ⟨x, y, rfl, hx, hy, hu, ⟨rfl, ep⟩ | ⟨rfl, ep⟩⟩ := put_yes HP.out.1
    · obtain rfl : ps = [u, y] := HP.out.2.symm.trans ep
      go_wp2_with fail
      refine (implWordAt_any _ [u, y] _ _ _ (reads_owni K.o2)).mono ?_
      rintro e w15 ⟨rfl, b15⟩
      replace K := K.below b15
      rw [word0 hu hy]
      clear b15
      go_wp2_with fail
      refine (implWordAt_any _ [u, y] _ _ _ (reads_owni K.o2)).mono ?_
      rintro e w16 ⟨rfl, b16⟩
      replace K := K.below b16
      rw [word1 hu hy]
      clear b16
      go_wp2_with fail
      refine (implWordAt_any _ [x, y] _ _ _ (reads_owni K.o1)).mono ?_
      rintro e w17 ⟨rfl, b17⟩
      replace K := K.below b17
      rw [word1 hx hy]
      clear b17
      go_wp2_with fail
      refine (implLineOk_any _ [u, y] _ _ (reads_owni K.o2)).mono ?_
      rintro e w18 ⟨rfl, b18⟩
      replace K := K.below b18
      rw [isL_yes hu hy]
      clear b18
      by_cases hn : (isL ys && isL zs2 && betw m 0 3) = false
      · obtain rfl : ms = [] := HM.out.symm.trans (mask_not hn)
        go_wp2
        go_ret
        exact ⟨rfl, K.bel⟩
      · rcases isL_cases ys with h1 | ⟨x1, y1, rfl, hx1, hy1⟩
        · simp [h1] at hn
        rcases isL_cases zs2 with h1 | ⟨x2, y2, rfl, hx2, hy2⟩
        · simp [h1] at hn
        cases hm : betw m 0 3
        · simp [hm] at hn
        clear hn la lb lm
        have E0 : Hid (maskL [x1, y1] [x2, y2] 0 = [x1, y1]) := by unfold Hid; rw [mask_val hx1 hy1 hx2 hy2 rfl]; rfl
        have E3 : Hid (maskL [x1, y1] [x2, y2] 3 = [x2, y2]) := by unfold Hid; rw [mask_val hx1 hy1 hx2 hy2 rfl]; rfl
        rcases betw_four hm with rfl | rfl | rfl | rfl
        · obtain rfl : ms = [x1, y1] := HM.out.symm.trans (by rw [mask_val hx1 hy1 hx2 hy2 hm]; rfl)
          have EM : Hid (maskL [x1, y1] [x2, y2] 0 = [x1, y1]) := by unfold Hid; rw [mask_val hx1 hy1 hx2 hy2 hm]; rfl
          obtain ⟨p0, p1, -, -⟩ := owni_cells K.o3
          obtain ⟨q0, q1, -, -⟩ := owni_cells K.o4
          obtain ⟨r0, r1, -, -⟩ := owni_cells K.o5
          go_wp2_with fail
          refine wp_loop_rounds 3 ?_
          rw [rounds_succ]
          go_wp2_with fail
          rw [rounds_succ]
          go_wp2_with fail
          rw [rounds_succ]
          go_wp2_with fail
          refine (implMasked_any _ _ [x1, y1] [x2, y2] _ _ _ _ (reads_owni K.o3) (reads_owni K.o4)).mono ?_
          rintro e w20 ⟨v, rfl, g20, c20, rfl, _, _, o20, b20⟩
          replace K := K.below b20
          rw [E0.out] at o20
          rw [E0.out]
          clear p0 p1 q0 q1 r0 r1 b20
          go_wp2_with fail
          refine (likeInts_any _ _ [x1, y1] _ _ _ (reads_owni o20) (reads_owni K.o3) (by simp)).mono ?_
          rintro e w21 ⟨rfl, n21, rfl⟩
          replace K := K.drew n21
          clear o20
          generalize w20.drewN n21 = w21 at K ⊢
          go_wp2_with fail
          refine (implMasked_any _ _ [x1, y1] [x2, y2] _ _ _ _ (reads_owni K.o3) (reads_owni K.o4)).mono ?_
          rintro e w22 ⟨v, rfl, g22, c22, rfl, _, _, o22, b22⟩
          replace K := K.below b22
          rw [E3.out] at o22
          rw [E3.out]
          clear b22
          go_wp2_with fail
          refine (likeInts_any _ _ [x2, y2] _ _ _ (reads_owni o22) (reads_owni K.o4) (by simp)).mono ?_
          rintro e w23 ⟨rfl, n23, rfl⟩
          replace K := K.drew n23
          clear o22
          generalize w22.drewN n23 = w23 at K ⊢
          go_wp2_with fail
          refine (implMasked_any _ _ [x1, y1] [x2, y2] _ _ _ _ (reads_owni K.o5) (reads_owni K.o4)).mono ?_
          rintro e w24 ⟨v, rfl, g24, c24, rfl, _, _, o24, b24⟩
          replace K := K.below b24
          rw [EM.out] at o24
          rw [EM.out]
          clear b24
          go_wp2_with fail
          refine (likeInts_any _ _ [x1, y1] _ _ _ (reads_owni o24) (reads_owni K.o5) (by simp)).mono ?_
          rintro e w25 ⟨rfl, n25, rfl⟩
          replace K := K.drew n25
          go_wp2
          go_ret
          exact ⟨rfl, K.bel⟩
        · obtain rfl : ms = [x2, y1] := HM.out.symm.trans (by rw [mask_val hx1 hy1 hx2 hy2 hm]; rfl)
          have EM : Hid (maskL [x2, y1] [x2, y2] 1 = [x2, y1]) := by unfold Hid; rw [mask_val hx2 hy1 hx2 hy2 hm]; rfl
          obtain ⟨p0, p1, -, -⟩ := owni_cells K.o3
          obtain ⟨q0, q1, -, -⟩ := owni_cells K.o4
          obtain ⟨r0, r1, -, -⟩ := owni_cells K.o5
          go_wp2_with fail
          refine wp_loop_rounds 3 ?_
          rw [rounds_succ]
          go_wp2_with fail
          rw [rounds_succ]
          go_wp2_with fail
          rw [rounds_succ]
          go_wp2_with fail
          refine (implMasked_any _ _ [x1, y1] [x2, y2] _ _ _ _ (reads_owni K.o3) (reads_owni K.o4)).mono ?_
          rintro e w20 ⟨v, rfl, g20, c20, rfl, _, _, o20, b20⟩
          replace K := K.below b20
          rw [E0.out] at o20
          rw [E0.out]
          clear p0 p1 q0 q1 r0 r1 b20
          go_wp2_with fail
          refine (likeInts_any _ _ [x1, y1] _ _ _ (reads_owni o20) (reads_owni K.o3) (by simp)).mono ?_
          rintro e w21 ⟨rfl, n21, rfl⟩
          replace K := K.drew n21
          clear o20
          generalize w20.drewN n21 = w21 at K ⊢
          go_wp2_with fail
          refine (implMasked_any _ _ [x1, y1] [x2, y2] _ _ _ _ (reads_owni K.o3) (reads_owni K.o4)).mono ?_
          rintro e w22 ⟨v, rfl, g22, c22, rfl, _, _, o22, b22⟩
          replace K := K.below b22
          rw [E3.out] at o22
          rw [E3.out]
          clear b22
          go_wp2_with fail
          refine (likeInts_any _ _ [x2, y2] _ _ _ (reads_owni o22) (reads_owni K.o4) (by simp)).mono ?_
          rintro e w23 ⟨rfl, n23, rfl⟩
          replace K := K.drew n23
          clear o22
          generalize w22.drewN n23 = w23 at K ⊢
          go_wp2_with fail
          refine (implMasked_any _ _ [x2, y1] [x2, y2] _ _ _ _ (reads_owni K.o5) (reads_owni K.o4)).mono ?_
          rintro e w24 ⟨v, rfl, g24, c24, rfl, _, _, o24, b24⟩
          replace K := K.below b24
          rw [EM.out] at o24
          rw [EM.out]
          clear b24
          go_wp2_with fail
          refine (likeInts_any _ _ [x2, y1] _ _ _ (reads_owni o24) (reads_owni K.o5) (by simp)).mono ?_
          rintro e w25 ⟨rfl, n25, rfl⟩
          replace K := K.drew n25
          go_wp2
          go_ret
          exact ⟨rfl, K.bel⟩
        · obtain rfl : ms = [x1, y2] := HM.out.symm.trans (by rw [mask_val hx1 hy1 hx2 hy2 hm]; rfl)
          have EM : Hid (maskL [x1, y2] [x2, y2] 2 = [x1, y2]) := by unfold Hid; rw [mask_val hx1 hy2 hx2 hy2 hm]; rfl
          obtain ⟨p0, p1, -, -⟩ := owni_cells K.o3
          obtain ⟨q0, q1, -, -⟩ := owni_cells K.o4
          obtain ⟨r0, r1, -, -⟩ := owni_cells K.o5
          go_wp2_with fail
          refine wp_loop_rounds 3 ?_
          rw [rounds_succ]
          go_wp2_with fail
          rw [rounds_succ]
          go_wp2_with fail
          rw [rounds_succ]
          go_wp2_with fail
          refine (implMasked_any _ _ [x1, y1] [x2, y2] _ _ _ _ (reads_owni K.o3) (reads_owni K.o4)).mono ?_
          rintro e w20 ⟨v, rfl, g20, c20, rfl, _, _, o20, b20⟩
          replace K := K.below b20
          rw [E0.out] at o20
          rw [E0.out]
          clear p0 p1 q0 q1 r0 r1 b20
          go_wp2_with fail
          refine (likeInts_any _ _ [x1, y1] _ _ _ (reads_owni o20) (reads_owni K.o3) (by simp)).mono ?_
          rintro e w21 ⟨rfl, n21, rfl⟩
          replace K := K.drew n21
          clear o20
          generalize w20.drewN n21 = w21 at K ⊢
          go_wp2_with fail
          refine (implMasked_any _ _ [x1, y1] [x2, y2] _ _ _ _ (reads_owni K.o3) (reads_owni K.o4)).mono ?_
          rintro e w22 ⟨v, rfl, g22, c22, rfl, _, _, o22, b22⟩
          replace K := K.below b22
          rw [E3.out] at o22
          rw [E3.out]
          clear b22
          go_wp2_with fail
          refine (likeInts_any _ _ [x2, y2] _ _ _ (reads_owni o22) (reads_owni K.o4) (by simp)).mono ?_
          rintro e w23 ⟨rfl, n23, rfl⟩
          replace K := K.drew n23
          clear o22
          generalize w22.drewN n23 = w23 at K ⊢
          go_wp2_with fail
          refine (implMasked_any _ _ [x1, y2] [x2, y2] _ _ _ _ (reads_owni K.o5) (reads_owni K.o4)).mono ?_
          rintro e w24 ⟨v, rfl, g24, c24, rfl, _, _, o24, b24⟩
          replace K := K.below b24
          rw [EM.out] at o24
          rw [EM.out]
          clear b24
          go_wp2_with fail
          refine (likeInts_any _ _ [x1, y2] _ _ _ (reads_owni o24) (reads_owni K.o5) (by simp)).mono ?_
          rintro e w25 ⟨rfl, n25, rfl⟩
          replace K := K.drew n25
          go_wp2
          go_ret
          exact ⟨rfl, K.bel⟩
        · obtain rfl : ms = [x2, y2] := HM.out.symm.trans (by rw [mask_val hx1 hy1 hx2 hy2 hm]; rfl)
          have EM : Hid (maskL [x2, y2] [x2, y2] 3 = [x2, y2]) := by unfold Hid; rw [mask_val hx2 hy2 hx2 hy2 hm]; rfl
          obtain ⟨p0, p1, -, -⟩ := owni_cells K.o3
          obtain ⟨q0, q1, -, -⟩ := owni_cells K.o4
          obtain ⟨r0, r1, -, -⟩ := owni_cells K.o5
          go_wp2_with fail
          refine wp_loop_rounds 3 ?_
          rw [rounds_succ]
          go_wp2_with fail
          rw [rounds_succ]
          go_wp2_with fail
          rw [rounds_succ]
          go_wp2_with fail
          refine (implMasked_any _ _ [x1, y1] [x2, y2] _ _ _ _ (reads_owni K.o3) (reads_owni K.o4)).mono ?_
          rintro e w20 ⟨v, rfl, g20, c20, rfl, _, _, o20, b20⟩
          replace K := K.below b20
          rw [E0.out] at o20
          rw [E0.out]
          clear p0 p1 q0 q1 r0 r1 b20
          go_wp2_with fail
          refine (likeInts_any _ _ [x1, y1] _ _ _ (reads_owni o20) (reads_owni K.o3) (by simp)).mono ?_
          rintro e w21 ⟨rfl, n21, rfl⟩
          replace K := K.drew n21
          clear o20
          generalize w20.drewN n21 = w21 at K ⊢
          go_wp2_with fail
          refine (implMasked_any _ _ [x1, y1] [x2, y2] _ _ _ _ (reads_owni K.o3) (reads_owni K.o4)).mono ?_
          rintro e w22 ⟨v, rfl, g22, c22, rfl, _, _, o22, b22⟩
          replace K := K.below b22
          rw [E3.out] at o22
          rw [E3.out]
          clear b22
          go_wp2_with fail
          refine (likeInts_any _ _ [x2, y2] _ _ _ (reads_owni o22) (reads_owni K.o4) (by simp)).mono ?_
          rintro e w23 ⟨rfl, n23, rfl⟩
          replace K := K.drew n23
          clear o22
          generalize w22.drewN n23 = w23 at K ⊢
          go_wp2_with fail
          refine (implMasked_any _ _ [x2, y2] [x2, y2] _ _ _ _ (reads_owni K.o5) (reads_owni K.o4)).mono ?_
          rintro e w24 ⟨v, rfl, g24, c24, rfl, _, _, o24, b24⟩
          replace K := K.below b24
          rw [EM.out] at o24
          rw [EM.out]
          clear b24
          go_wp2_with fail
          refine (likeInts_any _ _ [x2, y2] _ _ _ (reads_owni o24) (reads_owni K.o5) (by simp)).mono ?_
          rintro e w25 ⟨rfl, n25, rfl⟩
          replace K := K.drew n25
          go_wp2
          go_ret
          exact ⟨rfl, K.bel⟩
    · obtain rfl : ps = [x, u] := HP.out.2.symm.trans ep
      go_wp2_with fail
      refine (implWordAt_any _ [x, u] _ _ _ (reads_owni K.o2)).mono ?_
      rintro e w15 ⟨rfl, b15⟩
      replace K := K.below b15
      rw [word1 hx hu]
      clear b15
      go_wp2_with fail
      refine (implWordAt_any _ [x, u] _ _ _ (reads_owni K.o2)).mono ?_
      rintro e w16 ⟨rfl, b16⟩
      replace K := K.below b16
      rw [word0 hx hu]
      clear b16
      go_wp2_with fail
      refine (implWordAt_any _ [x, y] _ _ _ (reads_owni K.o1)).mono ?_
      rintro e w17 ⟨rfl, b17⟩
      replace K := K.below b17
      rw [word0 hx hy]
      clear b17
      go_wp2_with fail
      refine (implLineOk_any _ [x, u] _ _ (reads_owni K.o2)).mono ?_
      rintro e w18 ⟨rfl, b18⟩
      replace K := K.below b18
      rw [isL_yes hx hu]
      clear b18
      by_cases hn : (isL ys && isL zs2 && betw m 0 3) = false
      · obtain rfl : ms = [] := HM.out.symm.trans (mask_not hn)
        go_wp2
        go_ret
        exact ⟨rfl, K.bel⟩
      · rcases isL_cases ys with h1 | ⟨x1, y1, rfl, hx1, hy1⟩
        · simp [h1] at hn
        rcases isL_cases zs2 with h1 | ⟨x2, y2, rfl, hx2, hy2⟩
        · simp [h1] at hn
        cases hm : betw m 0 3
        · simp [hm] at hn
        clear hn la lb lm
        have E0 : Hid (maskL [x1, y1] [x2, y2] 0 = [x1, y1]) := by unfold Hid; rw [mask_val hx1 hy1 hx2 hy2 rfl]; rfl
        have E3 : Hid (maskL [x1, y1] [x2, y2] 3 = [x2, y2]) := by unfold Hid; rw [mask_val hx1 hy1 hx2 hy2 rfl]; rfl
        rcases betw_four hm with rfl | rfl | rfl | rfl
        · obtain rfl : ms = [x1, y1] := HM.out.symm.trans (by rw [mask_val hx1 hy1 hx2 hy2 hm]; rfl)
          have EM : Hid (maskL [x1, y1] [x2, y2] 0 = [x1, y1]) := by unfold Hid; rw [mask_val hx1 hy1 hx2 hy2 hm]; rfl
          obtain ⟨p0, p1, -, -⟩ := owni_cells K.o3
          obtain ⟨q0, q1, -, -⟩ := owni_cells K.o4
          obtain ⟨r0, r1, -, -⟩ := owni_cells K.o5
          go_wp2_with fail
          refine wp_loop_rounds 3 ?_
          rw [rounds_succ]
          go_wp2_with fail
          rw [rounds_succ]
          go_wp2_with fail
          rw [rounds_succ]
          go_wp2_with fail
          refine (implMasked_any _ _ [x1, y1] [x2, y2] _ _ _ _ (reads_owni K.o3) (reads_owni K.o4)).mono ?_
          rintro e w20 ⟨v, rfl, g20, c20, rfl, _, _, o20, b20⟩
          replace K := K.below b20
          rw [E0.out] at o20
          rw [E0.out]
          clear p0 p1 q0 q1 r0 r1 b20
          go_wp2_with fail
          refine (likeInts_any _ _ [x1, y1] _ _ _ (reads_owni o20) (reads_owni K.o3) (by simp)).mono ?_
          rintro e w21 ⟨rfl, n21, rfl⟩
          replace K := K.drew n21
          clear o20
          generalize w20.drewN n21 = w21 at K ⊢
          go_wp2_with fail
          refine (implMasked_any _ _ [x1, y1] [x2, y2] _ _ _ _ (reads_owni K.o3) (reads_owni K.o4)).mono ?_
          rintro e w22 ⟨v, rfl, g22, c22, rfl, _, _, o22, b22⟩
          replace K := K.below b22
          rw [E3.out] at o22
          rw [E3.out]
          clear b22
          go_wp2_with fail
          refine (likeInts_any _ _ [x2, y2] _ _ _ (reads_owni o22) (reads_owni K.o4) (by simp)).mono ?_
          rintro e w23 ⟨rfl, n23, rfl⟩
          replace K := K.drew n23
          clear o22
          generalize w22.drewN n23 = w23 at K ⊢
          go_wp2_with fail
          refine (implMasked_any _ _ [x1, y1] [x2, y2] _ _ _ _ (reads_owni K.o5) (reads_owni K.o4)).mono ?_
          rintro e w24 ⟨v, rfl, g24, c24, rfl, _, _, o24, b24⟩
          replace K := K.below b24
          rw [EM.out] at o24
          rw [EM.out]
          clear b24
          go_wp2_with fail
          refine (likeInts_any _ _ [x1, y1] _ _ _ (reads_owni o24) (reads_owni K.o5) (by simp)).mono ?_
          rintro e w25 ⟨rfl, n25, rfl⟩
          replace K := K.drew n25
          go_wp2
          go_ret
          exact ⟨rfl, K.bel⟩
        · obtain rfl : ms = [x2, y1] := HM.out.symm.trans (by rw [mask_val hx1 hy1 hx2 hy2 hm]; rfl)
          have EM : Hid (maskL [x2, y1] [x2, y2] 1 = [x2, y1]) := by unfold Hid; rw [mask_val hx2 hy1 hx2 hy2 hm]; rfl
          obtain ⟨p0, p1, -, -⟩ := owni_cells K.o3
          obtain ⟨q0, q1, -, -⟩ := owni_cells K.o4
          obtain ⟨r0, r1, -, -⟩ := owni_cells K.o5
          go_wp2_with fail
          refine wp_loop_rounds 3 ?_
          rw [rounds_succ]
          go_wp2_with fail
          rw [rounds_succ]
          go_wp2_with fail
          rw [rounds_succ]
          go_wp2_with fail
          refine (implMasked_any _ _ [x1, y1] [x2, y2] _ _ _ _ (reads_owni K.o3) (reads_owni K.o4)).mono ?_
          rintro e w20 ⟨v, rfl, g20, c20, rfl, _, _, o20, b20⟩
          replace K := K.below b20
          rw [E0.out] at o20
          rw [E0.out]
          clear p0 p1 q0 q1 r0 r1 b20
          go_wp2_with fail
          refine (likeInts_any _ _ [x1, y1] _ _ _ (reads_owni o20) (reads_owni K.o3) (by simp)).mono ?_
          rintro e w21 ⟨rfl, n21, rfl⟩
          replace K := K.drew n21
          clear o20
          generalize w20.drewN n21 = w21 at K ⊢
          go_wp2_with fail
          refine (implMasked_any _ _ [x1, y1] [x2, y2] _ _ _ _ (reads_owni K.o3) (reads_owni K.o4)).mono ?_
          rintro e w22 ⟨v, rfl, g22, c22, rfl, _, _, o22, b22⟩
          replace K := K.below b22
          rw [E3.out] at o22
          rw [E3.out]
          clear b22
          go_wp2_with fail
          refine (likeInts_any _ _ [x2, y2] _ _ _ (reads_owni o22) (reads_owni K.o4) (by simp)).mono ?_
          rintro e w23 ⟨rfl, n23, rfl⟩
          replace K := K.drew n23
          clear o22
          generalize w22.drewN n23 = w23 at K ⊢
          go_wp2_with fail
          refine (implMasked_any _ _ [x2, y1] [x2, y2] _ _ _ _ (reads_owni K.o5) (reads_owni K.o4)).mono ?_
          rintro e w24 ⟨v, rfl, g24, c24, rfl, _, _, o24, b24⟩
          replace K := K.below b24
          rw [EM.out] at o24
          rw [EM.out]
          clear b24
          go_wp2_with fail
          refine (likeInts_any _ _ [x2, y1] _ _ _ (reads_owni o24) (reads_owni K.o5) (by simp)).mono ?_
          rintro e w25 ⟨rfl, n25, rfl⟩
          replace K := K.drew n25
          go_wp2
          go_ret
          exact ⟨rfl, K.bel⟩
        · obtain rfl : ms = [x1, y2] := HM.out.symm.trans (by rw [mask_val hx1 hy1 hx2 hy2 hm]; rfl)
          have EM : Hid (maskL [x1, y2] [x2, y2] 2 = [x1, y2]) := by unfold Hid; rw [mask_val hx1 hy2 hx2 hy2 hm]; rfl
          obtain ⟨p0, p1, -, -⟩ := owni_cells K.o3
          obtain ⟨q0, q1, -, -⟩ := owni_cells K.o4
          obtain ⟨r0, r1, -, -⟩ := owni_cells K.o5
          go_wp2_with fail
          refine wp_loop_rounds 3 ?_
          rw [rounds_succ]
          go_wp2_with fail
          rw [rounds_succ]
          go_wp2_with fail
          rw [rounds_succ]
          go_wp2_with fail
          refine (implMasked_any _ _ [x1, y1] [x2, y2] _ _ _ _ (reads_owni K.o3) (reads_owni K.o4)).mono ?_
          rintro e w20 ⟨v, rfl, g20, c20, rfl, _, _, o20, b20⟩
          replace K := K.below b20
          rw [E0.out] at o20
          rw [E0.out]
          clear p0 p1 q0 q1 r0 r1 b20
          go_wp2_with fail
          refine (likeInts_any _ _ [x1, y1] _ _ _ (reads_owni o20) (reads_owni K.o3) (by simp)).mono ?_
          rintro e w21 ⟨rfl, n21, rfl⟩
          replace K := K.drew n21
          clear o20
          generalize w20.drewN n21 = w21 at K ⊢
          go_wp2_with fail
          refine (implMasked_any _ _ [x1, y1] [x2, y2] _ _ _ _ (reads_owni K.o3) (reads_owni K.o4)).mono ?_
          rintro e w22 ⟨v, rfl, g22, c22, rfl, _, _, o22, b22⟩
          replace K := K.below b22
          rw [E3.out] at o22
          rw [E3.out]
          clear b22
          go_wp2_with fail
          refine (likeInts_any _ _ [x2, y2] _ _ _ (reads_owni o22) (reads_owni K.o4) (by simp)).mono ?_
          rintro e w23 ⟨rfl, n23, rfl⟩
          replace K := K.drew n23
          clear o22
          generalize w22.drewN n23 = w23 at K ⊢
          go_wp2_with fail
          refine (implMasked_any _ _ [x1, y2] [x2, y2] _ _ _ _ (reads_owni K.o5) (reads_owni K.o4)).mono ?_
          rintro e w24 ⟨v, rfl, g24, c24, rfl, _, _, o24, b24⟩
          replace K := K.below b24
          rw [EM.out] at o24
          rw [EM.out]
          clear b24
          go_wp2_with fail
          refine (likeInts_any _ _ [x1, y2] _ _ _ (reads_owni o24) (reads_owni K.o5) (by simp)).mono ?_
          rintro e w25 ⟨rfl, n25, rfl⟩
          replace K := K.drew n25
          go_wp2
          go_ret
          exact ⟨rfl, K.bel⟩
        · obtain rfl : ms = [x2, y2] := HM.out.symm.trans (by rw [mask_val hx1 hy1 hx2 hy2 hm]; rfl)
          have EM : Hid (maskL [x2, y2] [x2, y2] 3 = [x2, y2]) := by unfold Hid; rw [mask_val hx2 hy2 hx2 hy2 hm]; rfl
          obtain ⟨p0, p1, -, -⟩ := owni_cells K.o3
          obtain ⟨q0, q1, -, -⟩ := owni_cells K.o4
          obtain ⟨r0, r1, -, -⟩ := owni_cells K.o5
          go_wp2_with fail
          refine wp_loop_rounds 3 ?_
          rw [rounds_succ]
          go_wp2_with fail
          rw [rounds_succ]
          go_wp2_with fail
          rw [rounds_succ]
          go_wp2_with fail
          refine (implMasked_any _ _ [x1, y1] [x2, y2] _ _ _ _ (reads_owni K.o3) (reads_owni K.o4)).mono ?_
          rintro e w20 ⟨v, rfl, g20, c20, rfl, _, _, o20, b20⟩
          replace K := K.below b20
          rw [E0.out] at o20
          rw [E0.out]
          clear p0 p1 q0 q1 r0 r1 b20
          go_wp2_with fail
          refine (likeInts_any _ _ [x1, y1] _ _ _ (reads_owni o20) (reads_owni K.o3) (by simp)).mono ?_
          rintro e w21 ⟨rfl, n21, rfl⟩
          replace K := K.drew n21
          clear o20
          generalize w20.drewN n21 = w21 at K ⊢
          go_wp2_with fail
          refine (implMasked_any _ _ [x1, y1] [x2, y2] _ _ _ _ (reads_owni K.o3) (reads_owni K.o4)).mono ?_
          rintro e w22 ⟨v, rfl, g22, c22, rfl, _, _, o22, b22⟩
          replace K := K.below b22
          rw [E3.out] at o22
          rw [E3.out]
          clear b22
          go_wp2_with fail
          refine (likeInts_any _ _ [x2, y2] _ _ _ (reads_owni o22) (reads_owni K.o4) (by simp)).mono ?_
          rintro e w23 ⟨rfl, n23, rfl⟩
          replace K := K.drew n23
          clear o22
          generalize w22.drewN n23 = w23 at K ⊢
          go_wp2_with fail
          refine (implMasked_any _ _ [x2, y2] [x2, y2] _ _ _ _ (reads_owni K.o5) (reads_owni K.o4)).mono ?_
          rintro e w24 ⟨v, rfl, g24, c24, rfl, _, _, o24, b24⟩
          replace K := K.below b24
          rw [EM.out] at o24
          rw [EM.out]
          clear b24
          go_wp2_with fail
          refine (likeInts_any _ _ [x2, y2] _ _ _ (reads_owni o24) (reads_owni K.o5) (by simp)).mono ?_
          rintro e w25 ⟨rfl, n25, rfl⟩
          replace K := K.drew n25
          go_wp2
          go_ret
          exact ⟨rfl, K.bel⟩

end Go.Proofs.Ytkiakcmhcjiknaa
