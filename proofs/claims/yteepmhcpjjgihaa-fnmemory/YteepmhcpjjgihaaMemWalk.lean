/- The law FnMemory returns true at every code of at most 4096 bytes, and nothing that was there turns. -/
import Derived.Test.YteepmhcpjjgihaaMemFacts
namespace Go.Proofs.Yteepmhcpjjgihaa
open Go.ChangeShapes Go.WideShapes Go.ChangeAt Go.RowKit

set_option maxHeartbeats 4000000 in
set_option maxRecDepth 100000 in
theorem memory_law (a : Option Addr) (len cap : Nat) (zs : List Int) (w : World) (hr : Row8 w a len zs) (hs : len ≤ 4096) :
    Calls Try.prog 3 #[.slice a len cap] w fun e w' => e = .returned (.bool true) ∧ Below w.heap.size w w' := by
  have hbig : decide ((4096 : Int) < len) = false := by simp; omega
  go_enter Try.func3, Try.ntmps3
  go_wp2_with fail
  refine (big_any _ _ _ _).mono ?_
  rintro e w0 ⟨rfl, rfl⟩
  go_wp2_with fail
  refine (drawWriteLine_any _ _ _ zs _ hr).mono ?_
  rintro e w1 ⟨GM, cM, xss, gL, cL, ys, line, mask, rfl, hl, ht, hly, rm, rl, B1⟩
  clear hbig
  go_wp2_with fail
  refine (implWriteLine_any _ _ xss ys _ _ _ _ _ rm rl (by omega)).mono ?_
  rintro e w2 ⟨v, rfl, GX, cX, rfl, _, _, o2, b2⟩
  have K : KitM w0 w2 (some ⟨GM, 0, none⟩) (some ⟨GX, 0, none⟩) xss (wrM xss line ys mask) (some ⟨gL, 0, none⟩) ys := ⟨below_step B1 b2, readsM_below rm b2, readsM_own o2, reads_below rl b2⟩
  have hws := wrM_size xss line ys mask
  clear rm rl b2 o2 B1
  generalize hpb : wrB xss line ys mask = is
  generalize hpl : wrM xss line ys mask = pss at K hws ⊢
  have HP : Hid (wrB xss line ys mask = is ∧ wrM xss line ys mask = pss) := ⟨hpb, hpl⟩
  clear hpb hpl
  go_wp2_with fail
  refine (drawReadLine_any _ _ _ zs _ (row8_below hr K.bel)).mono ?_
  rintro e w3 ⟨GA, cA, ass, k, rfl, hal, hat, ra, b3⟩
  replace K := K.below b3
  have hls := readL_size ass k
  clear b3
  go_wp2_with fail
  refine (implReadLine_any _ ass _ _ _ ra (by omega)).mono ?_
  rintro e w4 ⟨v, rfl, gR, cR, rfl, _, _, o4, b4⟩
  replace K := K.below b4
  replace ra := readsM_below ra b4
  have rr := reads_owni o4
  clear b4 o4
  generalize hrl : readL ass k = rs at rr hls ⊢
  have HRL : Hid (readL ass k = rs) := hrl
  clear hrl
  go_wp2_with fail
  refine (drawNewMemory_any _ _ _ zs _ (row8_below hr K.bel)).mono ?_
  rintro e w5 ⟨n, rfl, b5⟩
  replace K := K.below b5
  replace ra := readsM_below ra b5
  replace rr := reads_below rr b5
  have hns := newM_size n
  clear b5 hr
  go_wp2_with fail
  refine (specWriteLine_any _ _ xss ys _ _ _ _ _ K.rm K.rl (by omega)).mono ?_
  rintro e w6 ⟨v, rfl, g6, c6, rfl, _, _, o6, b6⟩
  replace K := K.below b6
  replace ra := readsM_below ra b6
  replace rr := reads_below rr b6
  have ry := readsM_own o6
  clear b6 o6
  rw [HP.out.2] at ry
  rw [HP.out.1, HP.out.2]
  go_wp2_with fail
  refine (likeRows_any _ _ pss _ _ _ K.rx ry (by omega) (by omega)).mono ?_
  rintro e w7 ⟨rfl, n7, rfl⟩
  replace K := K.drew n7
  replace ra : ReadsM (w6.drewN n7) _ ass := ra
  replace rr : Reads (w6.drewN n7) _ rs := rr
  clear ry
  generalize w6.drewN n7 = w7 at K ra rr ⊢
  go_wp2_with fail
  refine (specReadLine_any _ ass _ _ _ ra (by omega)).mono ?_
  rintro e w8 ⟨v, rfl, g8, c8, rfl, _, _, o8, b8⟩
  replace K := K.below b8
  replace rr := reads_below rr b8
  have r8 := reads_owni o8
  clear b8 o8 ra
  rw [HRL.out] at r8
  rw [HRL.out]
  go_wp2_with fail
  refine (likeInts_any _ _ rs _ _ _ rr r8 (by omega)).mono ?_
  rintro e w9 ⟨rfl, n9, rfl⟩
  replace K := K.drew n9
  clear rr r8
  generalize w8.drewN n9 = w9 at K ⊢
  go_wp2_with fail
  refine (implNewMemory_any _ _).mono ?_
  rintro e w10 ⟨v, rfl, g10, c10, rfl, _, _, o10, b10⟩
  replace K := K.below b10
  have r10 := readsM_own o10
  clear b10 o10
  go_wp2_with fail
  refine (specNewMemory_any _ _).mono ?_
  rintro e w11 ⟨v, rfl, g11, c11, rfl, _, _, o11, b11⟩
  replace K := K.below b11
  replace r10 := readsM_below r10 b11
  have r11 := readsM_own o11
  clear b11 o11
  go_wp2_with fail
  refine (likeRows_any _ _ (newM n) _ _ _ r10 r11 (by omega) (by omega)).mono ?_
  rintro e w12 ⟨rfl, n12, rfl⟩
  replace K := K.drew n12
  clear r10 r11
  generalize w11.drewN n12 = w12 at K ⊢
  go_wp2_with fail
  refine (implMemoryOk_any _ xss _ _ K.rm (by omega)).mono ?_
  rintro e w13 ⟨rfl, b13⟩
  replace K := K.below b13
  clear b13
  go_wp2_with fail
  refine (specMemoryOk_any _ xss _ _ K.rm (by omega)).mono ?_
  rintro e w14 ⟨rfl, hw14⟩
  rw [hw14]
  clear hw14 w14
  cases is
  · rcases wr_no HP.out.1 with ⟨hk, hp⟩ | ⟨hk, hp⟩
    · rw [HP.out.2] at hp
      subst hp
      rw [hk]
      go_wp2_with (go_at_call 21; refine (specMemoryOk_any _ xss _ _ K.rm (by omega)).mono ?_; rintro e w15 ⟨rfl, hw15⟩; rw [hw15, hk]; clear hw15 w15)
      go_ret
      exact ⟨rfl, K.bel⟩
    · rw [HP.out.2] at hp
      subst hp
      rw [hk]
      go_wp2_with (go_at_call 21; refine (specMemoryOk_any _ pss _ _ K.rm (by omega)).mono ?_; rintro e w15 ⟨rfl, hw15⟩; rw [hw15, hk]; clear hw15 w15)
      refine (likeRows_any _ _ pss _ _ _ K.rx K.rm (by omega) (by omega)).mono ?_
      rintro e w16 ⟨rfl, n16, rfl⟩
      replace K := K.drew n16
      go_wp2
      go_ret
      exact ⟨rfl, K.bel⟩
  · obtain ⟨hk, hy, h3, j, rfl, hj, hok, hrd⟩ := wr_yes HP.out.1
    rw [HP.out.2] at hok hrd
    rw [hk]
    have HY : Hid (isL ys = true ∧ betw mask 0 3 = true) := ⟨hy, h3⟩
    have HD : Hid _ := hrd
    have HO : Hid _ := hok
    have hlp : pss.length ≤ 17 := by omega
    clear hk hy h3 hrd hok HRL
    go_wp2_with fail
    go_loopw [15] (fun i wr => ∃ q : Nat, q ≤ xss.length ∧ i = .int .i64 q ∧ KitM w0 wr (some ⟨GM, 0, none⟩) (some ⟨GX, 0, none⟩) xss pss (some ⟨gL, 0, none⟩) ys) (fun i _ => xss.length - (intOf i).toNat)
    case atStart => exact ⟨0, Nat.zero_le _, rfl, K⟩
    case round =>
      obtain ⟨q, hq, rfl, KK⟩ := hrel
      clear K
      by_cases hlt : q < xss.length
      · have hlt' : (q : Int) < (xss.length : Int) := by omega
        obtain ⟨xs, hx⟩ := get_of_lt hlt
        obtain ⟨b, off, aj, cj, eb, q1, rq⟩ := readsM_at KK.rm hx
        cases eb
        rw [Nat.zero_add] at q1
        have hxl := tot_get hx
        have HE : Hid _ := HD.out q xs hx
        have HX : Hid _ := hx
        clear hx
        by_cases hqj : q = j
        · subst hqj
          have he : readL pss q = maskL xs ys mask := by have := HE.out; rw [if_pos rfl] at this; exact this
          have hms := mask_at_most xs ys mask
          have HEE : Hid _ := he
          clear he HE
          go_wp2_with fail
          refine (specMasked_any _ _ xs ys _ _ _ _ rq KK.rl).mono ?_
          rintro e w15 ⟨v, rfl, g15, c15, rfl, _, _, o15, b15⟩
          replace KK := KK.below b15
          have r15 := reads_owni o15
          clear b15 o15 rq q1
          go_wp2_with fail
          refine (implReadLine_any _ pss _ _ _ KK.rx (by omega)).mono ?_
          rintro e w16 ⟨v, rfl, g16, c16, rfl, _, _, o16, b16⟩
          replace KK := KK.below b16
          replace r15 := reads_below r15 b16
          have r16 := reads_owni o16
          rw [HEE.out] at r16
          rw [HEE.out]
          clear b16 o16
          go_wp2_with fail
          refine (likeInts_any _ _ (maskL xs ys mask) _ _ _ r16 r15 (by omega)).mono ?_
          rintro e w17 ⟨rfl, n17, rfl⟩
          replace KK := KK.drew n17
          clear r15 r16
          generalize w16.drewN n17 = w17 at KK ⊢
          go_wp2
          go_roundw
          case rel => exact ⟨q + 1, by omega, by go_num, KK⟩
          case measure => simp [intOf]; omega
        · have he : readL pss q = xs := by have := HE.out; rw [if_neg hqj] at this; exact this
          have hqj' : ¬ ((q : Int) = (j : Int)) := by omega
          have HEE : Hid _ := he
          clear he HE
          go_wp2_with fail
          refine (implReadLine_any _ pss _ _ _ KK.rx (by omega)).mono ?_
          rintro e w16 ⟨v, rfl, g16, c16, rfl, _, _, o16, b16⟩
          replace KK := KK.below b16
          replace rq := reads_below rq b16
          have r16 := reads_owni o16
          rw [HEE.out] at r16
          rw [HEE.out]
          clear b16 o16 q1
          go_wp2_with fail
          refine (likeInts_any _ _ xs _ _ _ r16 rq (by omega)).mono ?_
          rintro e w17 ⟨rfl, n17, rfl⟩
          replace KK := KK.drew n17
          clear rq r16
          generalize w16.drewN n17 = w17 at KK ⊢
          go_wp2
          go_roundw
          case rel => exact ⟨q + 1, by omega, by go_num, KK⟩
          case measure => simp [intOf]; omega
      · have hlt' : ¬ ((q : Int) < (xss.length : Int)) := by omega
        go_wp2_with fail
        refine (implMemoryOk_any _ pss _ _ KK.rx (by omega)).mono ?_
        rintro e w18 ⟨rfl, b18⟩
        replace KK := KK.below b18
        rw [HO.out]
        clear b18
        go_wp2
        go_ret
        exact ⟨rfl, KK.bel⟩

end Go.Proofs.Yteepmhcpjjgihaa
