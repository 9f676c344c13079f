/- A letter sent, by the program. No condition but lists that read as told, of lengths that a machine can hold. -/
import Derived.Test.YtfflmbpjolgghaaListOf
import Derived.Test.YtfflmbpjolgghaaSpecSent
namespace Go.Proofs.Ytfflmbpjolgghaa
open Go.ChangeShapes Go.WideShapes Go.ChangeAt Go.RowKit
set_option linter.unusedVariables false

theorem num_rise {ls : List LetD} (h : ∀ (i : Nat) (y : LetD), ls[i]? = some y → y.1 = (i : Int)) : Rising ls := by
  refine List.pairwise_iff_getElem.2 fun i j hi hj hij => ?_
  rw [h i _ (List.getElem?_eq_getElem hi), h j _ (List.getElem?_eq_getElem hj)]
  omega
theorem listB_any {w wr : World} {pb : Nat} {S T : Foot} {v : Value} {ls : List LetD} {xs : List MsgD} (h : PostB w wr pb S T v ls xs) (hm : xs.length ≤ 900) :
    Calls Try.prog 40 #[.pointer (some ⟨pb, 0, none⟩)] wr fun e w' => ∃ av cv, e = .returned (.slice av xs.length cv) ∧ MadeR msgsR w w' [.slice av xs.length cv] xs := by
  have hr := num_rise h.num
  refine (postList_any pb S T v ls ls xs wr h.row h.own h.bag h.dis h.sp h.tp (fun k hk => (h.sl k hk).2) (fun k hk => (h.tl k hk).2) h.sh hr (List.Perm.refl _) (rising_heap hr) (by rw [h.len]; exact hm) h.len).mono ?_
  rintro e w' ⟨av, cv, rfl, h1, h2⟩
  refine ⟨av, cv, rfl, msgsR.own_mono h1 ?_, h2.below h.below (fun k hk => ?_) h.below.size⟩
  · have := h2.size
    have := h.below.size
    rintro k (hk | hk)
    · have := h.tl k hk
      exact ⟨this.1, by omega⟩
    · exact ⟨by omega, hk.2⟩
  · rcases hk with hk | hk
    · exact (h.sl k hk).1
    · rw [hk]
      exact h.pl

set_option maxRecDepth 8000 in
set_option maxHeartbeats 4000000 in
theorem implSent_any (a : Option Addr) (xs : List MsgD) (cap : Nat) (f0 f1 f2 f3 f4 f6 : Int) (d : List Int) (ad : Option Addr) (cpw : Nat) (w : World) (h : SlRd msgR w a xs) (hm : xs.length ≤ maxLen) (i0 : In64 f0) (i1 : In64 f1) (i2 : In64 f2) (i3 : In64 f3) (i4 : In64 f4) (i6 : In64 f6) (hd : SlRd intR w ad d) :
    Calls Try.prog 11 #[.slice a xs.length cap, .agg #[.int .i64 f0, .int .i64 f1, .int .i64 f2, .int .i64 f3, .int .i64 f4, .slice ad d.length cpw, .int .i64 f6]] w fun e w' => ∃ av cv, e = .returned (.tuple #[.slice av (sentI xs (f0, f1, f2, f3, f4, d, f6)).1.length cv, .bool (sentI xs (f0, f1, f2, f3, f4, d, f6)).2]) ∧ MadeR msgsR w w' [.slice av (sentI xs (f0, f1, f2, f3, f4, d, f6)).1.length cv] (sentI xs (f0, f1, f2, f3, f4, d, f6)).1 := by
  have HN : Hid (∀ W, Below w.heap.size w W → Calls Try.prog 16 #[.slice a xs.length cap] W fun e w' => e = .returned (.bool (netB xs)) ∧ Below W.heap.size W w') := fun W hb => implNetOk_any a xs cap W (slrd_next h hb) hm
  have HG : Hid (∀ W, Below w.heap.size w W → Calls Try.prog 39 #[.agg #[.int .i64 f0, .int .i64 f1, .int .i64 f2, .int .i64 f3, .int .i64 f4, .slice ad d.length cpw, .int .i64 f6]] W fun e w' => e = .returned (.bool (msgB (f0, f1, f2, f3, f4, d, f6))) ∧ Below W.heap.size W w') := fun W hb => implMsgOk_any f0 f1 f2 f3 f4 f6 d ad cpw W (slrd_next hd hb)
  have hm' : xs.length ≤ 9223372036854775807 := hm
  have X := heap_at w (.cells #[.int .i64 f0, .int .i64 f1, .int .i64 f2, .int .i64 f3, .int .i64 f4, .slice ad d.length cpw, .int .i64 f6] 27)
  have B := box_below w (.cells #[.int .i64 f0, .int .i64 f1, .int .i64 f2, .int .i64 f3, .int .i64 f4, .slice ad d.length cpw, .int .i64 f6] 27)
  cases hn : netB xs
  · have HS : Hid (sentI xs (f0, f1, f2, f3, f4, d, f6) = ([], false)) := by unfold Hid sentI; rw [hn]; rfl
    rw [hn] at HN
    rw [HS.out]
    show Calls Try.prog 11 _ w fun e w' => ∃ av cv, e = .returned (.tuple #[.slice av 0 cv, .bool false]) ∧ MadeR msgsR w w' [.slice av 0 cv] ([] : List MsgD)
    clear h hm hd HG X
    go_enter Try.func11, Try.ntmps11
    go_wp2_with fail
    generalize w.alloc (.cells #[.int .i64 f0, .int .i64 f1, .int .i64 f2, .int .i64 f3, .int .i64 f4, .slice ad d.length cpw, .int .i64 f6] 27) = W0 at B ⊢
    refine (HN.out _ B).mono ?_
    rintro e w1 ⟨rfl, b1⟩
    replace B := below_step B b1
    clear b1 HN
    have MN := made_none (e := 27) (R := msgR) w1
    go_wp2
    go_ret2
    exact ⟨_, _, rfl, madeR_step B MN⟩
  · rw [hn] at HN
    obtain ⟨k1, k2⟩ := net_small hn
    have HC : Hid (∀ W, Below w.heap.size w W → Calls Try.prog 38 #[.slice a xs.length cap] W fun e w' => ∃ pb S T v ls, e = .returned (.pointer (some ⟨pb, 0, none⟩)) ∧ PostB W w' pb S T v ls xs) := fun W hb => posted_any a xs cap W (slrd_next h hb) (by omega) k2
    have HD : Hid (∀ W, Below w.heap.size w W → SlRd intR W ad d) := fun W hb => slrd_next hd hb
    clear h hm hd k2
    cases hg : (msgB (f0, f1, f2, f3, f4, d, f6) && decide (xs.length ≠ 60))
    · have HS : Hid (sentI xs (f0, f1, f2, f3, f4, d, f6) = (xs, false)) := by unfold Hid sentI; rw [hn, hg]; rfl
      rw [HS.out]
      show Calls Try.prog 11 _ w fun e w' => ∃ av cv, e = .returned (.tuple #[.slice av xs.length cv, .bool false]) ∧ MadeR msgsR w w' [.slice av xs.length cv] xs
      go_enter Try.func11, Try.ntmps11
      go_wp2_with fail
      generalize w.alloc (.cells #[.int .i64 f0, .int .i64 f1, .int .i64 f2, .int .i64 f3, .int .i64 f4, .slice ad d.length cpw, .int .i64 f6] 27) = W0 at B X ⊢
      refine (HN.out _ B).mono ?_
      rintro e w1 ⟨rfl, b1⟩
      replace B := below_step B b1
      replace X := row_keep b1 X
      clear b1 HN
      go_wp2_with fail
      refine (HC.out _ B).mono ?_
      rintro e w2 ⟨pb, S, T, v, ls, rfl, PB⟩
      replace X := row_keep PB.below X
      have B2 := below_step B PB.below
      clear HC
      obtain ⟨x0, x1, x2, x3, x4, x5, x6⟩ := cells_7 X
      have HPB : Hid _ := PB
      clear PB
      go_wp2_with fail
      refine (HG.out _ B2).mono ?_
      rintro e w3 ⟨rfl, b3⟩
      have HL := listB_any (postB_next HPB.out b3) (by omega)
      clear b3 HG X x0 x1 x2 x3 x4 x5 x6 HPB
      cases hq : msgB (f0, f1, f2, f3, f4, d, f6)
      · go_wp2_with fail
        refine HL.mono ?_
        rintro e w4 ⟨av, cv, rfl, mm⟩
        have HM : Hid _ := madeR_step B mm
        clear mm HL
        go_wp2
        go_ret2
        exact ⟨_, _, rfl, HM.out⟩
      · have h60 : xs.length = 60 := by
          rw [hq] at hg
          simpa using hg
        have h60' : (xs.length : Int) = 60 := by omega
        have h602 : ((xs.length : Int) == 60) = true := by rw [h60']; rfl
        clear h60 h60'
        go_wp2_with fail
        refine HL.mono ?_
        rintro e w4 ⟨av, cv, rfl, mm⟩
        have HM : Hid _ := madeR_step B mm
        clear mm HL
        go_wp2
        go_ret2
        exact ⟨_, _, rfl, HM.out⟩
    · have HS : Hid (sentI xs (f0, f1, f2, f3, f4, d, f6) = (xs ++ [(f0, f1, f2, f3, f4, d, f6)], true)) := by unfold Hid sentI; rw [hn, hg]; rfl
      have hq : msgB (f0, f1, f2, f3, f4, d, f6) = true ∧ xs.length ≠ 60 := by simpa using hg
      rw [hq.1] at HG
      rw [HS.out]
      show Calls Try.prog 11 _ w fun e w' => ∃ av cv, e = .returned (.tuple #[.slice av (xs ++ [(f0, f1, f2, f3, f4, d, f6)]).length cv, .bool true]) ∧ MadeR msgsR w w' [.slice av (xs ++ [(f0, f1, f2, f3, f4, d, f6)]).length cv] (xs ++ [(f0, f1, f2, f3, f4, d, f6)])
      rw [show (xs ++ [(f0, f1, f2, f3, f4, d, f6)]).length = xs.length + 1 from by simp]
      have hdl : d.length ≤ 1048576 := Nat.le_trans (msg_small hq.1) (by decide)
      have h60 : ¬ ((xs.length : Int) = 60) := by have := hq.2; omega
      have h602 : ((xs.length : Int) == 60) = false := beq_false_of_ne h60
      have HI : Hid _ := And.intro i0 (And.intro i1 (And.intro i2 (And.intro i3 (And.intro i4 i6))))
      clear i0 i1 i2 i3 i4 i6 hg hq hm'
      go_enter Try.func11, Try.ntmps11
      go_wp2_with fail
      generalize w.alloc (.cells #[.int .i64 f0, .int .i64 f1, .int .i64 f2, .int .i64 f3, .int .i64 f4, .slice ad d.length cpw, .int .i64 f6] 27) = W0 at B X ⊢
      refine (HN.out _ B).mono ?_
      rintro e w1 ⟨rfl, b1⟩
      replace B := below_step B b1
      replace X := row_keep b1 X
      clear b1 HN
      go_wp2_with fail
      refine (HC.out _ B).mono ?_
      rintro e w2 ⟨pb, S, T, v, ls, rfl, PB⟩
      replace X := row_keep PB.below X
      have B2 := below_step B PB.below
      clear HC
      obtain ⟨x0, x1, x2, x3, x4, x5, x6⟩ := cells_7 X
      have HPB : Hid _ := PB
      clear PB
      go_wp2_with fail
      refine (HG.out _ B2).mono ?_
      rintro e w3 ⟨rfl, b3⟩
      replace X := row_keep b3 X
      have PB := postB_next HPB.out b3
      replace B2 := below_step B2 b3
      clear b3 HG x0 x1 x2 x3 x4 x5 x6 HPB
      obtain ⟨x0, x1, x2, x3, x4, x5, x6⟩ := cells_7 X
      have hll : ls.length ≤ 999 := by have := PB.len; omega
      have HA := postAdd_any pb S v ls f0 f1 f2 f3 f4 f6 d ad cpw w3 PB.row PB.sp PB.own hll (fun i y hy => by have := PB.num i y hy; have := (List.getElem?_eq_some_iff.1 hy).1; omega) HI.out.1 HI.out.2.1 HI.out.2.2.1 HI.out.2.2.2.1 HI.out.2.2.2.2.1 HI.out.2.2.2.2.2 (HD.out _ B2) hdl
      have HPB : Hid _ := PB
      clear PB X
      go_wp2_with fail
      refine HA.mono ?_
      intro e w5 AP
      have hre : e = .returned (.tuple #[]) := AP.1
      subst hre
      obtain ⟨S', T', v', ls', NB⟩ := postB_add HPB.out AP
      have HL := listB_any NB (by simp; omega)
      rw [show (xs ++ [(f0, f1, f2, f3, f4, d, f6)]).length = xs.length + 1 from by simp] at HL
      clear NB AP HA HPB x0 x1 x2 x3 x4 x5 x6
      go_wp2_with fail
      refine HL.mono ?_
      rintro e w6 ⟨av, cv, rfl, mm⟩
      have HM : Hid _ := madeR_step B mm
      clear mm HL
      go_wp2
      go_ret2
      exact ⟨_, _, rfl, HM.out⟩
end Go.Proofs.Ytfflmbpjolgghaa
