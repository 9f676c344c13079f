/- A letter sent, by the specification. No condition but lists that read as told, of lengths that a machine can hold. -/
import Derived.Test.YtfflmbpjolgghaaMsgCopy
namespace Go.Proofs.Ytfflmbpjolgghaa
open Go.ChangeShapes Go.WideShapes Go.ChangeAt Go.RowKit
set_option linter.unusedVariables false

def sentI (xs : List MsgD) (u : MsgD) : List MsgD × Bool := if netB xs then (if msgB u && decide (xs.length ≠ 60) then (xs ++ [u], true) else (xs, false)) else ([], false)
theorem data_small {d : List Int} (h : dataB d = true) : d.length ≤ 2 := by
  unfold dataB at h
  cases d with
  | nil => simp
  | cons x r =>
    have h' : isL (x :: r) = true := by simpa using h
    rcases isL_cases (x :: r) with h2 | ⟨p, q, he, _, _⟩
    · rw [h'] at h2
      cases h2
    · rw [he]
      simp
theorem msg_small {u : MsgD} (h : msgB u = true) : u.2.2.2.2.2.1.length ≤ 2 := by
  simp only [msgB, Bool.and_eq_true] at h
  exact data_small h.2.2.2.1
theorem net_small {xs : List MsgD} (h : netB xs = true) : xs.length ≤ 60 ∧ ∀ u ∈ xs, u.2.2.2.2.2.1.length ≤ 1048576 := by
  simp only [netB, Bool.and_eq_true, decide_eq_true_eq, List.all_eq_true] at h
  exact ⟨h.1, fun u hu => Nat.le_trans (msg_small (h.2 u hu)) (by decide)⟩

set_option maxRecDepth 8000 in
set_option maxHeartbeats 4000000 in
theorem specSent_any (a : Option Addr) (xs : List MsgD) (cap : Nat) (f0 f1 f2 f3 f4 f6 : Int) (d : List Int) (ad : Option Addr) (cpw : Nat) (w : World) (h : SlRd msgR w a xs) (hm : xs.length ≤ maxLen) (i0 : In64 f0) (i1 : In64 f1) (i2 : In64 f2) (i3 : In64 f3) (i4 : In64 f4) (i6 : In64 f6) (hd : SlRd intR w ad d) :
    Calls Try.prog 14 #[.slice a xs.length cap, .agg #[.int .i64 f0, .int .i64 f1, .int .i64 f2, .int .i64 f3, .int .i64 f4, .slice ad d.length cpw, .int .i64 f6]] w fun e w' => ∃ av cv, e = .returned (.tuple #[.slice av (sentI xs (f0, f1, f2, f3, f4, d, f6)).1.length cv, .bool (sentI xs (f0, f1, f2, f3, f4, d, f6)).2]) ∧ MadeR msgsR w w' [.slice av (sentI xs (f0, f1, f2, f3, f4, d, f6)).1.length cv] (sentI xs (f0, f1, f2, f3, f4, d, f6)).1 := by
  have HN : Hid (∀ W, Below w.heap.size w W → Calls Try.prog 17 #[.slice a xs.length cap] W fun e w' => e = .returned (.bool (netB xs)) ∧ Below W.heap.size W w') := fun W hb => specNetOk_any a xs cap W (slrd_next h hb) hm
  have HG : Hid (∀ W, Below w.heap.size w W → Calls Try.prog 44 #[.agg #[.int .i64 f0, .int .i64 f1, .int .i64 f2, .int .i64 f3, .int .i64 f4, .slice ad d.length cpw, .int .i64 f6]] W fun e w' => e = .returned (.bool (msgB (f0, f1, f2, f3, f4, d, f6))) ∧ Below W.heap.size W w') := fun W hb => specMsg_any f0 f1 f2 f3 f4 f6 d ad cpw W (slrd_next hd hb)
  have hm' : xs.length ≤ 9223372036854775807 := hm
  have X := heap_at w (.cells #[.int .i64 f0, .int .i64 f1, .int .i64 f2, .int .i64 f3, .int .i64 f4, .slice ad d.length cpw, .int .i64 f6] 27)
  have B := box_below w (.cells #[.int .i64 f0, .int .i64 f1, .int .i64 f2, .int .i64 f3, .int .i64 f4, .slice ad d.length cpw, .int .i64 f6] 27)
  cases hn : netB xs
  · have HS : Hid (sentI xs (f0, f1, f2, f3, f4, d, f6) = ([], false)) := by unfold Hid sentI; rw [hn]; rfl
    rw [hn] at HN
    rw [HS.out]
    show Calls Try.prog 14 _ w fun e w' => ∃ av cv, e = .returned (.tuple #[.slice av 0 cv, .bool false]) ∧ MadeR msgsR w w' [.slice av 0 cv] ([] : List MsgD)
    clear h hm hd HG X
    go_enter Try.func14, Try.ntmps14
    go_wp2_with fail
    generalize w.alloc (.cells #[.int .i64 f0, .int .i64 f1, .int .i64 f2, .int .i64 f3, .int .i64 f4, .slice ad d.length cpw, .int .i64 f6] 27) = W0 at B ⊢
    refine (HN.out _ B).mono ?_
    rintro e w1 ⟨rfl, b1⟩
    replace B := below_step B b1
    clear b1 HN
    have MN := made_none (e := 27) (R := msgR) w1
    go_wp2
    go_ret2
    exact ⟨_, _, rfl, madeR_step B MN⟩
  · rw [hn] at HN
    obtain ⟨k1, k2⟩ := net_small hn
    have HC : Hid (∀ W, Below w.heap.size w W → Calls Try.prog 43 #[.slice a xs.length cap] W fun e w' => ∃ v, e = .returned v ∧ MadeR msgsR W w' [v] xs) := fun W hb => l7Copy_any a xs cap W (slrd_next h hb) (by omega) k2
    have HD : Hid (∀ W, Below w.heap.size w W → SlRd intR W ad d) := fun W hb => slrd_next hd hb
    clear h hm hd k2
    cases hg : (msgB (f0, f1, f2, f3, f4, d, f6) && decide (xs.length ≠ 60))
    · have HS : Hid (sentI xs (f0, f1, f2, f3, f4, d, f6) = (xs, false)) := by unfold Hid sentI; rw [hn, hg]; rfl
      rw [HS.out]
      show Calls Try.prog 14 _ w fun e w' => ∃ av cv, e = .returned (.tuple #[.slice av xs.length cv, .bool false]) ∧ MadeR msgsR w w' [.slice av xs.length cv] xs
      go_enter Try.func14, Try.ntmps14
      go_wp2_with fail
      generalize w.alloc (.cells #[.int .i64 f0, .int .i64 f1, .int .i64 f2, .int .i64 f3, .int .i64 f4, .slice ad d.length cpw, .int .i64 f6] 27) = W0 at B X ⊢
      refine (HN.out _ B).mono ?_
      rintro e w1 ⟨rfl, b1⟩
      replace B := below_step B b1
      replace X := row_keep b1 X
      clear b1 HN
      go_wp2_with fail
      refine (HC.out _ B).mono ?_
      rintro e w2 ⟨v, rfl, mm⟩
      obtain ⟨av, cv, rfl⟩ := slown_val mm.1
      have M := madeR_step B mm
      replace X := row_keep mm.2 X
      clear mm HC B
      obtain ⟨x0, x1, x2, x3, x4, x5, x6⟩ := cells_7 X
      go_wp2_with fail
      refine (HG.out _ M.2).mono ?_
      rintro e w3 ⟨rfl, b3⟩
      have M3 : MadeR msgsR w w3 [.slice av xs.length cv] xs := ⟨msgsR.own_mono (own_next M.1 b3) (rng_sub (Nat.le_refl _) b3.size), below_step M.2 b3⟩
      have HM3 : Hid _ := M3
      clear b3 M M3 HG X x0 x1 x2 x3 x4 x5 x6
      cases hq : msgB (f0, f1, f2, f3, f4, d, f6)
      · go_wp2
        go_ret2
        exact ⟨_, _, rfl, HM3.out⟩
      · have h60 : xs.length = 60 := by
          rw [hq] at hg
          simpa using hg
        have h60' : (xs.length : Int) = 60 := by omega
        have h602 : ((xs.length : Int) == 60) = true := by rw [h60']; rfl
        clear h60 h60'
        go_wp2
        go_ret2
        exact ⟨_, _, rfl, HM3.out⟩
    · have HS : Hid (sentI xs (f0, f1, f2, f3, f4, d, f6) = (xs ++ [(f0, f1, f2, f3, f4, d, f6)], true)) := by unfold Hid sentI; rw [hn, hg]; rfl
      have hq : msgB (f0, f1, f2, f3, f4, d, f6) = true ∧ xs.length ≠ 60 := by simpa using hg
      rw [hq.1] at HG
      rw [HS.out]
      show Calls Try.prog 14 _ w fun e w' => ∃ av cv, e = .returned (.tuple #[.slice av (xs ++ [(f0, f1, f2, f3, f4, d, f6)]).length cv, .bool true]) ∧ MadeR msgsR w w' [.slice av (xs ++ [(f0, f1, f2, f3, f4, d, f6)]).length cv] (xs ++ [(f0, f1, f2, f3, f4, d, f6)])
      rw [show (xs ++ [(f0, f1, f2, f3, f4, d, f6)]).length = xs.length + 1 from by simp]
      have hdl : d.length ≤ 1048576 := Nat.le_trans (msg_small hq.1) (by decide)
      have h60 : ¬ ((xs.length : Int) = 60) := by have := hq.2; omega
      have h602 : ((xs.length : Int) == 60) = false := beq_false_of_ne h60
      have HI : Hid _ := And.intro i0 (And.intro i1 (And.intro i2 (And.intro i3 (And.intro i4 i6))))
      obtain ⟨ti, hi, hz0, hz1, hz2⟩ := info_parts Try.infoMsg
      clear i0 i1 i2 i3 i4 i6 hg hq hm'
      go_enter Try.func14, Try.ntmps14
      go_wp2_with fail
      generalize w.alloc (.cells #[.int .i64 f0, .int .i64 f1, .int .i64 f2, .int .i64 f3, .int .i64 f4, .slice ad d.length cpw, .int .i64 f6] 27) = W0 at B X ⊢
      refine (HN.out _ B).mono ?_
      rintro e w1 ⟨rfl, b1⟩
      replace B := below_step B b1
      replace X := row_keep b1 X
      clear b1 HN
      go_wp2_with fail
      refine (HC.out _ B).mono ?_
      rintro e w2 ⟨v, rfl, mm⟩
      obtain ⟨av, cv, rfl⟩ := slown_val mm.1
      have M := madeR_step B mm
      replace X := row_keep mm.2 X
      clear mm HC B
      obtain ⟨x0, x1, x2, x3, x4, x5, x6⟩ := cells_7 X
      go_wp2_with fail
      refine (HG.out _ M.2).mono ?_
      rintro e w3 ⟨rfl, b3⟩
      replace M : MadeR msgsR w w3 [.slice av xs.length cv] xs := ⟨msgsR.own_mono (own_next M.1 b3) (rng_sub (Nat.le_refl _) b3.size), below_step M.2 b3⟩
      replace X := row_keep b3 X
      clear b3 HG x0 x1 x2 x3 x4 x5 x6
      obtain ⟨x0, x1, x2, x3, x4, x5, x6⟩ := cells_7 X
      go_wp2_with fail
      refine (l7CopyMsg_any f0 f1 f2 f3 f4 f6 d ad cpw w3 HI.out.1 HI.out.2.1 HI.out.2.2.1 HI.out.2.2.2.1 HI.out.2.2.2.2.1 HI.out.2.2.2.2.2 (HD.out _ M.2) hdl).mono ?_
      rintro e w9 ⟨ae, ce, rfl, mm⟩
      obtain ⟨rows0, hr0, hrl⟩ := slown_row M.1
      have hrA : (w9.alloc (.cells #[.int .i64 f0, .int .i64 f1, .int .i64 f2, .int .i64 f3, .int .i64 f4, .slice ae d.length ce, .int .i64 f6] 27)).ownsRow w.heap.size 27 7 (.slice av xs.length cv) xs.length rows0 := orow_keep hr0 fun g hg => by
        obtain ⟨cur, hh⟩ := row_block hr0 hg
        have hl := (Array.getElem?_eq_some_iff.1 hh).1
        rw [Below.heap_alloc _ _ _ (Nat.lt_of_lt_of_le hl mm.2.size), mm.2.block _ hl]
      have hbs : w.heap.size ≤ (w9.alloc (.cells #[.int .i64 f0, .int .i64 f1, .int .i64 f2, .int .i64 f3, .int .i64 f4, .slice ae d.length ce, .int .i64 f6] 27)).heap.size := by have := M.2.size; have := mm.2.size; simp; omega
      have HM : Hid _ := And.intro M (And.intro mm hr0)
      clear M mm hr0 hrl x0 x1 x2 x3 x4 x5 x6 X HD
      go_wp2_with (at_builtin; refine wpList_append_own _ rfl _ _ 24 rfl w.heap.size 27 ti (.agg #[.int .i64 0, .int .i64 0, .int .i64 0, .int .i64 0, .int .i64 0, .slice none 0 0, .int .i64 0]) 7 72 Try.underlying24 hi hz0 hz1 hz2 rfl (by decide) _ _ _ rfl hrA ⟨w9.heap.size, 0, none⟩ 1 1 [.int .i64 f0, .int .i64 f1, .int .i64 f2, .int .i64 f3, .int .i64 f4, .slice ae d.length ce, .int .i64 f6] rfl rfl ?c1 ?c2 ?c3 ?c4 ?c5 ?_)
      case c1 => exact cells_news w9 _ _
      case c2 => intro u hu; simp at hu; rcases hu with rfl | rfl | rfl | rfl | rfl | rfl | rfl <;> rfl
      case c3 => unfold maxLen; omega
      case c4 => omega
      case c5 => exact hbs
      intro v' w2 hown' hgrow hnil
      obtain ⟨g', cap', rfl⟩ := owns_shape hown'
      obtain ⟨M, mm, hr0⟩ := HM.out
      have NM := app_made (e := 27) (R := msgR) (by decide) M mm hr0 hown' hgrow
      have HNM : Hid _ := NM
      clear M mm hr0 NM hown' hgrow hnil hrA HM hbs
      go_wp2
      go_ret2
      exact ⟨_, _, rfl, HNM.out⟩
end Go.Proofs.Ytfflmbpjolgghaa
