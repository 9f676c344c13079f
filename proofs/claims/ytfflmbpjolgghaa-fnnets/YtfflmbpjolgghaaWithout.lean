/- A net without one letter, by the specification. Conditions: lists of at most 2^20 numbers. -/
import Derived.Test.YtfflmbpjolgghaaSpecSent
namespace Go.Proofs.Ytfflmbpjolgghaa
open Go.ChangeShapes Go.WideShapes Go.ChangeAt Go.RowKit
set_option linter.unusedVariables false

theorem erase_next {xs : List MsgD} {k n : Nat} {x : MsgD} (hx : xs[k]? = some x) (h : ¬ k = n) : (xs.take k).eraseIdx n ++ [x] = (xs.take (k + 1)).eraseIdx n := by
  have hk := (List.getElem?_eq_some_iff.1 hx).1
  rw [List.take_add_one, hx]
  show _ = (xs.take k ++ [x]).eraseIdx n
  by_cases hn : n < k
  · rw [List.eraseIdx_append_of_lt_length (by rw [List.length_take]; omega)]
  · rw [List.eraseIdx_of_length_le (by rw [List.length_take]; omega), List.eraseIdx_of_length_le (by simp; omega)]
theorem erase_same {xs : List MsgD} {k : Nat} {x : MsgD} (hx : xs[k]? = some x) : (xs.take (k + 1)).eraseIdx k = (xs.take k).eraseIdx k := by
  have hk := (List.getElem?_eq_some_iff.1 hx).1
  rw [List.take_add_one, hx]
  show (xs.take k ++ [x]).eraseIdx k = _
  rw [List.eraseIdx_of_length_le (l := xs.take k) (by rw [List.length_take]; omega), List.eraseIdx_append_of_length_le (by rw [List.length_take]; omega)]
  have : k - (xs.take k).length = 0 := by rw [List.length_take]; omega
  rw [this]
  simp

set_option maxHeartbeats 4000000 in
theorem l7Without_any (a : Option Addr) (xs : List MsgD) (cap n : Nat) (w : World) (h : SlRd msgR w a xs) (hm : xs.length ≤ 1000) (hd : ∀ u ∈ xs, u.2.2.2.2.2.1.length ≤ 1048576) :
    Calls Try.prog 49 #[.slice a xs.length cap, .int .i64 (n : Int)] w fun e w' => ∃ v, e = .returned v ∧ MadeR msgsR w w' [v] (xs.eraseIdx n) := by
  have H0 : Hid (∀ W, Below w.heap.size w W → SlRd msgR W a xs) := fun W hb => slrd_keep h fun k hk => hb.block k hk
  have HD : Hid _ := hd
  have MN := made_none (e := 27) (R := msgR) w
  clear h hd
  go_enter Try.func49, Try.ntmps49
  go_wp2
  go_loopw [5, 6] (fun r i wi => ∃ k : Nat, k ≤ xs.length ∧ i = .int .i64 k ∧ ∃ au cu, r = .slice au ((xs.take k).eraseIdx n).length cu ∧ MadeR msgsR w wi [.slice au ((xs.take k).eraseIdx n).length cu] ((xs.take k).eraseIdx n)) (fun _ i _ => xs.length - (intOf i).toNat)
  case atStart => exact ⟨0, Nat.zero_le _, rfl, _, _, rfl, MN⟩
  case round =>
    clear MN
    obtain ⟨k, hk, rfl, au, cu, rfl, M⟩ := hrel
    by_cases hlt : k < xs.length
    · have hlt' : (k : Int) < (xs.length : Int) := by omega
      obtain ⟨x, hx⟩ : ∃ x, xs[k]? = some x := ⟨_, List.getElem?_eq_getElem hlt⟩
      by_cases hkn0 : k = n
      · subst hkn0
        have HTK : Hid ((xs.take (k + 1)).eraseIdx k = (xs.take k).eraseIdx k) := erase_same hx
        have HM : Hid _ := M
        clear M
        go_wp2
        go_roundw
        case rel => exact ⟨k + 1, by omega, by go_num, _, _, by rw [HTK.out], by rw [HTK.out]; exact HM.out⟩
        case measure => simp [intOf]; omega
      · obtain ⟨b, off, cs, rfl, hrdx, hcell⟩ := slrd_at (H0.out _ M.2) hx
        obtain ⟨ad, cpw, rfl, i0, i1, i2, i3, i4, i6, hd1, hd2, hd3⟩ := msg_rd hrdx
        have x0 := hcell 0 _ rfl
        have x1 := hcell 1 _ rfl
        have x2 := hcell 2 _ rfl
        have x3 := hcell 3 _ rfl
        have x4 := hcell 4 _ rfl
        have x5 := hcell 5 _ rfl
        have x6 := hcell 6 _ rfl
        rw [show off + (k * msgR.size + 0) = off + k * 7 from rfl] at x0
        rw [show off + (k * msgR.size + 1) = off + k * 7 + 1 from rfl] at x1
        rw [show off + (k * msgR.size + 2) = off + k * 7 + 2 from rfl] at x2
        rw [show off + (k * msgR.size + 3) = off + k * 7 + 3 from rfl] at x3
        rw [show off + (k * msgR.size + 4) = off + k * 7 + 4 from rfl] at x4
        rw [show off + (k * msgR.size + 5) = off + k * 7 + 5 from rfl] at x5
        rw [show off + (k * msgR.size + 6) = off + k * 7 + 6 from rfl] at x6
        have HC := l7CopyMsg_any x.1 x.2.1 x.2.2.1 x.2.2.2.1 x.2.2.2.2.1 x.2.2.2.2.2.2 x.2.2.2.2.2.1 ad cpw wr i0 i1 i2 i3 i4 i6 hd3 (HD.out x (List.mem_of_getElem? hx))
        have HTK : Hid ((xs.take k).eraseIdx n ++ [x] = (xs.take (k + 1)).eraseIdx n) := erase_next hx hkn0
        have hll : ((xs.take k).eraseIdx n).length ≤ 1000 := by have := List.length_eraseIdx_le (xs.take k) n; rw [List.length_take] at this; omega
        have hkn1 : ((k : Int) != (n : Int)) = true := by simp; omega
        have hkn2 : ¬ ((k : Int) = (n : Int)) := by omega
        generalize hL : (xs.take k).eraseIdx n = L at M HTK hll ⊢
        have HL : Hid _ := hL
        clear hL
        obtain ⟨ti, hi, hz0, hz1, hz2⟩ := info_parts Try.infoMsg
        clear hcell hrdx hd1 hd2 hd3 i0 i1 i2 i3 i4 i6 hx
        go_wp2_with fail
        refine HC.mono ?_
        rintro e w9 ⟨ae, ce, rfl, mm⟩
        obtain ⟨rows0, hr0, hrl⟩ := slown_row M.1
        have hrA : (w9.alloc (.cells #[.int .i64 x.1, .int .i64 x.2.1, .int .i64 x.2.2.1, .int .i64 x.2.2.2.1, .int .i64 x.2.2.2.2.1, .slice ae x.2.2.2.2.2.1.length ce, .int .i64 x.2.2.2.2.2.2] 27)).ownsRow w.heap.size 27 7 (.slice au L.length cu) L.length rows0 := orow_keep hr0 fun g hg => by
          obtain ⟨cur, hh⟩ := row_block hr0 hg
          have hl := (Array.getElem?_eq_some_iff.1 hh).1
          rw [Below.heap_alloc _ _ _ (Nat.lt_of_lt_of_le hl mm.2.size), mm.2.block _ hl]
        have hbs : w.heap.size ≤ (w9.alloc (.cells #[.int .i64 x.1, .int .i64 x.2.1, .int .i64 x.2.2.1, .int .i64 x.2.2.2.1, .int .i64 x.2.2.2.2.1, .slice ae x.2.2.2.2.2.1.length ce, .int .i64 x.2.2.2.2.2.2] 27)).heap.size := by have := M.2.size; have := mm.2.size; simp; omega
        have HM : Hid _ := And.intro M (And.intro mm hr0)
        clear M mm hr0 hrl HC x0 x1 x2 x3 x4 x5 x6
        go_wp2_with (at_builtin; refine wpList_append_own _ rfl _ _ 24 rfl w.heap.size 27 ti (.agg #[.int .i64 0, .int .i64 0, .int .i64 0, .int .i64 0, .int .i64 0, .slice none 0 0, .int .i64 0]) 7 72 Try.underlying24 hi hz0 hz1 hz2 rfl (by decide) _ _ _ rfl hrA ⟨w9.heap.size, 0, none⟩ 1 1 [.int .i64 x.1, .int .i64 x.2.1, .int .i64 x.2.2.1, .int .i64 x.2.2.2.1, .int .i64 x.2.2.2.2.1, .slice ae x.2.2.2.2.2.1.length ce, .int .i64 x.2.2.2.2.2.2] rfl rfl ?c1 ?c2 ?c3 ?c4 ?c5 ?_)
        case c1 => exact cells_news w9 _ _
        case c2 => intro u hu; simp at hu; rcases hu with rfl | rfl | rfl | rfl | rfl | rfl | rfl <;> rfl
        case c3 => unfold maxLen; omega
        case c4 => omega
        case c5 => exact hbs
        intro v' w2 hown' hgrow hnil
        obtain ⟨g', cap', rfl⟩ := owns_shape hown'
        obtain ⟨M, mm, hr0⟩ := HM.out
        have NM := app_made (e := 27) (R := msgR) (by decide) M mm hr0 hown' hgrow
        have HNM : Hid _ := NM
        clear M mm hr0 NM hown' hgrow hnil hrA HM hbs
        go_wp2
        go_roundw
        case rel => exact ⟨k + 1, by omega, by go_num, _, _, by rw [← HTK.out, List.length_append]; rfl, by rw [← HTK.out, List.length_append]; exact HNM.out⟩
        case measure => simp [intOf]; omega
    · have hkn : k = xs.length := by omega
      subst hkn
      rw [List.take_length] at M ⊢
      have HM : Hid _ := M
      clear M
      go_wp2
      go_ret
      exact ⟨_, rfl, HM.out⟩
end Go.Proofs.Ytfflmbpjolgghaa
