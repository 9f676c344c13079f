/- Letters, copied, by the specification: one, and a net. Conditions: lists of at most 2^20 numbers. -/
import Derived.Test.YtfflmbpjolgghaaCopyInts
import Derived.Test.YtfflmbpjolgghaaNetOk
namespace Go.Proofs.Ytfflmbpjolgghaa
open Go.ChangeShapes Go.WideShapes Go.ChangeAt Go.RowKit
set_option linter.unusedVariables false

set_option maxHeartbeats 2000000 in
theorem l7CopyMsg_any (f0 f1 f2 f3 f4 f6 : Int) (d : List Int) (a : Option Addr) (cap : Nat) (w : World) (i0 : In64 f0) (i1 : In64 f1) (i2 : In64 f2) (i3 : In64 f3) (i4 : In64 f4) (i6 : In64 f6) (h : SlRd intR w a d) (hm : d.length ≤ 1048576) :
    Calls Try.prog 45 #[.agg #[.int .i64 f0, .int .i64 f1, .int .i64 f2, .int .i64 f3, .int .i64 f4, .slice a d.length cap, .int .i64 f6]] w fun e w' => ∃ av cv, e = .returned (.agg #[.int .i64 f0, .int .i64 f1, .int .i64 f2, .int .i64 f3, .int .i64 f4, .slice av d.length cv, .int .i64 f6]) ∧ MadeR msgR w w' [.int .i64 f0, .int .i64 f1, .int .i64 f2, .int .i64 f3, .int .i64 f4, .slice av d.length cv, .int .i64 f6] (f0, f1, f2, f3, f4, d, f6) := by
  have B0 := below_step (box_below w (.cells #[.int .i64 f0, .int .i64 f1, .int .i64 f2, .int .i64 f3, .int .i64 f4, .slice a d.length cap, .int .i64 f6] 27)) (box_below _ (.cells #[.int .i64 0, .int .i64 0, .int .i64 0, .int .i64 0, .int .i64 0, .slice none 0 0, .int .i64 0] 27))
  have X0 := heap_on (.cells #[.int .i64 0, .int .i64 0, .int .i64 0, .int .i64 0, .int .i64 0, .slice none 0 0, .int .i64 0] 27) (heap_at w (.cells #[.int .i64 f0, .int .i64 f1, .int .i64 f2, .int .i64 f3, .int .i64 f4, .slice a d.length cap, .int .i64 f6] 27))
  have X1 := heap_at (w.alloc (.cells #[.int .i64 f0, .int .i64 f1, .int .i64 f2, .int .i64 f3, .int .i64 f4, .slice a d.length cap, .int .i64 f6] 27)) (.cells #[.int .i64 0, .int .i64 0, .int .i64 0, .int .i64 0, .int .i64 0, .slice none 0 0, .int .i64 0] 27)
  rw [alloc_len] at X1
  have sz : ((w.alloc (.cells #[.int .i64 f0, .int .i64 f1, .int .i64 f2, .int .i64 f3, .int .i64 f4, .slice a d.length cap, .int .i64 f6] 27)).alloc (.cells #[.int .i64 0, .int .i64 0, .int .i64 0, .int .i64 0, .int .i64 0, .slice none 0 0, .int .i64 0] 27)).heap.size = w.heap.size + 1 + 1 := by simp
  have HI : Hid _ := And.intro i0 (And.intro i1 (And.intro i2 (And.intro i3 (And.intro i4 i6))))
  have HC := l1Copy_rep a d cap ((w.alloc (.cells #[.int .i64 f0, .int .i64 f1, .int .i64 f2, .int .i64 f3, .int .i64 f4, .slice a d.length cap, .int .i64 f6] 27)).alloc (.cells #[.int .i64 0, .int .i64 0, .int .i64 0, .int .i64 0, .int .i64 0, .slice none 0 0, .int .i64 0] 27)) (slrd_keep h fun k hk => B0.block k hk) hm
  clear i0 i1 i2 i3 i4 i6 h hm
  go_enter Try.func45, Try.ntmps45
  go_wp2_with fail
  refine HC.mono ?_
  rintro e w1 ⟨v, rfl, HO⟩
  obtain ⟨av, cv, rfl⟩ := slown_val HO.1
  have B1 := below_step B0 HO.2
  replace X0 := row_keep HO.2 X0
  replace X1 := row_keep HO.2 X1
  obtain ⟨y0, y1, y2, y3, y4, y5, y6⟩ := cells_7 X0
  obtain ⟨u0, u1, u2, u3, u4, u5, u6⟩ := froz_7 X0
  obtain ⟨z0, z1, z2, z3, z4, z5, z6⟩ := cells_7 X1
  obtain ⟨g0, g1, g2, g3, g4, g5, g6⟩ := froz_7 X1
  have HOO : Hid (intsR.own w1 (rng ((w.alloc (.cells #[.int .i64 f0, .int .i64 f1, .int .i64 f2, .int .i64 f3, .int .i64 f4, .slice a d.length cap, .int .i64 f6] 27)).alloc (.cells #[.int .i64 0, .int .i64 0, .int .i64 0, .int .i64 0, .int .i64 0, .slice none 0 0, .int .i64 0] 27)).heap.size w1.heap.size) [.slice av d.length cv] d) := HO.1
  have HX2 : Hid _ := And.intro X0 X1
  clear HO X0 X1 HC
  go_wp2
  obtain ⟨X0, X1⟩ := HX2.out
  have Y1 := put_7 (y0 := .int .i64 f0) (y1 := .int .i64 f1) (y2 := .int .i64 f2) (y3 := .int .i64 f3) (y4 := .int .i64 f4) (y5 := .slice av d.length cv) (y6 := .int .i64 f6) (heap_setC (g := w.heap.size) (o := 5) (v := .slice av d.length cv) X1 (by omega))
  obtain ⟨r0, r1, r2, r3, r4, r5, r6⟩ := cells_7 Y1
  obtain ⟨i0, i1, i2, i3, i4, i6⟩ := HI.out
  refine bodyPost_ret (v := .agg #[.int .i64 f0, .int .i64 f1, .int .i64 f2, .int .i64 f3, .int .i64 f4, .slice av d.length cv, .int .i64 f6]) (by simp [results, Try.results45, go_sem, r0, r1, r2, r3, r4, r5, r6]) rfl ⟨av, cv, rfl, own_msg i0 i1 i2 i3 i4 i6 ?_, ?_⟩
  · refine intsR.own_mono (own_setC (own_setC (own_setC (own_setC (own_setC (own_setC (own_setC (own_setC (HOO.out) (fun h => by have := h.1; omega)) (fun h => by have := h.1; omega)) (fun h => by have := h.1; omega)) (fun h => by have := h.1; omega)) (fun h => by have := h.1; omega)) (fun h => by have := h.1; omega)) (fun h => by have := h.1; omega)) (fun h => by have := h.1; omega)) ?_
    exact rng_sub (by omega) (by simp)
  · exact below_setC (below_setC (below_setC (below_setC (below_setC (below_setC (below_setC (below_setC (B1) (by omega)) (by omega)) (by omega)) (by omega)) (by omega)) (by omega)) (by omega)) (by omega)

set_option maxHeartbeats 4000000 in
theorem l7Copy_any (a : Option Addr) (xs : List MsgD) (cap : Nat) (w : World) (h : SlRd msgR w a xs) (hm : xs.length ≤ 1000) (hd : ∀ u ∈ xs, u.2.2.2.2.2.1.length ≤ 1048576) :
    Calls Try.prog 43 #[.slice a xs.length cap] w fun e w' => ∃ v, e = .returned v ∧ MadeR msgsR w w' [v] xs := by
  have H0 : Hid (∀ W, Below w.heap.size w W → SlRd msgR W a xs) := fun W hb => slrd_keep h fun k hk => hb.block k hk
  have HD : Hid _ := hd
  have MN := made_none (e := 27) (R := msgR) w
  clear h hd
  go_enter Try.func43, Try.ntmps43
  go_wp2
  go_loopw [3, 4] (fun r i wi => ∃ k : Nat, k ≤ xs.length ∧ i = .int .i64 k ∧ ∃ au cu, r = .slice au k cu ∧ MadeR msgsR w wi [.slice au k cu] (xs.take k)) (fun _ i _ => xs.length - (intOf i).toNat)
  case atStart => exact ⟨0, Nat.zero_le _, rfl, _, _, rfl, MN⟩
  case round =>
    clear MN
    obtain ⟨k, hk, rfl, au, cu, rfl, M⟩ := hrel
    by_cases hlt : k < xs.length
    · have hlt' : (k : Int) < (xs.length : Int) := by omega
      obtain ⟨x, hx⟩ : ∃ x, xs[k]? = some x := ⟨_, List.getElem?_eq_getElem hlt⟩
      obtain ⟨b, off, cs, rfl, hrdx, hcell⟩ := slrd_at (H0.out _ M.2) hx
      obtain ⟨ad, cpw, rfl, i0, i1, i2, i3, i4, i6, hd1, hd2, hd3⟩ := msg_rd hrdx
      have x0 := hcell 0 _ rfl
      have x1 := hcell 1 _ rfl
      have x2 := hcell 2 _ rfl
      have x3 := hcell 3 _ rfl
      have x4 := hcell 4 _ rfl
      have x5 := hcell 5 _ rfl
      have x6 := hcell 6 _ rfl
      rw [show off + (k * msgR.size + 0) = off + k * 7 from rfl] at x0
      rw [show off + (k * msgR.size + 1) = off + k * 7 + 1 from rfl] at x1
      rw [show off + (k * msgR.size + 2) = off + k * 7 + 2 from rfl] at x2
      rw [show off + (k * msgR.size + 3) = off + k * 7 + 3 from rfl] at x3
      rw [show off + (k * msgR.size + 4) = off + k * 7 + 4 from rfl] at x4
      rw [show off + (k * msgR.size + 5) = off + k * 7 + 5 from rfl] at x5
      rw [show off + (k * msgR.size + 6) = off + k * 7 + 6 from rfl] at x6
      have HC := l7CopyMsg_any x.1 x.2.1 x.2.2.1 x.2.2.2.1 x.2.2.2.2.1 x.2.2.2.2.2.2 x.2.2.2.2.2.1 ad cpw wr i0 i1 i2 i3 i4 i6 hd3 (HD.out x (List.mem_of_getElem? hx))
      have HTK : Hid (xs.take k ++ [x] = xs.take (k + 1)) := by unfold Hid; rw [List.take_add_one, hx]; rfl
      have htl : (xs.take k).length = k := by rw [List.length_take]; omega
      obtain ⟨ti, hi, hz0, hz1, hz2⟩ := info_parts Try.infoMsg
      clear hcell hrdx hd1 hd2 hd3 i0 i1 i2 i3 i4 i6 hx
      go_wp2_with fail
      refine HC.mono ?_
      rintro e w9 ⟨ae, ce, rfl, mm⟩
      obtain ⟨rows0, hr0, hrl⟩ := slown_row M.1
      rw [htl] at hr0
      have hrA : (w9.alloc (.cells #[.int .i64 x.1, .int .i64 x.2.1, .int .i64 x.2.2.1, .int .i64 x.2.2.2.1, .int .i64 x.2.2.2.2.1, .slice ae x.2.2.2.2.2.1.length ce, .int .i64 x.2.2.2.2.2.2] 27)).ownsRow w.heap.size 27 7 (.slice au k cu) k rows0 := orow_keep hr0 fun g hg => by
        obtain ⟨cur, hh⟩ := row_block hr0 hg
        have hl := (Array.getElem?_eq_some_iff.1 hh).1
        rw [Below.heap_alloc _ _ _ (Nat.lt_of_lt_of_le hl mm.2.size), mm.2.block _ hl]
      have hbs : w.heap.size ≤ (w9.alloc (.cells #[.int .i64 x.1, .int .i64 x.2.1, .int .i64 x.2.2.1, .int .i64 x.2.2.2.1, .int .i64 x.2.2.2.2.1, .slice ae x.2.2.2.2.2.1.length ce, .int .i64 x.2.2.2.2.2.2] 27)).heap.size := by have := M.2.size; have := mm.2.size; simp; omega
      have HM : Hid _ := And.intro M (And.intro mm hr0)
      clear M mm hr0 hrl HC x0 x1 x2 x3 x4 x5 x6
      go_wp2_with (at_builtin; refine wpList_append_own _ rfl _ _ 24 rfl w.heap.size 27 ti (.agg #[.int .i64 0, .int .i64 0, .int .i64 0, .int .i64 0, .int .i64 0, .slice none 0 0, .int .i64 0]) 7 72 Try.underlying24 hi hz0 hz1 hz2 rfl (by decide) _ _ _ rfl hrA ⟨w9.heap.size, 0, none⟩ 1 1 [.int .i64 x.1, .int .i64 x.2.1, .int .i64 x.2.2.1, .int .i64 x.2.2.2.1, .int .i64 x.2.2.2.2.1, .slice ae x.2.2.2.2.2.1.length ce, .int .i64 x.2.2.2.2.2.2] rfl rfl ?c1 ?c2 ?c3 ?c4 ?c5 ?_)
      case c1 => exact cells_news w9 _ _
      case c2 => intro u hu; simp at hu; rcases hu with rfl | rfl | rfl | rfl | rfl | rfl | rfl <;> rfl
      case c3 => unfold maxLen; omega
      case c4 => omega
      case c5 => exact hbs
      intro v' w2 hown' hgrow hnil
      obtain ⟨g', cap', rfl⟩ := owns_shape hown'
      obtain ⟨M, mm, hr0⟩ := HM.out
      have NM := app_made (e := 27) (R := msgR) (by decide) M mm (by rw [htl]; exact hr0) (by rw [htl]; exact hown') hgrow
      rw [HTK.out] at NM
      have HNM : Hid _ := NM
      clear M mm hr0 NM hown' hgrow hnil hrA HM hbs
      go_wp2
      go_roundw
      case rel => exact ⟨k + 1, by omega, by go_num, _, _, rfl, HNM.out⟩
      case measure => simp [intOf]; omega
    · have hkn : k = xs.length := by omega
      subst hkn
      rw [List.take_length] at M
      have HM : Hid _ := M
      clear M
      go_wp2
      go_ret
      exact ⟨_, rfl, HM.out⟩
end Go.Proofs.Ytfflmbpjolgghaa
