/- The draw of a net: some net of at most 61 letters is drawn, in new memory, and nothing that was there turns but the cursor. Conditions: the bytes are at most 2^61. -/
import Derived.Test.YtfflmbpjolgghaaDrawNet
import Derived.Test.YtfflmbpjolgghaaOwnedG
namespace Go.Proofs.Ytfflmbpjolgghaa
open Go.ChangeShapes Go.WideShapes Go.ChangeAt Go.RowKit
set_option linter.unusedVariables false

def DrawNP (B g : Nat) (w : World) (e : Ending) (w' : World) : Prop :=
  ∃ xs au cu hi, e = .returned (.slice au xs.length cu) ∧ xs.length ≤ 61 ∧ DNet B g w w' hi (.slice au xs.length cu) xs
set_option maxRecDepth 20000 in
set_option maxHeartbeats 8000000 in
theorem l7Draw_any (B g : Nat) (w : World) (hcur : Cur B w g) :
    Calls Try.prog 36 #[.pointer (some ⟨g, 0, none⟩)] w fun e w' => DrawNP B g w e w' := by
  have hgw := cur_lt hcur
  have hBg := hcur.1
  have D0 := dn_none hcur (Chg.refl _ w) ⟨hgw, hBg⟩
  obtain ⟨ti, hi, hz0, hz1, hz2⟩ := info_parts Try.infoMsg
  have C0 := D0.cur
  have HD0 : Hid _ := D0
  clear D0
  go_enter Try.func36, Try.ntmps36
  go_wp2_with fail
  refine (l1Below_small B g 8 _ C0 (by omega) (by omega)).mono ?_
  rintro e w1 ⟨n, rfl, n0, n1, C1, g1⟩
  have HD1 : Hid _ := dn_grown HD0.out g1 C1
  obtain ⟨kn, rfl⟩ : ∃ kn : Nat, n = (kn : Int) := ⟨n.toNat, by omega⟩
  clear C0 g1 HD0 C1
  go_wp2
  go_loopw [3, 4] (fun r i wr => ∃ (k : Nat) (xs : List MsgD) (au : Option Addr) (cu hi : Nat), k ≤ 7 ∧ i = .int .i64 k ∧ r = .slice au xs.length cu ∧ xs.length + k ≤ 7 ∧ DNet B g w wr hi (.slice au xs.length cu) xs) (fun _ i _ => (intOf i).toNat)
  case atStart => exact ⟨kn, [], _, _, _, by omega, rfl, rfl, by simp; omega, HD1.out⟩
  case round =>
    clear HD1
    obtain ⟨k, xs, au, cu, hh, hk, rfl, rfl, hxk, D⟩ := hrel
    by_cases hk0 : 0 < k
    · have hk0' : (0 : Int) < (k : Int) := by omega
      have C := D.cur
      have HD : Hid _ := D
      have htop := D.top
      have hws := D.chg.size
      clear D
      go_wp2_with fail
      refine (l7DrawMsg_any B g wr C).mono ?_
      rintro e w2 ⟨u, av, cv, rfl, hdl, DR⟩
      have D2 := dn_step HD.out DR.chg DR.cur
      have z2 := DR.chg.size
      have X2 := heap_at w2 (.cells #[.int .i64 u.1, .int .i64 u.2.1, .int .i64 u.2.2.1, .int .i64 u.2.2.2.1, .int .i64 u.2.2.2.2.1, .slice av u.2.2.2.2.2.1.length cv, .int .i64 u.2.2.2.2.2.2] 27)
      have O2 := own_box (.cells #[.int .i64 u.1, .int .i64 u.2.1, .int .i64 u.2.2.1, .int .i64 u.2.2.2.1, .int .i64 u.2.2.2.2.1, .slice av u.2.2.2.2.2.1.length cv, .int .i64 u.2.2.2.2.2.2] 27) DR.own
      have D3 := dn_below D2 (box_below w2 (.cells #[.int .i64 u.1, .int .i64 u.2.1, .int .i64 u.2.2.1, .int .i64 u.2.2.2.1, .int .i64 u.2.2.2.2.1, .slice av u.2.2.2.2.2.1.length cv, .int .i64 u.2.2.2.2.2.2] 27))
      have C3 := D3.cur
      have hl1 : hh ≤ wr.heap.size := htop
      have hl2 : w.heap.size ≤ wr.heap.size := hws
      have HA : Hid _ := And.intro X2 (And.intro O2 D3)
      have e2 : (w2.alloc (.cells #[.int .i64 u.1, .int .i64 u.2.1, .int .i64 u.2.2.1, .int .i64 u.2.2.2.1, .int .i64 u.2.2.2.2.1, .slice av u.2.2.2.2.2.1.length cv, .int .i64 u.2.2.2.2.2.2] 27)).heap.size = w2.heap.size + 1 := by simp
      clear X2 O2 D3 D2 DR C HD
      go_wp2_with fail
      generalize w2.alloc (.cells #[.int .i64 u.1, .int .i64 u.2.1, .int .i64 u.2.2.1, .int .i64 u.2.2.2.1, .int .i64 u.2.2.2.2.1, .slice av u.2.2.2.2.2.1.length cv, .int .i64 u.2.2.2.2.2.2] 27) = W3 at HA C3 e2 ⊢
      generalize hmb : w2.heap.size = mb at HA e2 z2 ⊢
      clear hmb
      have hmb1 : wr.heap.size ≤ mb := z2
      refine (l1Once_small B g 2 _ C3 (by omega) (by omega)).mono ?_
      rintro e w4 ⟨b, rfl, C4, g4⟩
      obtain ⟨X, OW, D⟩ := HA.out
      replace D := dn_grown D g4 C4
      replace OW := own_chg OW (chg_grown (S := fun b => b = g) g4 rfl) (fun j hj e => by have := hj.1; omega)
      replace X := (g4.block mb (Array.getElem?_eq_some_iff.1 X).1 (by simp; omega)).trans X
      clear g4 C3 HA e2
      have C := C4
      clear C4
      cases b
      · obtain ⟨f0, e0⟩ : ∃ f, f = u.1 := ⟨_, rfl⟩
        obtain ⟨f1, e1⟩ : ∃ f, f = u.2.1 := ⟨_, rfl⟩
        obtain ⟨f2, e2⟩ : ∃ f, f = u.2.2.1 := ⟨_, rfl⟩
        replace OW : msgR.own w4 (rng wr.heap.size mb) [.int .i64 f0, .int .i64 f1, .int .i64 f2, .int .i64 u.2.2.2.1, .int .i64 u.2.2.2.2.1, .slice av u.2.2.2.2.2.1.length cv, .int .i64 u.2.2.2.2.2.2] (f0, f1, f2, u.2.2.2) := by rw [e0, e1, e2]; exact OW
        rw [← e0, ← e1, ← e2] at X
        clear e0 e1 e2
        obtain ⟨W5, hW⟩ : ∃ x, x = w4 := ⟨_, rfl⟩
        subst hW
        obtain ⟨m0, m1, m2, m3, m4, m5, m6⟩ := cells_7 X
        have CM := specMsg_any f0 f1 f2 u.2.2.2.1 u.2.2.2.2.1 u.2.2.2.2.2.2 u.2.2.2.2.2.1 av cv W5 (ints_rd7 (d := u.2.2.2.2.2.1) (msg_intsd (u := (f0, f1, f2, u.2.2.2)) OW))
        have HA : Hid _ := And.intro X (And.intro OW D)
        clear X OW D
        go_wp2_with fail
        refine CM.mono ?_
        rintro e w6 ⟨rfl, b6⟩
        obtain ⟨X, OW, D⟩ := HA.out
        replace X := row_keep b6 X
        replace OW := msgR.own_keep OW (keeps_below b6)
        replace D := dn_below D b6
        clear b6 HA CM m0 m1 m2 m3 m4 m5 m6 C
        obtain ⟨m0, m1, m2, m3, m4, m5, m6⟩ := cells_7 X
        have hdu : ((f0, f1, f2, u.2.2.2) : MsgD).2.2.2.2.2.1.length ≤ 3 := hdl
        cases hq : msgB (f0, f1, f2, u.2.2.2.1, u.2.2.2.2.1, u.2.2.2.2.2.1, u.2.2.2.2.2.2)
        · have C := D.cur
          have HA : Hid _ := And.intro X (And.intro OW D)
          clear X OW D
          go_wp2_with fail
          refine (l1Once_small B g 8 _ C (by omega) (by omega)).mono ?_
          rintro e w7 ⟨b, rfl, C7, g7⟩
          obtain ⟨X, OW, D⟩ := HA.out
          replace D := dn_grown D g7 C7
          replace OW := own_chg OW (chg_grown (S := fun b => b = g) g7 rfl) (fun j hj e => by have := hj.1; omega)
          replace X := (g7.block mb (Array.getElem?_eq_some_iff.1 X).1 (by simp; omega)).trans X
          clear g7 C7 C HA m0 m1 m2 m3 m4 m5 m6
          obtain ⟨m0, m1, m2, m3, m4, m5, m6⟩ := cells_7 X
          cases b
          · have HD : Hid _ := D
            clear D OW X m0 m1 m2 m3 m4 m5 m6
            go_wp2
            go_roundw
            case rel => exact ⟨k - 1, xs, au, cu, _, by omega, by go_num, rfl, by omega, HD.out⟩
            case measure => simp [intOf]; omega
          · skip
            obtain ⟨rows0, hr0, hrl⟩ := slown_row D.own
            have hrA : (w7.alloc (.cells #[.int .i64 f0, .int .i64 f1, .int .i64 f2, .int .i64 u.2.2.2.1, .int .i64 u.2.2.2.2.1, .slice av u.2.2.2.2.2.1.length cv, .int .i64 u.2.2.2.2.2.2] 27)).ownsRow w.heap.size 27 7 (.slice au xs.length cu) xs.length rows0 := orow_keep hr0 fun g hg => by
              have hl := World.ownsRow.lt hr0 g hg
              rw [Below.heap_alloc _ _ _ hl.2]
            have hbs : w.heap.size ≤ (w7.alloc (.cells #[.int .i64 f0, .int .i64 f1, .int .i64 f2, .int .i64 u.2.2.2.1, .int .i64 u.2.2.2.2.1, .slice av u.2.2.2.2.2.1.length cv, .int .i64 u.2.2.2.2.2.2] 27)).heap.size := by have := D.chg.size; simp; omega
            have HM : Hid _ := And.intro D (And.intro OW hr0)
            clear X OW D hr0 hrl
            go_wp2_with (at_builtin; refine wpList_append_own _ rfl _ _ 24 rfl w.heap.size 27 ti (.agg #[.int .i64 0, .int .i64 0, .int .i64 0, .int .i64 0, .int .i64 0, .slice none 0 0, .int .i64 0]) 7 72 Try.underlying24 hi hz0 hz1 hz2 rfl (by decide) _ _ _ rfl hrA ⟨w7.heap.size, 0, none⟩ 1 1 [.int .i64 f0, .int .i64 f1, .int .i64 f2, .int .i64 u.2.2.2.1, .int .i64 u.2.2.2.2.1, .slice av u.2.2.2.2.2.1.length cv, .int .i64 u.2.2.2.2.2.2] rfl rfl ?c1 ?c2 ?c3 ?c4 ?c5 ?_)
            case c1 => exact cells_news w7 _ _
            case c2 => exact one_7 _ _ _ _ _ _ _ _ _
            case c3 => unfold maxLen; omega
            case c4 => omega
            case c5 => exact hbs
            intro v' w9 hown' hgrow hnil
            obtain ⟨g', cap', rfl⟩ := owns_shape hown'
            obtain ⟨D9, O9, hr0⟩ := HM.out
            have ND : DNet B g w w9 w9.heap.size (.slice (some ⟨g', 0, none⟩) (xs.length + 1) cap') (xs ++ [(f0, f1, f2, u.2.2.2)]) := dn_app D9 O9 hl1 hl2 hdu (fun rows hr => by rw [rows_unique hr hr0]; exact hown') hgrow
            have HND : Hid _ := ND
            clear D9 O9 hr0 ND hown' hgrow hnil hrA hbs HM
            go_wp2
            go_roundw
            case rel => exact ⟨k - 1, xs ++ [(f0, f1, f2, u.2.2.2)], _, _, _, by omega, by go_num, by rw [List.length_append]; rfl, by rw [List.length_append]; show xs.length + 1 + (k - 1) ≤ 7; omega, by rw [List.length_append]; exact HND.out⟩
            case measure => simp [intOf]; omega
        · skip
          obtain ⟨rows0, hr0, hrl⟩ := slown_row D.own
          have hrA : (w6.alloc (.cells #[.int .i64 f0, .int .i64 f1, .int .i64 f2, .int .i64 u.2.2.2.1, .int .i64 u.2.2.2.2.1, .slice av u.2.2.2.2.2.1.length cv, .int .i64 u.2.2.2.2.2.2] 27)).ownsRow w.heap.size 27 7 (.slice au xs.length cu) xs.length rows0 := orow_keep hr0 fun g hg => by
            have hl := World.ownsRow.lt hr0 g hg
            rw [Below.heap_alloc _ _ _ hl.2]
          have hbs : w.heap.size ≤ (w6.alloc (.cells #[.int .i64 f0, .int .i64 f1, .int .i64 f2, .int .i64 u.2.2.2.1, .int .i64 u.2.2.2.2.1, .slice av u.2.2.2.2.2.1.length cv, .int .i64 u.2.2.2.2.2.2] 27)).heap.size := by have := D.chg.size; simp; omega
          have HM : Hid _ := And.intro D (And.intro OW hr0)
          clear X OW D hr0 hrl
          go_wp2_with (at_builtin; refine wpList_append_own _ rfl _ _ 24 rfl w.heap.size 27 ti (.agg #[.int .i64 0, .int .i64 0, .int .i64 0, .int .i64 0, .int .i64 0, .slice none 0 0, .int .i64 0]) 7 72 Try.underlying24 hi hz0 hz1 hz2 rfl (by decide) _ _ _ rfl hrA ⟨w6.heap.size, 0, none⟩ 1 1 [.int .i64 f0, .int .i64 f1, .int .i64 f2, .int .i64 u.2.2.2.1, .int .i64 u.2.2.2.2.1, .slice av u.2.2.2.2.2.1.length cv, .int .i64 u.2.2.2.2.2.2] rfl rfl ?c1 ?c2 ?c3 ?c4 ?c5 ?_)
          case c1 => exact cells_news w6 _ _
          case c2 => exact one_7 _ _ _ _ _ _ _ _ _
          case c3 => unfold maxLen; omega
          case c4 => omega
          case c5 => exact hbs
          intro v' w9 hown' hgrow hnil
          obtain ⟨g', cap', rfl⟩ := owns_shape hown'
          obtain ⟨D9, O9, hr0⟩ := HM.out
          have ND : DNet B g w w9 w9.heap.size (.slice (some ⟨g', 0, none⟩) (xs.length + 1) cap') (xs ++ [(f0, f1, f2, u.2.2.2)]) := dn_app D9 O9 hl1 hl2 hdu (fun rows hr => by rw [rows_unique hr hr0]; exact hown') hgrow
          have HND : Hid _ := ND
          clear D9 O9 hr0 ND hown' hgrow hnil hrA hbs HM
          go_wp2
          go_roundw
          case rel => exact ⟨k - 1, xs ++ [(f0, f1, f2, u.2.2.2)], _, _, _, by omega, by go_num, by rw [List.length_append]; rfl, by rw [List.length_append]; show xs.length + 1 + (k - 1) ≤ 7; omega, by rw [List.length_append]; exact HND.out⟩
          case measure => simp [intOf]; omega
      · obtain ⟨m0, m1, m2, m3, m4, m5, m6⟩ := cells_7 X
        obtain ⟨s0, s1, s2, s3, s4, s5, s6⟩ := froz_7 X
        have X5 := heap_setCell_same _ mb 2 _ _ (.int .i64 4) (heap_setCell_same _ mb 1 _ _ (.int .i64 1) (heap_setCell_same _ mb 0 _ _ (.int .i64 0) X))
        have D5 := dn_set (o := 2) (u := .int .i64 4) (dn_set (o := 1) (u := .int .i64 1) (dn_set (o := 0) (u := .int .i64 0) D (Nat.le_trans htop hmb1) (by omega)) (Nat.le_trans htop hmb1) (by omega)) (Nat.le_trans htop hmb1) (by omega)
        have O5 := own_setC (g := mb) (o := 2) (v := .int .i64 4) (own_setC (g := mb) (o := 1) (v := .int .i64 1) (own_setC (g := mb) (o := 0) (v := .int .i64 0) (msg_intsd OW) (fun h => by have := h.2; omega)) (fun h => by have := h.2; omega)) (fun h => by have := h.2; omega)
        obtain ⟨vq, eq, i0, i1, i2, i3, i4, i6, -⟩ := msg_own OW
        have O6 := own_msg (small64 (x := 0) (by omega) (by omega)) (small64 (x := 1) (by omega) (by omega)) (small64 (x := 4) (by omega) (by omega)) i3 i4 i6 O5
        have HA : Hid _ := And.intro X5 (And.intro O6 D5)
        clear X5 O6 D5 O5 eq i0 i1 i2 i3 i4 i6 X OW D C
        go_wp2_with fail
        generalize ((w4.setCell ⟨mb, 0, none⟩ (.int .i64 0)).setCell ⟨mb, 1, none⟩ (.int .i64 1)).setCell ⟨mb, 2, none⟩ (.int .i64 4) = W5 at HA ⊢
        clear m0 m1 m2 m3 m4 m5 m6 s0 s1 s2 s3 s4 s5 s6
        obtain ⟨X, OW, D⟩ := HA.out
        have C := D.cur
        replace X : W5.heap[mb]? = some (.cells #[.int .i64 0, .int .i64 1, .int .i64 4, .int .i64 u.2.2.2.1, .int .i64 u.2.2.2.2.1, .slice av u.2.2.2.2.2.1.length cv, .int .i64 u.2.2.2.2.2.2] 27 (0, 0)) := X
        clear HA
        obtain ⟨m0, m1, m2, m3, m4, m5, m6⟩ := cells_7 X
        have CM := specMsg_any 0 1 4 u.2.2.2.1 u.2.2.2.2.1 u.2.2.2.2.2.2 u.2.2.2.2.2.1 av cv W5 (ints_rd7 (d := u.2.2.2.2.2.1) (msg_intsd (u := (0, 1, 4, u.2.2.2)) OW))
        have HA : Hid _ := And.intro X (And.intro OW D)
        clear X OW D
        refine CM.mono ?_
        rintro e w6 ⟨rfl, b6⟩
        obtain ⟨X, OW, D⟩ := HA.out
        replace X := row_keep b6 X
        replace OW := msgR.own_keep OW (keeps_below b6)
        replace D := dn_below D b6
        clear b6 HA CM m0 m1 m2 m3 m4 m5 m6 C
        obtain ⟨m0, m1, m2, m3, m4, m5, m6⟩ := cells_7 X
        have hdu : ((0, 1, 4, u.2.2.2) : MsgD).2.2.2.2.2.1.length ≤ 3 := hdl
        cases hq : msgB (0, 1, 4, u.2.2.2.1, u.2.2.2.2.1, u.2.2.2.2.2.1, u.2.2.2.2.2.2)
        · have C := D.cur
          have HA : Hid _ := And.intro X (And.intro OW D)
          clear X OW D
          go_wp2_with fail
          refine (l1Once_small B g 8 _ C (by omega) (by omega)).mono ?_
          rintro e w7 ⟨b, rfl, C7, g7⟩
          obtain ⟨X, OW, D⟩ := HA.out
          replace D := dn_grown D g7 C7
          replace OW := own_chg OW (chg_grown (S := fun b => b = g) g7 rfl) (fun j hj e => by have := hj.1; omega)
          replace X := (g7.block mb (Array.getElem?_eq_some_iff.1 X).1 (by simp; omega)).trans X
          clear g7 C7 C HA m0 m1 m2 m3 m4 m5 m6
          obtain ⟨m0, m1, m2, m3, m4, m5, m6⟩ := cells_7 X
          cases b
          · have HD : Hid _ := D
            clear D OW X m0 m1 m2 m3 m4 m5 m6
            go_wp2
            go_roundw
            case rel => exact ⟨k - 1, xs, au, cu, _, by omega, by go_num, rfl, by omega, HD.out⟩
            case measure => simp [intOf]; omega
          · skip
            obtain ⟨rows0, hr0, hrl⟩ := slown_row D.own
            have hrA : (w7.alloc (.cells #[.int .i64 0, .int .i64 1, .int .i64 4, .int .i64 u.2.2.2.1, .int .i64 u.2.2.2.2.1, .slice av u.2.2.2.2.2.1.length cv, .int .i64 u.2.2.2.2.2.2] 27)).ownsRow w.heap.size 27 7 (.slice au xs.length cu) xs.length rows0 := orow_keep hr0 fun g hg => by
              have hl := World.ownsRow.lt hr0 g hg
              rw [Below.heap_alloc _ _ _ hl.2]
            have hbs : w.heap.size ≤ (w7.alloc (.cells #[.int .i64 0, .int .i64 1, .int .i64 4, .int .i64 u.2.2.2.1, .int .i64 u.2.2.2.2.1, .slice av u.2.2.2.2.2.1.length cv, .int .i64 u.2.2.2.2.2.2] 27)).heap.size := by have := D.chg.size; simp; omega
            have HM : Hid _ := And.intro D (And.intro OW hr0)
            clear X OW D hr0 hrl
            go_wp2_with (at_builtin; refine wpList_append_own _ rfl _ _ 24 rfl w.heap.size 27 ti (.agg #[.int .i64 0, .int .i64 0, .int .i64 0, .int .i64 0, .int .i64 0, .slice none 0 0, .int .i64 0]) 7 72 Try.underlying24 hi hz0 hz1 hz2 rfl (by decide) _ _ _ rfl hrA ⟨w7.heap.size, 0, none⟩ 1 1 [.int .i64 0, .int .i64 1, .int .i64 4, .int .i64 u.2.2.2.1, .int .i64 u.2.2.2.2.1, .slice av u.2.2.2.2.2.1.length cv, .int .i64 u.2.2.2.2.2.2] rfl rfl ?c1 ?c2 ?c3 ?c4 ?c5 ?_)
            case c1 => exact cells_news w7 _ _
            case c2 => exact one_7 _ _ _ _ _ _ _ _ _
            case c3 => unfold maxLen; omega
            case c4 => omega
            case c5 => exact hbs
            intro v' w9 hown' hgrow hnil
            obtain ⟨g', cap', rfl⟩ := owns_shape hown'
            obtain ⟨D9, O9, hr0⟩ := HM.out
            have ND : DNet B g w w9 w9.heap.size (.slice (some ⟨g', 0, none⟩) (xs.length + 1) cap') (xs ++ [(0, 1, 4, u.2.2.2)]) := dn_app D9 O9 hl1 hl2 hdu (fun rows hr => by rw [rows_unique hr hr0]; exact hown') hgrow
            have HND : Hid _ := ND
            clear D9 O9 hr0 ND hown' hgrow hnil hrA hbs HM
            go_wp2
            go_roundw
            case rel => exact ⟨k - 1, xs ++ [(0, 1, 4, u.2.2.2)], _, _, _, by omega, by go_num, by rw [List.length_append]; rfl, by rw [List.length_append]; show xs.length + 1 + (k - 1) ≤ 7; omega, by rw [List.length_append]; exact HND.out⟩
            case measure => simp [intOf]; omega
        · skip
          obtain ⟨rows0, hr0, hrl⟩ := slown_row D.own
          have hrA : (w6.alloc (.cells #[.int .i64 0, .int .i64 1, .int .i64 4, .int .i64 u.2.2.2.1, .int .i64 u.2.2.2.2.1, .slice av u.2.2.2.2.2.1.length cv, .int .i64 u.2.2.2.2.2.2] 27)).ownsRow w.heap.size 27 7 (.slice au xs.length cu) xs.length rows0 := orow_keep hr0 fun g hg => by
            have hl := World.ownsRow.lt hr0 g hg
            rw [Below.heap_alloc _ _ _ hl.2]
          have hbs : w.heap.size ≤ (w6.alloc (.cells #[.int .i64 0, .int .i64 1, .int .i64 4, .int .i64 u.2.2.2.1, .int .i64 u.2.2.2.2.1, .slice av u.2.2.2.2.2.1.length cv, .int .i64 u.2.2.2.2.2.2] 27)).heap.size := by have := D.chg.size; simp; omega
          have HM : Hid _ := And.intro D (And.intro OW hr0)
          clear X OW D hr0 hrl
          go_wp2_with (at_builtin; refine wpList_append_own _ rfl _ _ 24 rfl w.heap.size 27 ti (.agg #[.int .i64 0, .int .i64 0, .int .i64 0, .int .i64 0, .int .i64 0, .slice none 0 0, .int .i64 0]) 7 72 Try.underlying24 hi hz0 hz1 hz2 rfl (by decide) _ _ _ rfl hrA ⟨w6.heap.size, 0, none⟩ 1 1 [.int .i64 0, .int .i64 1, .int .i64 4, .int .i64 u.2.2.2.1, .int .i64 u.2.2.2.2.1, .slice av u.2.2.2.2.2.1.length cv, .int .i64 u.2.2.2.2.2.2] rfl rfl ?c1 ?c2 ?c3 ?c4 ?c5 ?_)
          case c1 => exact cells_news w6 _ _
          case c2 => exact one_7 _ _ _ _ _ _ _ _ _
          case c3 => unfold maxLen; omega
          case c4 => omega
          case c5 => exact hbs
          intro v' w9 hown' hgrow hnil
          obtain ⟨g', cap', rfl⟩ := owns_shape hown'
          obtain ⟨D9, O9, hr0⟩ := HM.out
          have ND : DNet B g w w9 w9.heap.size (.slice (some ⟨g', 0, none⟩) (xs.length + 1) cap') (xs ++ [(0, 1, 4, u.2.2.2)]) := dn_app D9 O9 hl1 hl2 hdu (fun rows hr => by rw [rows_unique hr hr0]; exact hown') hgrow
          have HND : Hid _ := ND
          clear D9 O9 hr0 ND hown' hgrow hnil hrA hbs HM
          go_wp2
          go_roundw
          case rel => exact ⟨k - 1, xs ++ [(0, 1, 4, u.2.2.2)], _, _, _, by omega, by go_num, by rw [List.length_append]; rfl, by rw [List.length_append]; show xs.length + 1 + (k - 1) ≤ 7; omega, by rw [List.length_append]; exact HND.out⟩
          case measure => simp [intOf]; omega
    · have hk00 : k = 0 := by omega
      subst hk00
      have C := D.cur
      have HD : Hid _ := D
      clear D
      go_wp2_with fail
      refine (l1Once_small B g 40 _ C (by omega) (by omega)).mono ?_
      rintro e w2 ⟨b, rfl, C2, g2⟩
      have HD2 : Hid _ := dn_grown HD.out g2 C2
      clear C g2 HD
      cases b
      · go_wp2
        go_ret
        exact ⟨xs, au, cu, hh, rfl, by omega, HD2.out⟩
      · have D3 := dn_none C2 HD2.out.chg ⟨hgw, hBg⟩
        have HD3 : Hid _ := D3
        clear D3 HD2 C2
        go_wp2
        go_loopw [3] (fun r wr => ∃ (xs : List MsgD) (au : Option Addr) (cu hi : Nat), xs.length ≤ 61 ∧ r = .slice au xs.length cu ∧ DNet B g w wr hi (.slice au xs.length cu) xs) (fun r _ => 61 - slLen r)
        case atStart => exact ⟨[], _, _, _, by simp, rfl, HD3.out⟩
        case round =>
          clear HD3
          obtain ⟨xs, au, cu, hh, hx61, rfl, D⟩ := hrel
          have C := D.cur
          have HD : Hid _ := D
          clear D
          go_wp2_with fail
          refine (l1Below_small B g 2 _ C (by omega) (by omega)).mono ?_
          rintro e w3 ⟨y, rfl, y0, y1, C3, g3⟩
          have D := dn_grown HD.out g3 C3
          clear C g3 HD C3
          by_cases hlt : (xs.length : Int) < 60 + y
          · have OW : msgR.own w3 (rng w3.heap.size w3.heap.size) [.int .i64 0, .int .i64 0, .int .i64 0, .int .i64 1, .int .i64 0, .slice none 0 0, .int .i64 0] (0, 0, 0, 1, 0, [], 0) := own_msg (small64 (by omega) (by omega)) (small64 (by omega) (by omega)) (small64 (by omega) (by omega)) (small64 (by omega) (by omega)) (small64 (by omega) (by omega)) (small64 (by omega) (by omega)) (nil_ints _ _)
            have hl1 := D.top
            have hl2 : w.heap.size ≤ w3.heap.size := D.chg.size
            have hdu : ((0, 0, 0, 1, 0, [], 0) : MsgD).2.2.2.2.2.1.length ≤ 3 := by simp
            obtain ⟨rows0, hr0, hrl⟩ := slown_row D.own
            have hrA : (w3.alloc (.cells #[.int .i64 0, .int .i64 0, .int .i64 0, .int .i64 1, .int .i64 0, .slice none 0 0, .int .i64 0] 27)).ownsRow w.heap.size 27 7 (.slice au xs.length cu) xs.length rows0 := orow_keep hr0 fun g hg => by
              have hl := World.ownsRow.lt hr0 g hg
              rw [Below.heap_alloc _ _ _ hl.2]
            have hbs : w.heap.size ≤ (w3.alloc (.cells #[.int .i64 0, .int .i64 0, .int .i64 0, .int .i64 1, .int .i64 0, .slice none 0 0, .int .i64 0] 27)).heap.size := by have := D.chg.size; simp; omega
            have HM : Hid _ := And.intro D (And.intro OW hr0)
            clear OW D hr0 hrl
            go_wp2_with (at_builtin; refine wpList_append_own _ rfl _ _ 24 rfl w.heap.size 27 ti (.agg #[.int .i64 0, .int .i64 0, .int .i64 0, .int .i64 0, .int .i64 0, .slice none 0 0, .int .i64 0]) 7 72 Try.underlying24 hi hz0 hz1 hz2 rfl (by decide) _ _ _ rfl hrA ⟨w3.heap.size, 0, none⟩ 1 1 [.int .i64 0, .int .i64 0, .int .i64 0, .int .i64 1, .int .i64 0, .slice none 0 0, .int .i64 0] rfl rfl ?c1 ?c2 ?c3 ?c4 ?c5 ?_)
            case c1 => exact cells_news w3 _ _
            case c2 => exact one_7 _ _ _ _ _ _ _ _ _
            case c3 => unfold maxLen; omega
            case c4 => omega
            case c5 => exact hbs
            intro v' w9 hown' hgrow hnil
            obtain ⟨g', cap', rfl⟩ := owns_shape hown'
            obtain ⟨D9, O9, hr0⟩ := HM.out
            have ND : DNet B g w w9 w9.heap.size (.slice (some ⟨g', 0, none⟩) (xs.length + 1) cap') (xs ++ [(0, 0, 0, 1, 0, [], 0)]) := dn_app D9 O9 hl1 hl2 hdu (fun rows hr => by rw [rows_unique hr hr0]; exact hown') hgrow
            have HND : Hid _ := ND
            clear D9 O9 hr0 ND hown' hgrow hnil hrA hbs HM
            go_wp2
            go_roundw
            case rel => exact ⟨xs ++ [(0, 0, 0, 1, 0, [], 0)], _, _, _, by rw [List.length_append]; show xs.length + 1 ≤ 61; omega, by rw [List.length_append]; rfl, by rw [List.length_append]; exact HND.out⟩
            case measure => simp [slLen]; omega
          · have HD : Hid _ := D
            clear D
            go_wp2
            go_ret
            exact ⟨xs, au, cu, hh, rfl, hx61, HD.out⟩
end Go.Proofs.Ytfflmbpjolgghaa
