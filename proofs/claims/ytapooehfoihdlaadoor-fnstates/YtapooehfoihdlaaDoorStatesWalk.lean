/- The law FnStates returns true at every code of at most 4096 bytes, and nothing that was there turns. -/
import Derived.Test.YtapooehfoihdlaaDoorGrantsWalk
import Derived.Test.YtapooehfoihdlaaDoorStFacts
import Derived.Test.YtapooehfoihdlaaDoorPick
import Derived.Deep.CutRange
namespace Go.Proofs.YtapooehfoihdlaaDoor
open Go.ChangeShapes Go.WideShapes Go.ChangeAt Go.RowKit
set_option linter.unusedVariables false

theorem next_two (st ev : Int) : ∃ (n : Int) (fi : Bool), nextV st ev = .tuple #[.int .i64 n, .bool fi] ∧ ((fi = false ∧ n = st) ∨ (fi = true ∧ 0 ≤ n ∧ n ≤ 3)) := by
  unfold nextV
  cases h : nextI st ev with
  | none => exact ⟨st, false, rfl, .inl ⟨rfl, rfl⟩⟩
  | some v => exact ⟨v, true, rfl, .inr ⟨rfl, next_in h⟩⟩
theorem next_some {a e : Int} (h : (nextI a e).isSome = true) : ∃ n, nextV a e = .tuple #[.int .i64 n, .bool true] := by
  unfold nextV
  rw [h]
  exact ⟨_, rfl⟩
/-- One number of the list set anew. -/
abbrev OwnK (B : Nat) (w : World) (g cap n : Nat) (ys : List Int) : Prop := w.ownsRow B 2 1 (.slice (some ⟨g, 0, none⟩) n cap) n (ys.map (Value.int .i64))
theorem ownk_set {B g cap n : Nat} {w : World} {ys : List Int} (h : OwnK B w g cap n ys) (k : Nat) (t : Int) : OwnK B (w.setCell ⟨g, k, none⟩ (.int .i64 t)) g cap n (ys.set k t) ∧ w.grownBy (w.setCell ⟨g, k, none⟩ (.int .i64 t)) (some g) := by
  have := World.ownsRow.stored h k (.int .i64 t)
  rwa [← List.map_set] at this
theorem ownk_cell {B g cap n : Nat} {w : World} {ys : List Int} (h : OwnK B w g cap n ys) {k : Nat} (hk : k < n) (hl : ys.length = n) : w.cell? ⟨g, k, none⟩ = some (.int .i64 (ys.getD k 0)) := by
  rw [World.ownsRow.cellAt h k (by omega), List.getElem?_map, List.getD_eq_getElem?_getD, List.getElem?_eq_getElem (by omega)]; rfl

theorem add_at (g j : Nat) : (⟨g, 0, none⟩ : Addr).add j = ⟨g, j, none⟩ := by cases j <;> simp [Addr.add]
theorem fin_any {B gx cx n : Nat} {wz : World} {fs : List Int} (h : OwnK B wz gx cx n fs) (hl : fs.length = n) (hn : n ≤ 5) (ht : togB fs = true) (hH : Hold wz) :
    Calls Tryd.prog 10 #[.slice (some ⟨gx, 0, none⟩) n cx] wz fun e w' => e = .returned (.bool true) ∧ Below wz.heap.size wz w' := by
  subst hl
  have := implTogether_any (some ⟨gx, 0, none⟩) fs cx wz (reads_own h) hH (fun p hp => by cases hp; exact (World.ownsRow.lt h gx rfl).2) (by omega)
  rwa [ht] at this
theorem cell_below {w w' : World} {b j : Nat} {v : Value} (hb : Below w.heap.size w w') (h : w.cell? ⟨b, j, none⟩ = some v) : w'.cell? ⟨b, j, none⟩ = some v :=
  (World.cell?_of_block (w := w) (a := ⟨b, j, none⟩) (hb.block b (World.block_lt_of_cell? w _ h))).trans h

set_option maxHeartbeats 8000000 in
set_option maxRecDepth 100000 in
theorem states_any (a : Option Addr) (len cap : Nat) (bs : List Int) (w : World) (hr : Row8 w a len bs) (hs : len ≤ 4096) (hby : ∀ j, j < len → 0 ≤ bs.getD j 0 ∧ bs.getD j 0 ≤ 255) (hh : Hold w) :
    Calls Tryd.prog 3 #[.slice a len cap] w fun e w' => e = .returned (.bool true) ∧ Below w.heap.size w w' := by
  have hbig : decide ((4096 : Int) < len) = false := by simp; omega
  go_enter Tryd.func3, Tryd.ntmps3
  go_wp2_with fail
  refine (big_any _ _ _ _).mono ?_
  rintro e w1 ⟨rfl, rfl⟩
  clear hbig
  go_wp2_with fail
  refine (drawTogether_any _ _ _ bs _ hr).mono ?_
  rintro e w2 ⟨g, gc, zs, rfl, hz, o2, b2⟩
  obtain ⟨tb, htb⟩ : ∃ tb, togB zs = tb := ⟨_, rfl⟩
  have HT : Hid (togB zs = tb) := htb
  have KT := implTogether_any (some ⟨g, 0, none⟩) zs gc w2 (reads_owni o2) (hh.to b2) (fun p hp => by cases hp; exact (owni_lt o2).2) (by omega)
  have KT2 : ∀ wx, Reads wx (some ⟨g, 0, none⟩) zs → Calls Tryd.prog 16 #[.slice (some ⟨g, 0, none⟩) zs.length gc] wx fun e w' => e = .returned (.bool tb) ∧ w' = wx := fun wx hx => by
    have := specTogether_any (some ⟨g, 0, none⟩) zs gc wx hx (by omega)
    rwa [htb] at this
  rw [htb] at KT
  clear htb
  go_wp2_with fail
  refine KT.mono ?_
  rintro e w3 ⟨rfl, b3⟩
  have B3 := below_step b2 b3
  have o3 := owni_below o2 b3 (owni_lt o2).2
  clear KT b2 b3 o2
  go_wp2_with fail
  refine (drawNext_any _ _ _ bs _ (row8_below hr B3)).mono ?_
  rintro e w4 ⟨st, ev, rfl, hst, hev, b4⟩
  have B4 := below_step B3 b4
  have o4 := owni_below o3 b4 (owni_lt o3).2
  clear B3 b4 o3
  obtain ⟨n, fi, hnv, hnf⟩ := next_two st ev
  have HN : Hid ((fi = false ∧ n = st) ∨ (fi = true ∧ 0 ≤ n ∧ n ≤ 3)) := hnf
  have KN := implNext_any st ev w4 (wf_small (by omega)) (wf_small (by omega))
  have KN2 : ∀ wx, Calls Tryd.prog 15 #[.int .i64 st, .int .i64 ev] wx fun e w' => e = .returned (.tuple #[.int .i64 n, .bool fi]) ∧ w' = wx := fun wx => by
    have := specNext_any st ev wx
    rwa [hnv] at this
  rw [hnv] at KN
  clear hnv hnf hst hev
  go_wp2_with fail
  refine KN.mono ?_
  rintro e w5 ⟨rfl, b5⟩
  have B5 := below_step B4 b5
  have o5 := owni_below o4 b5 (owni_lt o4).2
  clear KN B4 b5 o4
  go_wp2_with fail
  refine (drawAsks_any _ _ _ bs _ (row8_below hr B5)).mono ?_
  rintro e w6 ⟨aa, wt, rfl, haa, b6⟩
  have B6 := below_step B5 b6
  have o6 := owni_below o5 b6 (owni_lt o5).2
  clear B5 b6 o5
  obtain ⟨kk, hkk⟩ : ∃ kk, asksI aa wt = kk := ⟨_, rfl⟩
  have HK : Hid (asksI aa wt = kk) := hkk
  have KA := implAsks_any aa wt w6 (hh.to B6)
  have KA2 : ∀ wx, Calls Tryd.prog 17 #[.int .i64 aa, .bool wt] wx fun e w' => e = .returned (.int .i64 kk) ∧ w' = wx := fun wx => by
    have := specAsks_any aa wt wx
    rwa [hkk] at this
  rw [hkk] at KA
  clear hkk
  go_wp2_with fail
  refine KA.mono ?_
  rintro e w7 ⟨rfl, rfl⟩
  clear KA
  go_wp2_with fail
  refine (KN2 _).mono ?_
  rintro e w8 ⟨rfl, rfl⟩
  go_wp2_with fail
  refine (KT2 _ (reads_owni o6)).mono ?_
  rintro e w9 ⟨rfl, rfl⟩
  go_wp2_with fail
  refine (KA2 _).mono ?_
  rintro e w10 ⟨rfl, rfl⟩
  clear KN2 KT2 KA2
  go_upto_region 12 with fail
  go_cut [91] from 74 to 91 (fun q wx => q = .bool false ∧ wx = w10)
  case first =>
    cases fi
    · obtain rfl : n = st := by rcases HN.out with ⟨_, h⟩ | ⟨h, _⟩; · exact h
                                · cases h
      clear HN
      go_wp2
      go_meet
      case rel => exact ⟨rfl, rfl⟩
    · obtain ⟨hn0, hn3⟩ : 0 ≤ n ∧ n ≤ 3 := by rcases HN.out with ⟨h, _⟩ | ⟨_, h⟩; · cases h
                                              · exact h
      clear HN
      go_wp2
      go_meet
      case rel => exact ⟨by rw [decide_eq_false (show ¬ n < 0 by omega), decide_eq_false (show ¬ 3 < n by omega)]; rfl, rfl⟩
  case rest =>
    obtain ⟨rfl, rfl⟩ := hcut
    obtain ⟨W, hW⟩ : ∃ W : World, W = wc := ⟨_, rfl⟩
    subst hW
    clear HN
    go_upto_if 93 with fail
    go_cut [] from 92 to 102 (fun wx => Below W.heap.size W wx)
    case first =>
      by_cases hk0 : kk = 0
      · have HX := next_asks (show asksI aa wt = 0 by rw [HK.out, hk0])
        subst hk0
        clear HK
        cases wt
        · obtain ⟨x, hx⟩ := next_some HX
          have KX := implNext_any aa 1 W (wf_small (by omega)) (by decide)
          rw [show nextV aa 1 = _ from hx] at KX
          clear HX hx
          go_wp2_with fail
          refine KX.mono ?_
          rintro e wy ⟨rfl, by1⟩
          go_wp2
          go_meet
          case rel => exact by1
        · obtain ⟨x, hx⟩ := next_some HX
          have KX := implNext_any aa 2 W (wf_small (by omega)) (by decide)
          rw [show nextV aa 2 = _ from hx] at KX
          clear HX hx
          go_wp2_with fail
          refine KX.mono ?_
          rintro e wy ⟨rfl, by1⟩
          go_wp2
          go_meet
          case rel => exact by1
      · have hk1 : (kk == 0) = false := by simpa using hk0
        clear HK hk0
        go_wp2
        go_meet
        case rel => exact Below.refl _ _
    case rest =>
      obtain ⟨X, hX⟩ : ∃ X : World, X = wc := ⟨_, rfl⟩
      subst hX
      have B7 := below_step B6 hcut
      have o7 := owni_below o6 hcut (owni_lt o6).2
      clear B6 o6 hcut HK
      cases tb
      · go_wp2
        go_ret
        exact ⟨rfl, B7⟩
      · by_cases hzl : zs.length = 0
        · have hzl' : ((zs.length : Int) == 0) = true := by simpa using hzl
          have hz0 : zs = [] := List.length_eq_zero_iff.1 hzl
          subst hz0
          go_wp2
          go_ret
          exact ⟨rfl, B7⟩
        · have hzp : 0 < zs.length := by omega
          have hzl' : ((zs.length : Int) == 0) = false := by rw [beq_eq_false_iff_ne]; omega
          obtain ⟨i0, hi, hz0, hz1, hz2⟩ := info_parts Tryd.infoI
          go_wp2_with fail
          refine (pick_small _ _ _ bs 1 (zs.length : Int) _ (row8_below hr B7) hby hs (by omega) (by omega) (by omega) (by omega)).mono ?_
          rintro e Y ⟨⟨qi, rfl, hq0, hq1⟩, rfl⟩
          obtain ⟨q, rfl⟩ : ∃ q : Nat, qi = q := ⟨qi.toNat, by omega⟩
          have hq : q < zs.length := by omega
          have hown : (Y.alloc (.cells #[] 2)).ownsRow Y.heap.size 2 1 (.slice (some ⟨Y.heap.size, 0, none⟩) 0 0) 0 [] := World.ownsRow_lit _ #[] 0 (Nat.le_refl _) (Nat.zero_le _) rfl
          clear hq0 hq1 hr hby hs
          go_wp2_with (at_builtin; refine wpList_append_own _ rfl _ _ 24 rfl Y.heap.size 2 i0 (.int .i64 0) 1 8 Tryd.underlying24 hi hz0 hz1 hz2 rfl (by decide) _ _ _ rfl hown ⟨g, 0, none⟩ zs.length gc (zs.map (Value.int .i64)) rfl (by simp) ?c1 ?c2 ?c3 ?c4 ?c5 ?_)
          case c1 =>
            intro j u hj
            obtain ⟨hjl, rfl⟩ := List.getElem?_eq_some_iff.1 hj
            simp at hjl
            have g0 := ownk_cell o7 hjl rfl
            rw [add_at, World.cell?_alloc_past _ _ _ (World.block_lt_of_cell? _ _ g0), g0]
            simp [List.getD_eq_getElem?_getD, hjl]
          case c2 => intro u hu; simp at hu; obtain ⟨x, _, rfl⟩ := hu; rfl
          case c3 => unfold maxLen; omega
          case c4 => omega
          case c5 => simp
          intro v' w1 hown' hgrow hnil
          have HM : Made Y w1 v' zs := made_app hown' hgrow hnil
          clear hown' hgrow hnil hown o7 hi hz0 hz1 hz2
          obtain ⟨gx, cx, rfl, hgx, hgx', oX, bX⟩ := HM
          have hH := hh.to B7
          clear hh
          go_wp2_with fail
          go_loopw [18, 20] (fun oo i wl => ∃ (k : Nat) (ys : List Int) (ov : Int), i = .int .i64 k ∧ k ≤ zs.length ∧ oo = .int .i64 ov ∧ (0 ≤ ov ∧ ov ≤ k) ∧ Hid (StI wt zs q k ys ov) ∧ OwnK Y.heap.size wl gx cx zs.length ys ∧ Below Y.heap.size Y wl) (fun _ i _ => zs.length - (intOf i).toNat)
          case atStart => exact ⟨0, zs, 0, rfl, by omega, rfl, ⟨by omega, by omega⟩, by unfold Hid; exact sti_start wt zs q, oX, bX⟩
          case round =>
            clear oX bX hgx'
            obtain ⟨k, ys, ov, rfl, hkl, rfl, ⟨ho0, ho1⟩, HS, oK, bK⟩ := hrel
            by_cases hlt : k < zs.length
            · have hlt' : (k : Int) < (zs.length : Int) := by omega
              have cK := ownk_cell oK hlt HS.out.len
              have hb := tog_at HT.out hlt
              rw [HS.out.left k (Nat.le_refl _)] at cK
              obtain ⟨v, hv⟩ : ∃ v, zs.getD k 0 = v := ⟨_, rfl⟩
              have HV : Hid (zs.getD k 0 = v) := hv
              rw [hv] at cK hb
              clear hv
              by_cases hkq : k = q
              · obtain ⟨tt, htt⟩ : ∃ b : Bool, b = true := ⟨true, rfl⟩
                have hxe : ((k : Int) == (q : Int)) = tt := by rw [htt]; simp; omega
                have HS' : Hid (StI wt zs q (k + 1) ys ov) := by unfold Hid; exact sti_skip HS.out (.inl hkq)
                clear hkq HS HV hb cK
                go_wp2
                go_roundw
                case rel => exact ⟨k + 1, ys, ov, by go_num, by omega, rfl, ⟨ho0, by omega⟩, HS', oK, bK⟩
                case measure => first | (simp [intOf]; done) | (simp [intOf]; omega)
              · obtain ⟨ff, hff⟩ : ∃ b : Bool, b = false := ⟨false, rfl⟩
                have hxe : ((k : Int) == (q : Int)) = ff := by rw [hff]; simp; omega
                have HQ : Hid (k ≠ q) := hkq
                clear hkq
                rcases state4 hb with rfl | rfl | rfl | rfl
                · have HS' : Hid (StI wt zs q (k + 1) ys ov) := by unfold Hid; exact sti_skip HS.out (.inr HV.out)
                  clear HS HV hb
                  go_wp2
                  go_roundw
                  case rel => exact ⟨k + 1, ys, ov, by go_num, by omega, rfl, ⟨ho0, by omega⟩, HS', oK, bK⟩
                  case measure => first | (simp [intOf]; done) | (simp [intOf]; omega)
                · cases wt
                  · have HS' : Hid (StI false zs q (k + 1) (ys.set k 1) (ov + 1)) := by unfold Hid; exact sti_told HS.out hlt HQ.out (by rw [HV.out]; rfl) (.inr ⟨by decide, rfl⟩)
                    clear HS HV hb HQ
                    go_wp2_with fail
                    refine (implNext_any 1 3 _ (by decide) (by decide)).mono ?_
                    rintro e w5 ⟨rfl, b5⟩
                    rw [show nextV 1 3 = .tuple #[.int .i64 1, .bool false] from rfl]
                    have oK5 : OwnK Y.heap.size w5 gx cx zs.length ys := own_below oK b5 (oK.lt gx rfl).2
                    have bK5 := below_step bK b5
                    have c5 := (cell_below b5 cK)
                    have f5 : w5.frozen? ⟨gx, k, none⟩ = false := World.ownsRow.frozenAt oK5 k
                    have S := ownk_set oK5 k 1
                    have bS := bK5.grown S.2 bK5.size (fun j hj => by cases hj; exact hgx)
                    clear oK bK cK b5 oK5 bK5
                    go_wp2
                    go_roundw
                    case rel => exact ⟨k + 1, ys.set k 1, ov + 1, by go_num, by omega, by go_num, ⟨by omega, by omega⟩, HS', S.1, bS⟩
                    case measure => first | (simp [intOf]; done) | (simp [intOf]; omega)
                  · have HS' : Hid (StI true zs q (k + 1) (ys.set k 0) (ov)) := by unfold Hid; exact sti_told HS.out hlt HQ.out (by rw [HV.out]; rfl) (.inl ⟨rfl, rfl⟩)
                    clear HS HV hb HQ
                    go_wp2_with fail
                    refine (implNext_any 1 4 _ (by decide) (by decide)).mono ?_
                    rintro e w5 ⟨rfl, b5⟩
                    rw [show nextV 1 4 = .tuple #[.int .i64 0, .bool true] from rfl]
                    have oK5 : OwnK Y.heap.size w5 gx cx zs.length ys := own_below oK b5 (oK.lt gx rfl).2
                    have bK5 := below_step bK b5
                    have c5 := (cell_below b5 cK)
                    have f5 : w5.frozen? ⟨gx, k, none⟩ = false := World.ownsRow.frozenAt oK5 k
                    have S := ownk_set oK5 k 0
                    have bS := bK5.grown S.2 bK5.size (fun j hj => by cases hj; exact hgx)
                    clear oK bK cK b5 oK5 bK5
                    go_wp2
                    go_roundw
                    case rel => exact ⟨k + 1, ys.set k 0, ov, by go_num, by omega, rfl, ⟨by omega, by omega⟩, HS', S.1, bS⟩
                    case measure => first | (simp [intOf]; done) | (simp [intOf]; omega)
                · cases wt
                  · have HS' : Hid (StI false zs q (k + 1) (ys.set k 1) (ov + 1)) := by unfold Hid; exact sti_told HS.out hlt HQ.out (by rw [HV.out]; rfl) (.inr ⟨by decide, rfl⟩)
                    clear HS HV hb HQ
                    go_wp2_with fail
                    refine (implNext_any 2 3 _ (by decide) (by decide)).mono ?_
                    rintro e w5 ⟨rfl, b5⟩
                    rw [show nextV 2 3 = .tuple #[.int .i64 1, .bool true] from rfl]
                    have oK5 : OwnK Y.heap.size w5 gx cx zs.length ys := own_below oK b5 (oK.lt gx rfl).2
                    have bK5 := below_step bK b5
                    have c5 := (cell_below b5 cK)
                    have f5 : w5.frozen? ⟨gx, k, none⟩ = false := World.ownsRow.frozenAt oK5 k
                    have S := ownk_set oK5 k 1
                    have bS := bK5.grown S.2 bK5.size (fun j hj => by cases hj; exact hgx)
                    clear oK bK cK b5 oK5 bK5
                    go_wp2
                    go_roundw
                    case rel => exact ⟨k + 1, ys.set k 1, ov + 1, by go_num, by omega, by go_num, ⟨by omega, by omega⟩, HS', S.1, bS⟩
                    case measure => first | (simp [intOf]; done) | (simp [intOf]; omega)
                  · have HS' : Hid (StI true zs q (k + 1) (ys.set k 0) (ov)) := by unfold Hid; exact sti_told HS.out hlt HQ.out (by rw [HV.out]; rfl) (.inl ⟨rfl, rfl⟩)
                    clear HS HV hb HQ
                    go_wp2_with fail
                    refine (implNext_any 2 4 _ (by decide) (by decide)).mono ?_
                    rintro e w5 ⟨rfl, b5⟩
                    rw [show nextV 2 4 = .tuple #[.int .i64 0, .bool true] from rfl]
                    have oK5 : OwnK Y.heap.size w5 gx cx zs.length ys := own_below oK b5 (oK.lt gx rfl).2
                    have bK5 := below_step bK b5
                    have c5 := (cell_below b5 cK)
                    have f5 : w5.frozen? ⟨gx, k, none⟩ = false := World.ownsRow.frozenAt oK5 k
                    have S := ownk_set oK5 k 0
                    have bS := bK5.grown S.2 bK5.size (fun j hj => by cases hj; exact hgx)
                    clear oK bK cK b5 oK5 bK5
                    go_wp2
                    go_roundw
                    case rel => exact ⟨k + 1, ys.set k 0, ov, by go_num, by omega, rfl, ⟨by omega, by omega⟩, HS', S.1, bS⟩
                    case measure => first | (simp [intOf]; done) | (simp [intOf]; omega)
                · cases wt
                  · have HS' : Hid (StI false zs q (k + 1) (ys.set k 1) (ov + 1)) := by unfold Hid; exact sti_told HS.out hlt HQ.out (by rw [HV.out]; rfl) (.inr ⟨by decide, rfl⟩)
                    clear HS HV hb HQ
                    go_wp2_with fail
                    refine (implNext_any 3 3 _ (by decide) (by decide)).mono ?_
                    rintro e w5 ⟨rfl, b5⟩
                    rw [show nextV 3 3 = .tuple #[.int .i64 1, .bool true] from rfl]
                    have oK5 : OwnK Y.heap.size w5 gx cx zs.length ys := own_below oK b5 (oK.lt gx rfl).2
                    have bK5 := below_step bK b5
                    have c5 := (cell_below b5 cK)
                    have f5 : w5.frozen? ⟨gx, k, none⟩ = false := World.ownsRow.frozenAt oK5 k
                    have S := ownk_set oK5 k 1
                    have bS := bK5.grown S.2 bK5.size (fun j hj => by cases hj; exact hgx)
                    clear oK bK cK b5 oK5 bK5
                    go_wp2
                    go_roundw
                    case rel => exact ⟨k + 1, ys.set k 1, ov + 1, by go_num, by omega, by go_num, ⟨by omega, by omega⟩, HS', S.1, bS⟩
                    case measure => first | (simp [intOf]; done) | (simp [intOf]; omega)
                  · have HS' : Hid (StI true zs q (k + 1) (ys.set k 0) (ov)) := by unfold Hid; exact sti_told HS.out hlt HQ.out (by rw [HV.out]; rfl) (.inl ⟨rfl, rfl⟩)
                    clear HS HV hb HQ
                    go_wp2_with fail
                    refine (implNext_any 3 4 _ (by decide) (by decide)).mono ?_
                    rintro e w5 ⟨rfl, b5⟩
                    rw [show nextV 3 4 = .tuple #[.int .i64 0, .bool true] from rfl]
                    have oK5 : OwnK Y.heap.size w5 gx cx zs.length ys := own_below oK b5 (oK.lt gx rfl).2
                    have bK5 := below_step bK b5
                    have c5 := (cell_below b5 cK)
                    have f5 : w5.frozen? ⟨gx, k, none⟩ = false := World.ownsRow.frozenAt oK5 k
                    have S := ownk_set oK5 k 0
                    have bS := bK5.grown S.2 bK5.size (fun j hj => by cases hj; exact hgx)
                    clear oK bK cK b5 oK5 bK5
                    go_wp2
                    go_roundw
                    case rel => exact ⟨k + 1, ys.set k 0, ov, by go_num, by omega, rfl, ⟨by omega, by omega⟩, HS', S.1, bS⟩
                    case measure => first | (simp [intOf]; done) | (simp [intOf]; omega)
            · obtain rfl : k = zs.length := by omega
              clear hlt hkl
              have cQ := ownk_cell oK hq HS.out.len
              have hbq := tog_at HT.out hq
              rw [HS.out.who] at cQ
              have HL : Hid (ys.length = zs.length) := HS.out.len
              obtain ⟨y, hy⟩ : ∃ y, zs.getD q 0 = y := ⟨_, rfl⟩
              have HY : Hid (zs.getD q 0 = y) := hy
              rw [hy] at cQ hbq
              clear hy
              have hHl := hH.to bK
              have fQ := World.ownsRow.frozenAt oK q
              have hqi : (q : Int) < (zs.length : Int) := by omega
              have hwo : (Lit.int .i64 ov).wf = true := WalkArith.wf_i64 (by omega)
              cases wt
              · rcases state4 hbq with rfl | rfl | rfl | rfl
                · by_cases hov : ov = 0
                  · subst hov
                    have HF : Hid (togB (ys.set q 2) = true) := by unfold Hid; exact end_read0 HS.out hq
                    clear HS HY HT
                    go_wp2_with fail
                    refine (specAsks_any 0 false _).mono ?_
                    rintro e w4 ⟨rfl, rfl⟩
                    rw [show asksI 0 false = 1 from rfl]
                    go_wp2_with fail
                    refine (implGranted_any false 0 _ hHl (by decide)).mono ?_
                    rintro e w5 ⟨rfl, b5⟩
                    rw [show grantI false 0 = 2 from rfl]
                    have oK5 : OwnK Y.heap.size w5 gx cx zs.length ys := own_below oK b5 (oK.lt gx rfl).2
                    have bK5 := below_step bK b5
                    have c5 := cell_below b5 cQ
                    have f5 : w5.frozen? ⟨gx, q, none⟩ = false := World.ownsRow.frozenAt oK5 q
                    have S := ownk_set oK5 q 2
                    have bS := bK5.grown S.2 bK5.size (fun j hj => by cases hj; exact hgx)
                    have hHS := hH.to bS
                    clear oK bK cQ b5 oK5 bK5 hHl fQ
                    go_wp2_with fail
                    refine (fin_any S.1 (by rw [List.length_set]; exact HL.out) hz HF.out hHS).mono ?_
                    rintro e w9 ⟨rfl, b9⟩
                    go_wp2
                    go_ret
                    exact ⟨rfl, below_step (below_step B7 bS) b9⟩
                  · have HF : Hid (togB (ys.set q 1) = true) := by unfold Hid; exact end_read1 HS.out hq
                    have HG : Hid (grantI false ov = 1) := by unfold Hid grantI; rw [if_neg (by omega), if_neg (by simp), if_neg hov]
                    clear HS HY HT
                    go_wp2_with fail
                    refine (specAsks_any 0 false _).mono ?_
                    rintro e w4 ⟨rfl, rfl⟩
                    rw [show asksI 0 false = 1 from rfl]
                    go_wp2_with fail
                    refine (implGranted_any false ov _ hHl hwo).mono ?_
                    rintro e w5 ⟨rfl, b5⟩
                    rw [HG.out]
                    have oK5 : OwnK Y.heap.size w5 gx cx zs.length ys := own_below oK b5 (oK.lt gx rfl).2
                    have bK5 := below_step bK b5
                    have c5 := cell_below b5 cQ
                    have f5 : w5.frozen? ⟨gx, q, none⟩ = false := World.ownsRow.frozenAt oK5 q
                    have S := ownk_set oK5 q 1
                    have bS := bK5.grown S.2 bK5.size (fun j hj => by cases hj; exact hgx)
                    have hHS := hH.to bS
                    clear oK bK cQ b5 oK5 bK5 hHl fQ
                    go_wp2_with fail
                    refine (fin_any S.1 (by rw [List.length_set]; exact HL.out) hz HF.out hHS).mono ?_
                    rintro e w9 ⟨rfl, b9⟩
                    go_wp2
                    go_ret
                    exact ⟨rfl, below_step (below_step B7 bS) b9⟩
                · have HF : Hid (togB ys = true) := by unfold Hid; exact end_had HS.out hq HT.out (by rw [HY.out]; decide)
                  clear HS HY HT
                  go_wp2_with fail
                  refine (specAsks_any 1 false _).mono ?_
                  rintro e w4 ⟨rfl, rfl⟩
                  rw [show asksI 1 false = 0 from rfl]
                  go_wp2_with fail
                  refine (fin_any oK HL.out hz HF.out hHl).mono ?_
                  rintro e w9 ⟨rfl, b9⟩
                  go_wp2
                  go_ret
                  exact ⟨rfl, below_step (below_step B7 bK) b9⟩
                · have HF : Hid (togB ys = true) := by unfold Hid; exact end_had HS.out hq HT.out (by rw [HY.out]; decide)
                  clear HS HY HT
                  go_wp2_with fail
                  refine (specAsks_any 2 false _).mono ?_
                  rintro e w4 ⟨rfl, rfl⟩
                  rw [show asksI 2 false = 0 from rfl]
                  go_wp2_with fail
                  refine (fin_any oK HL.out hz HF.out hHl).mono ?_
                  rintro e w9 ⟨rfl, b9⟩
                  go_wp2
                  go_ret
                  exact ⟨rfl, below_step (below_step B7 bK) b9⟩
                · have HF : Hid (togB ys = true) := by unfold Hid; exact end_had HS.out hq HT.out (by rw [HY.out]; decide)
                  clear HS HY HT
                  go_wp2_with fail
                  refine (specAsks_any 3 false _).mono ?_
                  rintro e w4 ⟨rfl, rfl⟩
                  rw [show asksI 3 false = 0 from rfl]
                  go_wp2_with fail
                  refine (fin_any oK HL.out hz HF.out hHl).mono ?_
                  rintro e w9 ⟨rfl, b9⟩
                  go_wp2
                  go_ret
                  exact ⟨rfl, below_step (below_step B7 bK) b9⟩
              · have HF : Hid (togB (ys.set q 3) = true) := by unfold Hid; exact end_write HS.out hq
                have HG : Hid (grantI true ov = 3) := by unfold Hid grantI; rw [if_neg (by omega), if_pos rfl]
                clear HS HY HT
                rcases state4 hbq with rfl | rfl | rfl | rfl
                · go_wp2_with fail
                  refine (specAsks_any 0 true _).mono ?_
                  rintro e w4 ⟨rfl, rfl⟩
                  rw [show asksI 0 true = 2 from rfl]
                  go_wp2_with fail
                  refine (implGranted_any true ov _ hHl hwo).mono ?_
                  rintro e w5 ⟨rfl, b5⟩
                  rw [HG.out]
                  have oK5 : OwnK Y.heap.size w5 gx cx zs.length ys := own_below oK b5 (oK.lt gx rfl).2
                  have bK5 := below_step bK b5
                  have c5 := cell_below b5 cQ
                  have f5 : w5.frozen? ⟨gx, q, none⟩ = false := World.ownsRow.frozenAt oK5 q
                  have S := ownk_set oK5 q 3
                  have bS := bK5.grown S.2 bK5.size (fun j hj => by cases hj; exact hgx)
                  have hHS := hH.to bS
                  clear oK bK cQ b5 oK5 bK5 hHl fQ
                  go_wp2_with fail
                  refine (fin_any S.1 (by rw [List.length_set]; exact HL.out) hz HF.out hHS).mono ?_
                  rintro e w9 ⟨rfl, b9⟩
                  go_wp2
                  go_ret
                  exact ⟨rfl, below_step (below_step B7 bS) b9⟩
                · go_wp2_with fail
                  refine (specAsks_any 1 true _).mono ?_
                  rintro e w4 ⟨rfl, rfl⟩
                  rw [show asksI 1 true = 2 from rfl]
                  go_wp2_with fail
                  refine (implGranted_any true ov _ hHl hwo).mono ?_
                  rintro e w5 ⟨rfl, b5⟩
                  rw [HG.out]
                  have oK5 : OwnK Y.heap.size w5 gx cx zs.length ys := own_below oK b5 (oK.lt gx rfl).2
                  have bK5 := below_step bK b5
                  have c5 := cell_below b5 cQ
                  have f5 : w5.frozen? ⟨gx, q, none⟩ = false := World.ownsRow.frozenAt oK5 q
                  have S := ownk_set oK5 q 3
                  have bS := bK5.grown S.2 bK5.size (fun j hj => by cases hj; exact hgx)
                  have hHS := hH.to bS
                  clear oK bK cQ b5 oK5 bK5 hHl fQ
                  go_wp2_with fail
                  refine (fin_any S.1 (by rw [List.length_set]; exact HL.out) hz HF.out hHS).mono ?_
                  rintro e w9 ⟨rfl, b9⟩
                  go_wp2
                  go_ret
                  exact ⟨rfl, below_step (below_step B7 bS) b9⟩
                · go_wp2_with fail
                  refine (specAsks_any 2 true _).mono ?_
                  rintro e w4 ⟨rfl, rfl⟩
                  rw [show asksI 2 true = 0 from rfl]
                  have S := ownk_set oK q 3
                  have bS := bK.grown S.2 bK.size (fun j hj => by cases hj; exact hgx)
                  have hHS := hH.to bS
                  go_wp2_with fail
                  refine (fin_any S.1 (by rw [List.length_set]; exact HL.out) hz HF.out hHS).mono ?_
                  rintro e w9 ⟨rfl, b9⟩
                  go_wp2
                  go_ret
                  exact ⟨rfl, below_step (below_step B7 bS) b9⟩
                · go_wp2_with fail
                  refine (specAsks_any 3 true _).mono ?_
                  rintro e w4 ⟨rfl, rfl⟩
                  rw [show asksI 3 true = 0 from rfl]
                  have S := ownk_set oK q 3
                  have bS := bK.grown S.2 bK.size (fun j hj => by cases hj; exact hgx)
                  have hHS := hH.to bS
                  go_wp2_with fail
                  refine (fin_any S.1 (by rw [List.length_set]; exact HL.out) hz HF.out hHS).mono ?_
                  rintro e w9 ⟨rfl, b9⟩
                  go_wp2
                  go_ret
                  exact ⟨rfl, below_step (below_step B7 bS) b9⟩
end Go.Proofs.YtapooehfoihdlaaDoor
