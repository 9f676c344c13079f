/- The contracts of the draws of states, events, and how many others have it: some numbers are drawn, in their bounds; nothing that was there turns. Conditions: the bytes are at most 2^61. -/
import Derived.Test.YtapooehfoihdlaaDoorDrawLine
namespace Go.Proofs.YtapooehfoihdlaaDoor
open Go.ChangeShapes Go.WideShapes Go.ChangeAt Go.RowKit
set_option linter.unusedVariables false

set_option maxHeartbeats 400000 in
theorem drawNext_any (a : Option Addr) (len cap : Nat) (zs : List Int) (w : World) (hr : Row8 w a len zs) :
    Calls Tryd.prog 11 #[.slice a len cap] w fun e w' => ∃ x y : Int, e = .returned (.tuple #[.int .i64 x, .int .i64 y]) ∧ (-1 ≤ x ∧ x ≤ 7) ∧ (-1 ≤ y ∧ y ≤ 9) ∧ Below w.heap.size w w' := by
  go_enter Tryd.func11, Tryd.ntmps11
  go_wp2_with fail
  refine (l1New_any _ _ _ zs _ hr).mono ?_
  rintro e w1 ⟨rfl, hc1, hb1⟩
  go_wp2_with fail
  refine (l1From_small _ _ (-1) (7) _ hc1 (by omega) (by omega) (by omega) (by omega)).mono ?_
  rintro e w2 ⟨x, rfl, x0, x1, hc2, hg2⟩
  go_wp2_with fail
  refine (l1From_small _ _ (-1) (9) _ hc2 (by omega) (by omega) (by omega) (by omega)).mono ?_
  rintro e w3 ⟨y, rfl, y0, y1, hc3, hg3⟩
  go_wp2
  go_ret2
  exact ⟨x, y, rfl, ⟨x0, x1⟩, ⟨y0, y1⟩, below_of_grown hb1 (grown_trans hg2 hg3)⟩

set_option maxHeartbeats 400000 in
theorem drawAsks_any (a : Option Addr) (len cap : Nat) (zs : List Int) (w : World) (hr : Row8 w a len zs) :
    Calls Tryd.prog 13 #[.slice a len cap] w fun e w' => ∃ (x : Int) (y : Bool), e = .returned (.tuple #[.int .i64 x, .bool y]) ∧ (-1 ≤ x ∧ x ≤ 7) ∧ Below w.heap.size w w' := by
  go_enter Tryd.func13, Tryd.ntmps13
  go_wp2_with fail
  refine (l1New_any _ _ _ zs _ hr).mono ?_
  rintro e w1 ⟨rfl, hc1, hb1⟩
  go_wp2_with fail
  refine (l1From_small _ _ (-1) (7) _ hc1 (by omega) (by omega) (by omega) (by omega)).mono ?_
  rintro e w2 ⟨x, rfl, x0, x1, hc2, hg2⟩
  go_wp2_with fail
  refine (l1Once_small _ _ 2 _ hc2 (by omega) (by omega)).mono ?_
  rintro e w3 ⟨y, rfl, hc3, hg3⟩
  go_wp2
  go_ret2
  exact ⟨x, y, rfl, ⟨x0, x1⟩, below_of_grown hb1 (grown_trans hg2 hg3)⟩

set_option maxHeartbeats 400000 in
theorem drawGranted_any (a : Option Addr) (len cap : Nat) (zs : List Int) (w : World) (hr : Row8 w a len zs) :
    Calls Tryd.prog 20 #[.slice a len cap] w fun e w' => ∃ (y : Bool) (x : Int), e = .returned (.tuple #[.bool y, .int .i64 x]) ∧ (-1 ≤ x ∧ x ≤ 4) ∧ Below w.heap.size w w' := by
  go_enter Tryd.func20, Tryd.ntmps20
  go_wp2_with fail
  refine (l1New_any _ _ _ zs _ hr).mono ?_
  rintro e w1 ⟨rfl, hc1, hb1⟩
  go_wp2_with fail
  refine (l1Once_small _ _ 2 _ hc1 (by omega) (by omega)).mono ?_
  rintro e w2 ⟨y, rfl, hc2, hg2⟩
  go_wp2_with fail
  refine (l1From_small _ _ (-1) (4) _ hc2 (by omega) (by omega) (by omega) (by omega)).mono ?_
  rintro e w3 ⟨x, rfl, x0, x1, hc3, hg3⟩
  go_wp2
  go_ret2
  exact ⟨y, x, rfl, ⟨x0, x1⟩, below_of_grown hb1 (grown_trans hg2 hg3)⟩

theorem own_nil (w : World) : OwnI w.heap.size (w.alloc (.cells #[] 2)) w.heap.size 0 [] := World.ownsRow_lit _ #[] 0 (Nat.le_refl _) (Nat.zero_le _) rfl

set_option maxHeartbeats 2000000 in
theorem drawTogether_any (a : Option Addr) (len cap : Nat) (bs : List Int) (w : World) (hr : Row8 w a len bs) :
    Calls Tryd.prog 9 #[.slice a len cap] w fun e w' => ∃ g gc zs, e = .returned (.slice (some ⟨g, 0, none⟩) zs.length gc) ∧ zs.length ≤ 5 ∧ OwnI (w.heap.size + 1) w' g gc zs ∧ Below w.heap.size w w' := by
  obtain ⟨i0, hi, hz0, hz1, hz2⟩ := info_parts Tryd.infoI
  go_enter Tryd.func9, Tryd.ntmps9
  go_wp2_with fail
  refine (l1New_any _ _ _ bs _ hr).mono ?_
  rintro e w1 ⟨rfl, hc1, hb1⟩
  have hl1 := cur_lt hc1
  have o1 : OwnI (w.heap.size + 1) (w1.alloc (.cells #[] 2)) w1.heap.size 0 [] := owni_mono (own_nil w1) (by omega)
  have b1 := hb1.alloc hb1.size (.cells #[] 2)
  have hc1' := cur_alloc hc1 (.cells #[] 2)
  go_wp2_with fail
  refine (l1Below_small w.heap.size w.heap.size 5 _ hc1' (by omega) (by omega)).mono ?_
  rintro e w2 ⟨n, rfl, hn0, hn1, hc2, hg2⟩
  replace o1 := owni_grown o1 hg2 (by omega)
  replace b1 := b1.grown hg2 b1.size (fun j hj => by cases hj; exact Nat.le_refl _)
  clear hc1' hc1 hb1 hg2 hr
  obtain ⟨m0, rfl⟩ : ∃ m0 : Nat, n = m0 := ⟨n.toNat, by omega⟩
  generalize w1.heap.size = g1 at o1
  go_wp2_with fail
  go_loopw [4, 5] (fun out n wr => ∃ (m : Nat) (g gc : Nat) (zs : List Int), out = .slice (some ⟨g, 0, none⟩) zs.length gc ∧ n = .int .i64 m ∧ m + zs.length ≤ 4 ∧ OwnI (w.heap.size + 1) wr g gc zs ∧ Cur w.heap.size wr w.heap.size ∧ Below w.heap.size w wr) (fun _ n _ => (intOf n).toNat)
  case atStart => exact ⟨m0, _, _, [], rfl, rfl, by simp; omega, o1, hc2, b1⟩
  case round =>
    clear o1 hc2 b1 hl1
    obtain ⟨m, g, gc, zs, rfl, rfl, hmz, o3, hc3, b3⟩ := hrel
    by_cases hm : m = 0
    · subst hm
      go_wp2_with fail
      refine (l1Once_small w.heap.size w.heap.size 12 _ hc3 (by omega) (by omega)).mono ?_
      rintro e w3 ⟨b, rfl, hc5, hg5⟩
      have hgl0 := owni_lt o3
      replace o3 := owni_grown o3 hg5 (by omega)
      replace b3 := b3.grown hg5 b3.size (fun j hj => by cases hj; exact Nat.le_refl _)
      clear hc3 hg5 hgl0
      cases b
      · go_wp2
        go_ret
        exact ⟨g, gc, zs, rfl, by omega, o3, b3⟩
      · have hgs := cur_lt hc5
        go_wp2_with fail
        refine (l1Below_small w.heap.size w.heap.size 2 _ (cur_alloc hc5 _) (by omega) (by omega)).mono ?_
        rintro e w4 ⟨k, rfl, hk0, hk1, hc4, hg4⟩
        obtain ⟨v, hv⟩ := lit_cell (n := 2) hg4 hgs k hk0 hk1 (by
          intro j hj
          obtain rfl | rfl : j = 0 ∨ j = 1 := by omega
          all_goals exact ⟨_, rfl⟩)
        have hgl := owni_lt o3
        have o4 : OwnI (w.heap.size + 1) w4 g gc zs := owni_grown (owni_alloc o3 _) hg4 (by omega)
        have B4 : Below w.heap.size w w4 := (b3.alloc b3.size _).grown hg4 (by simp; have := b3.size; omega) (fun j hj => by cases hj; exact Nat.le_refl _)
        clear hg4
        go_wp2_with (at_builtin; refine wpList_append_own _ rfl _ _ 24 rfl (w.heap.size + 1) 2 i0 (.int .i64 0) 1 8 Tryd.underlying24 hi hz0 hz1 hz2 rfl (by decide) _ _ _ rfl (o4.alloc _) ⟨_, 0, none⟩ 1 1 [.int .i64 v] rfl rfl ?c1 ?c2 ?c3 ?c4 ?c5 ?_)
        case c1 =>
          intro j u hj
          match j, hj with
          | 0, hj => simp at hj; subst hj; simp [Addr.add]
        case c2 => intro u hu; simp at hu; subst hu; rfl
        case c3 => unfold maxLen; simp; omega
        case c4 => first | omega | (simp; omega)
        case c5 => have := cur_lt hc4; simp; omega
        · intro v' w5 hown hgr hnil
          have HD : Hid (∃ gn cn, v' = .slice (some ⟨gn, 0, none⟩) (zs ++ [v]).length cn ∧ OwnI (w.heap.size + 1) w5 gn cn (zs ++ [v]) ∧ Cur w.heap.size w5 w.heap.size ∧ Below w.heap.size w w5) := by
            have hgr' : (w4.alloc (.cells #[.int .i64 v] 2)).grownBy w5 (some g) := hgr
            rcases hown.2 with ⟨h', _⟩ | ⟨gn, cn, cur, rfl, hb, hh, rest⟩
            · exact absurd h' (by simpa using hnil)
            · refine ⟨gn, cn, by simp, ?_, cur_grown (cur_alloc hc4 _) hgr' (by omega) (by omega), (B4.alloc B4.size _).grown hgr' (by simp; have := B4.size; omega) (fun j hj => by cases hj; omega)⟩
              unfold OwnI
              rw [List.map_append, List.length_append]
              exact hown
          clear hown hgr hnil o4 B4 hc4 hv hgl o3 hc5 b3 hgs
          obtain ⟨gn, cn, rfl, o5, c5, B5⟩ := HD.out
          clear HD
          go_wp2
          go_ret
          exact ⟨gn, cn, zs ++ [v], rfl, by simp; omega, o5, B5⟩
    · obtain ⟨m', rfl⟩ : ∃ m', m = m' + 1 := ⟨m - 1, by omega⟩
      have hmp : (0 : Int) < ((m' + 1 : Nat) : Int) := by omega
      have hgs := cur_lt hc3
      go_wp2_with fail
      refine (l1Below_small w.heap.size w.heap.size 7 _ (cur_alloc hc3 _) (by omega) (by omega)).mono ?_
      rintro e w4 ⟨k, rfl, hk0, hk1, hc4, hg4⟩
      obtain ⟨v, hv⟩ := lit_cell (n := 7) hg4 hgs k hk0 hk1 (by
        intro j hj
        obtain rfl | rfl | rfl | rfl | rfl | rfl | rfl : j = 0 ∨ j = 1 ∨ j = 2 ∨ j = 3 ∨ j = 4 ∨ j = 5 ∨ j = 6 := by omega
        all_goals exact ⟨_, rfl⟩)
      have hgl := owni_lt o3
      have o4 : OwnI (w.heap.size + 1) w4 g gc zs := owni_grown (owni_alloc o3 _) hg4 (by omega)
      have B4 : Below w.heap.size w w4 := (b3.alloc b3.size _).grown hg4 (by simp; have := b3.size; omega) (fun j hj => by cases hj; exact Nat.le_refl _)
      clear hg4
      go_wp2_with (at_builtin; refine wpList_append_own _ rfl _ _ 24 rfl (w.heap.size + 1) 2 i0 (.int .i64 0) 1 8 Tryd.underlying24 hi hz0 hz1 hz2 rfl (by decide) _ _ _ rfl (o4.alloc _) ⟨_, 0, none⟩ 1 1 [.int .i64 v] rfl rfl ?c1 ?c2 ?c3 ?c4 ?c5 ?_)
      case c1 =>
        intro j u hj
        match j, hj with
        | 0, hj => simp at hj; subst hj; simp [Addr.add]
      case c2 => intro u hu; simp at hu; subst hu; rfl
      case c3 => unfold maxLen; simp; omega
      case c4 => first | omega | (simp; omega)
      case c5 => have := cur_lt hc4; simp; omega
      · intro v' w5 hown hgr hnil
        have HD : Hid (∃ gn cn, v' = .slice (some ⟨gn, 0, none⟩) (zs ++ [v]).length cn ∧ OwnI (w.heap.size + 1) w5 gn cn (zs ++ [v]) ∧ Cur w.heap.size w5 w.heap.size ∧ Below w.heap.size w w5) := by
          have hgr' : (w4.alloc (.cells #[.int .i64 v] 2)).grownBy w5 (some g) := hgr
          rcases hown.2 with ⟨h', _⟩ | ⟨gn, cn, cur, rfl, hb, hh, rest⟩
          · exact absurd h' (by simpa using hnil)
          · refine ⟨gn, cn, by simp, ?_, cur_grown (cur_alloc hc4 _) hgr' (by omega) (by omega), (B4.alloc B4.size _).grown hgr' (by simp; have := B4.size; omega) (fun j hj => by cases hj; omega)⟩
            unfold OwnI
            rw [List.map_append, List.length_append]
            exact hown
        clear hown hgr hnil o4 B4 hc4 hv hgl o3 hc3 b3 hgs
        obtain ⟨gn, cn, rfl, o5, c5, B5⟩ := HD.out
        clear HD
        go_wp2
        go_roundw
        case rel => exact ⟨m', gn, cn, zs ++ [v], rfl, by go_num, by simp; omega, o5, c5, B5⟩
        case measure => first | (simp [intOf]; done) | (simp [intOf]; omega)
end Go.Proofs.YtapooehfoihdlaaDoor
