/- The contract of the specification's VictimBut. No condition. -/
import Derived.Test.YtlekomdloiamhaaTree5
import Derived.Test.YtlekomdloiamhaaCopies
namespace Go.Proofs.Ytlekomdloiamhaa
open Go.ChangeShapes Go.WideShapes Go.ChangeAt Go.RowKit

theorem app_next {w0 w w1 : World} {g cap m : Nat} {zs ys : List Int} {v' : Value} {o : Obj} (hb : Below w0.heap.size w0 w) (ho : OwnI w0.heap.size w g cap zs) (hm : (zs ++ ys).length = m)
    (h : w1.ownsRow w0.heap.size 2 1 v' (zs.length + ys.length) (zs.map (Value.int .i64) ++ ys.map (Value.int .i64))) (hg : (w.alloc o).grownBy w1 (some g)) (hv : v' ≠ .slice none 0 0) :
    ∃ g' cap', v' = .slice (some ⟨g', 0, none⟩) m cap' ∧ OwnI w0.heap.size w1 g' cap' (zs ++ ys) ∧ Below w0.heap.size w0 w1 := by
  have hl := owni_lt ho
  rcases h.2 with ⟨rfl, _⟩ | ⟨g', cap', cur, rfl, hgb, hh, rest⟩
  · exact absurd rfl hv
  refine ⟨g', cap', by rw [← hm]; simp, ?_, (hb.alloc hb.size o).grown hg (by simp; have := hb.size; omega) (fun k hk => by cases hk; exact hl.1)⟩
  unfold OwnI
  rw [List.map_append, List.length_append]
  exact h

theorem butL_nil (k : Int) : butL [] k = -1 := rfl
theorem butL_drop {zs : List Int} {j : Nat} (k : Int) (h : j < zs.length) : butL (zs.drop j) k = if inB k zs[j] then butL (zs.drop (j + 1)) k else zs[j] := by
  rw [List.drop_eq_getElem_cons h]
  cases hx : inB k zs[j]
  · rw [butL_hit hx]; simp
  · rw [butL_miss hx]; simp

set_option maxHeartbeats 1000000 in
theorem specBut_1 (t k : Int) (w : World) (hk : setB k = true) (ht : treeB t 1 = true) :
    Calls Try.prog 20 #[.int .i64 t, .int .i64 1, .int .i64 k] w fun e w' => e = .returned (.int .i64 (butL (ordI t 1) k)) ∧ Below w.heap.size w w' := by
  have HO : Hid (ordI t 1 = [goI t 1]) := rfl
  have own1 := owni_lit w #[.int .i64 (goI t 1)] [goI t 1] rfl (by simp [maxLen])
  have b1 := (Below.refl w.heap.size w).alloc (Nat.le_refl _) (.cells #[.int .i64 (goI t 1)] 2)
  go_enter Try.func20, Try.ntmps20
  go_wp2_with (first
    | (go_at_call 14; refine (specTreeOk_any _ _ _).mono ?_; rintro e w1 ⟨rfl, h⟩; rw [h]; clear h w1)
    | (go_at_call 41; refine (l1Set_any _ _).mono ?_; rintro e w1 ⟨rfl, h⟩; rw [h]; clear h w1)
    | (go_at_call 40; refine (l5Victim_in _ _ _ ht).mono ?_; rintro e w1 ⟨rfl, h⟩; rw [h]; clear h w1))
  generalize w.alloc (.cells #[.int .i64 (goI t 1)] 2) = wx at own1 b1 ⊢
  obtain ⟨zs, hz⟩ : ∃ zs : List Int, zs = [goI t 1] := ⟨_, rfl⟩
  have HZ : Hid (zs = [goI t 1]) := hz
  have hzl : zs.length = 1 := by rw [hz]; rfl
  have hr : Reads wx (some ⟨w.heap.size, 0, none⟩) zs := by rw [hz]; exact reads_owni own1
  clear hz
  have HB : Hid _ := b1
  clear b1 own1
  go_loop [10] (fun i => ∃ j : Nat, j ≤ 1 ∧ i = .int .i64 j ∧ butL zs k = butL (zs.drop j) k) (fun i => 1 - (intOf i).toNat)
  case atStart => exact ⟨0, by omega, rfl, rfl⟩
  case round =>
    obtain ⟨j, hj, rfl, hbut⟩ := hrel
    have HT : Hid _ := hbut
    clear hbut
    by_cases hlt : j < 1
    · rcases hr with hr | ⟨b1, o1, ha, hc1⟩
      · rw [hr] at hzl; simp at hzl
      cases ha
      have hlt2 : j < zs.length := by omega
      have g1 := hc1 j hlt2
      rw [Nat.zero_add] at g1
      have hlt' : (j : Int) < 1 := by omega
      have HD : Hid _ := butL_drop k hlt2
      clear hc1
      cases hx : inB k zs[j]
      · have HX : Hid (butL zs k = zs[j]) := by unfold Hid; rw [HT.out, HD.out, hx]; simp
        go_wp2_with (go_at_call 21; refine (specIn_any _ _ _).mono ?_; rintro e w1 ⟨rfl, h⟩; rw [h]; clear h w1)
        go_ret
        exact ⟨ret_int (by rw [← HX.out, HZ.out]; first | done | (rw [HO.out])), HB.out⟩
      · have HX : Hid (butL zs k = butL (zs.drop (j + 1)) k) := by unfold Hid; rw [HT.out, HD.out, hx]; simp
        go_wp2_with (go_at_call 21; refine (specIn_any _ _ _).mono ?_; rintro e w1 ⟨rfl, h⟩; rw [h]; clear h w1)
        go_round
        case rel => exact ⟨j + 1, by omega, by go_num, HX.out⟩
        case measure => simp [intOf]; omega
    · have hjl : j = 1 := by omega
      have HX : Hid (butL zs k = -1) := by unfold Hid; rw [HT.out, List.drop_of_length_le (by omega)]; rfl
      go_wp2_with fail
      go_ret
      exact ⟨ret_int (by rw [← HX.out, HZ.out]; first | done | (rw [HO.out])), HB.out⟩

set_option maxHeartbeats 1000000 in
theorem specBut_2 (t k : Int) (w : World) (hk : setB k = true) (ht : treeB t 2 = true) :
    Calls Try.prog 20 #[.int .i64 t, .int .i64 2, .int .i64 k] w fun e w' => e = .returned (.int .i64 (butL (ordI t 2) k)) ∧ Below w.heap.size w w' := by
  obtain ⟨i0, hi, hz0, hz1, hz2⟩ := info_parts Try.infoI
  have HO : Hid (ordI t 2 = [goI t 2] ++ [bits BinOp.xor IntKind.i64 (goI t 2) 1]) := rfl
  have own1 := owni_lit w #[.int .i64 (goI t 2)] [goI t 2] rfl (by simp [maxLen])
  have b1 := (Below.refl w.heap.size w).alloc (Nat.le_refl _) (.cells #[.int .i64 (goI t 2)] 2)
  go_enter Try.func20, Try.ntmps20
  go_wp2_with (first
    | (go_at_call 14; refine (specTreeOk_any _ _ _).mono ?_; rintro e w1 ⟨rfl, h⟩; rw [h]; clear h w1)
    | (go_at_call 41; refine (l1Set_any _ _).mono ?_; rintro e w1 ⟨rfl, h⟩; rw [h]; clear h w1)
    | (go_at_call 40; refine (l5Victim_in _ _ _ ht).mono ?_; rintro e w1 ⟨rfl, h⟩; rw [h]; clear h w1)
    | (at_builtin; refine wpList_append_own _ rfl _ _ 32 rfl w.heap.size 2 i0 (.int .i64 0) 1 8 Try.underlying32 hi hz0 hz1 hz2 rfl (by decide) _ _ _ rfl (own1.alloc _) ⟨_, 0, none⟩ 1 1 [.int .i64 (bits BinOp.xor IntKind.i64 (goI t 2) 1)] rfl rfl ?c1 ?c2 ?c3 ?c4 ?c5 ?_))
  case c1 =>
    intro j u hj
    match j, hj with
    | 0, hj => simp at hj; subst hj; first | (simp [Addr.add]; done) | (simp [Addr.add]; decide +kernel)
  case c2 => intro u hu; simp at hu; first | (subst hu; rfl) | (rcases hu with rfl | rfl <;> rfl)
  case c3 => unfold maxLen; simp
  case c4 => simp
  case c5 => simp; omega
  · intro v' w1 hown' hgrow hnil
    have hv : v' ≠ .slice none 0 0 := by simpa using hnil
    obtain ⟨g2, c2, rfl, own2, b2⟩ := app_next (m := 2) (zs := [goI t 2]) (ys := [bits BinOp.xor IntKind.i64 (goI t 2) 1]) b1 own1 rfl hown' hgrow hv
    clear hown' hgrow hnil hv own1 b1
    obtain ⟨zs, hz⟩ : ∃ zs : List Int, zs = [goI t 2] ++ [bits BinOp.xor IntKind.i64 (goI t 2) 1] := ⟨_, rfl⟩
    have HZ : Hid (zs = [goI t 2] ++ [bits BinOp.xor IntKind.i64 (goI t 2) 1]) := hz
    have hzl : zs.length = 2 := by rw [hz]; rfl
    have hr : Reads w1 (some ⟨g2, 0, none⟩) zs := by rw [hz]; exact reads_owni own2
    clear hz
    have HB : Hid _ := b2
    clear b2 own2
    go_wp2_with fail
    go_loop [10] (fun i => ∃ j : Nat, j ≤ 2 ∧ i = .int .i64 j ∧ butL zs k = butL (zs.drop j) k) (fun i => 2 - (intOf i).toNat)
    case atStart => exact ⟨0, by omega, rfl, rfl⟩
    case round =>
      obtain ⟨j, hj, rfl, hbut⟩ := hrel
      have HT : Hid _ := hbut
      clear hbut
      by_cases hlt : j < 2
      · rcases hr with hr | ⟨b1, o1, ha, hc1⟩
        · rw [hr] at hzl; simp at hzl
        cases ha
        have hlt2 : j < zs.length := by omega
        have g1 := hc1 j hlt2
        rw [Nat.zero_add] at g1
        have hlt' : (j : Int) < 2 := by omega
        have HD : Hid _ := butL_drop k hlt2
        clear hc1
        cases hx : inB k zs[j]
        · have HX : Hid (butL zs k = zs[j]) := by unfold Hid; rw [HT.out, HD.out, hx]; simp
          go_wp2_with (go_at_call 21; refine (specIn_any _ _ _).mono ?_; rintro e w1 ⟨rfl, h⟩; rw [h]; clear h w1)
          go_ret
          exact ⟨ret_int (by rw [← HX.out, HZ.out]; first | done | (rw [HO.out])), HB.out⟩
        · have HX : Hid (butL zs k = butL (zs.drop (j + 1)) k) := by unfold Hid; rw [HT.out, HD.out, hx]; simp
          go_wp2_with (go_at_call 21; refine (specIn_any _ _ _).mono ?_; rintro e w1 ⟨rfl, h⟩; rw [h]; clear h w1)
          go_round
          case rel => exact ⟨j + 1, by omega, by go_num, HX.out⟩
          case measure => simp [intOf]; omega
      · have hjl : j = 2 := by omega
        have HX : Hid (butL zs k = -1) := by unfold Hid; rw [HT.out, List.drop_of_length_le (by omega)]; rfl
        go_wp2_with fail
        go_ret
        exact ⟨ret_int (by rw [← HX.out, HZ.out]; first | done | (rw [HO.out])), HB.out⟩

end Go.Proofs.Ytlekomdloiamhaa
