/- The contract of the specification's VictimBut: four ways, and all. No condition. -/
import Derived.Test.YtlekomdloiamhaaTree6
namespace Go.Proofs.Ytlekomdloiamhaa
open Go.ChangeShapes Go.WideShapes Go.ChangeAt Go.RowKit

set_option maxHeartbeats 1000000 in
theorem specBut_40 (k : Int) (w : World) (hk : setB k = true) :
    Calls Try.prog 20 #[.int .i64 0, .int .i64 4, .int .i64 k] w fun e w' => e = .returned (.int .i64 (butL (ordI 0 4) k)) ∧ Below w.heap.size w w' := by
  obtain ⟨i0, hi, hz0, hz1, hz2⟩ := info_parts Try.infoI
  have ht : treeB 0 4 = true := by decide
  have HO : Hid (ordI 0 4 = [0] ++ [1] ++ [2, 3]) := by unfold Hid; decide +kernel
  have HA : Hid (goI 0 4 = 0) := by unfold Hid; decide +kernel
  have own1 := owni_lit w #[.int .i64 0] [0] rfl (by simp [maxLen])
  have b1 := (Below.refl w.heap.size w).alloc (Nat.le_refl _) (.cells #[.int .i64 0] 2)
  go_enter Try.func20, Try.ntmps20
  go_wp2_with (first
    | (go_at_call 14; refine (specTreeOk_any _ _ _).mono ?_; rintro e w1 ⟨rfl, h⟩; rw [h]; clear h w1)
    | (go_at_call 41; refine (l1Set_any _ _).mono ?_; rintro e w1 ⟨rfl, h⟩; rw [h]; clear h w1)
    | (go_at_call 40; refine (l5Victim_in _ _ _ ht).mono ?_; rintro e w1 ⟨rfl, h⟩; rw [h, HA.out]; clear h w1)
    | (at_builtin; refine wpList_append_own _ rfl _ _ 32 rfl w.heap.size 2 i0 (.int .i64 0) 1 8 Try.underlying32 hi hz0 hz1 hz2 rfl (by decide) _ _ _ rfl (own1.alloc _) ⟨_, 0, none⟩ 1 1 [.int .i64 (1)] rfl rfl ?c1 ?c2 ?c3 ?c4 ?c5 ?_))
  case c1 =>
    intro j u hj
    match j, hj with
    | 0, hj => simp at hj; subst hj; first | (simp [Addr.add]; done) | (simp [Addr.add]; decide +kernel)
  case c2 => intro u hu; simp at hu; first | (subst hu; rfl) | (rcases hu with rfl | rfl <;> rfl)
  case c3 => unfold maxLen; simp
  case c4 => simp
  case c5 => simp; omega
  · intro v' w1 hown' hgrow hnil
    have hv : v' ≠ .slice none 0 0 := by simpa using hnil
    obtain ⟨g2, c2, rfl, own2, b2⟩ := app_next (m := 2) (zs := [0]) (ys := [1]) b1 own1 rfl hown' hgrow hv
    clear hown' hgrow hnil hv own1 b1
    go_wp2_with (first
    | (at_builtin; refine wpList_append_own _ rfl _ _ 32 rfl w.heap.size 2 i0 (.int .i64 0) 1 8 Try.underlying32 hi hz0 hz1 hz2 rfl (by decide) _ _ _ rfl (own2.alloc _) ⟨_, 0, none⟩ 2 2 [.int .i64 (2), .int .i64 (3)] rfl rfl ?c1 ?c2 ?c3 ?c4 ?c5 ?_))
    case c1 =>
      intro j u hj
      match j, hj with
      | 0, hj => simp at hj; subst hj; first | (simp [Addr.add]; done) | (simp [Addr.add]; decide +kernel)
      | 1, hj => simp at hj; subst hj; first | (simp [Addr.add]; done) | (simp [Addr.add]; decide +kernel)
    case c2 => intro u hu; simp at hu; first | (subst hu; rfl) | (rcases hu with rfl | rfl <;> rfl)
    case c3 => unfold maxLen; simp
    case c4 => simp
    case c5 => have := b2.size; simp; omega
    · intro v' w2 hown' hgrow hnil
      have hv : v' ≠ .slice none 0 0 := by simpa using hnil
      obtain ⟨g3, c3, rfl, own3, b3⟩ := app_next (m := 4) (zs := [0] ++ [1]) (ys := [2, 3]) b2 own2 rfl hown' hgrow hv
      clear hown' hgrow hnil hv own2 b2
      obtain ⟨zs, hz⟩ : ∃ zs : List Int, zs = [0] ++ [1] ++ [2, 3] := ⟨_, rfl⟩
      have HZ : Hid (zs = [0] ++ [1] ++ [2, 3]) := hz
      have hzl : zs.length = 4 := by rw [hz]; rfl
      have hr : Reads w2 (some ⟨g3, 0, none⟩) zs := by rw [hz]; exact reads_owni own3
      clear hz
      have HB : Hid _ := b3
      clear b3 own3
      go_wp2_with fail
      go_loop [10] (fun i => ∃ j : Nat, j ≤ 4 ∧ i = .int .i64 j ∧ butL zs k = butL (zs.drop j) k) (fun i => 4 - (intOf i).toNat)
      case atStart => exact ⟨0, by omega, rfl, rfl⟩
      case round =>
        obtain ⟨j, hj, rfl, hbut⟩ := hrel
        have HT : Hid _ := hbut
        clear hbut
        by_cases hlt : j < 4
        · rcases hr with hr | ⟨b1, o1, ha, hc1⟩
          · rw [hr] at hzl; simp at hzl
          cases ha
          have hlt2 : j < zs.length := by omega
          have g1 := hc1 j hlt2
          rw [Nat.zero_add] at g1
          have hlt' : (j : Int) < 4 := by omega
          have HD : Hid _ := butL_drop k hlt2
          clear hc1
          cases hx : inB k zs[j]
          · have HX : Hid (butL zs k = zs[j]) := by unfold Hid; rw [HT.out, HD.out, hx]; simp
            go_wp2_with (go_at_call 21; refine (specIn_any _ _ _).mono ?_; rintro e w1 ⟨rfl, h⟩; rw [h]; clear h w1)
            go_ret
            exact ⟨ret_int (by rw [← HX.out, HZ.out]; first | done | (rw [HO.out])), HB.out⟩
          · have HX : Hid (butL zs k = butL (zs.drop (j + 1)) k) := by unfold Hid; rw [HT.out, HD.out, hx]; simp
            go_wp2_with (go_at_call 21; refine (specIn_any _ _ _).mono ?_; rintro e w1 ⟨rfl, h⟩; rw [h]; clear h w1)
            go_round
            case rel => exact ⟨j + 1, by omega, by go_num, HX.out⟩
            case measure => simp [intOf]; omega
        · have hjl : j = 4 := by omega
          have HX : Hid (butL zs k = -1) := by unfold Hid; rw [HT.out, List.drop_of_length_le (by omega)]; rfl
          go_wp2_with fail
          go_ret
          exact ⟨ret_int (by rw [← HX.out, HZ.out]; first | done | (rw [HO.out])), HB.out⟩

set_option maxHeartbeats 1000000 in
theorem specBut_41 (k : Int) (w : World) (hk : setB k = true) :
    Calls Try.prog 20 #[.int .i64 1, .int .i64 4, .int .i64 k] w fun e w' => e = .returned (.int .i64 (butL (ordI 1 4) k)) ∧ Below w.heap.size w w' := by
  obtain ⟨i0, hi, hz0, hz1, hz2⟩ := info_parts Try.infoI
  have ht : treeB 1 4 = true := by decide
  have HO : Hid (ordI 1 4 = [2] ++ [3] ++ [0, 1]) := by unfold Hid; decide +kernel
  have HA : Hid (goI 1 4 = 2) := by unfold Hid; decide +kernel
  have own1 := owni_lit w #[.int .i64 2] [2] rfl (by simp [maxLen])
  have b1 := (Below.refl w.heap.size w).alloc (Nat.le_refl _) (.cells #[.int .i64 2] 2)
  go_enter Try.func20, Try.ntmps20
  go_wp2_with (first
    | (go_at_call 14; refine (specTreeOk_any _ _ _).mono ?_; rintro e w1 ⟨rfl, h⟩; rw [h]; clear h w1)
    | (go_at_call 41; refine (l1Set_any _ _).mono ?_; rintro e w1 ⟨rfl, h⟩; rw [h]; clear h w1)
    | (go_at_call 40; refine (l5Victim_in _ _ _ ht).mono ?_; rintro e w1 ⟨rfl, h⟩; rw [h, HA.out]; clear h w1)
    | (at_builtin; refine wpList_append_own _ rfl _ _ 32 rfl w.heap.size 2 i0 (.int .i64 0) 1 8 Try.underlying32 hi hz0 hz1 hz2 rfl (by decide) _ _ _ rfl (own1.alloc _) ⟨_, 0, none⟩ 1 1 [.int .i64 (3)] rfl rfl ?c1 ?c2 ?c3 ?c4 ?c5 ?_))
  case c1 =>
    intro j u hj
    match j, hj with
    | 0, hj => simp at hj; subst hj; first | (simp [Addr.add]; done) | (simp [Addr.add]; decide +kernel)
  case c2 => intro u hu; simp at hu; first | (subst hu; rfl) | (rcases hu with rfl | rfl <;> rfl)
  case c3 => unfold maxLen; simp
  case c4 => simp
  case c5 => simp; omega
  · intro v' w1 hown' hgrow hnil
    have hv : v' ≠ .slice none 0 0 := by simpa using hnil
    obtain ⟨g2, c2, rfl, own2, b2⟩ := app_next (m := 2) (zs := [2]) (ys := [3]) b1 own1 rfl hown' hgrow hv
    clear hown' hgrow hnil hv own1 b1
    go_wp2_with (first
    | (at_builtin; refine wpList_append_own _ rfl _ _ 32 rfl w.heap.size 2 i0 (.int .i64 0) 1 8 Try.underlying32 hi hz0 hz1 hz2 rfl (by decide) _ _ _ rfl (own2.alloc _) ⟨_, 0, none⟩ 2 2 [.int .i64 (0), .int .i64 (1)] rfl rfl ?c1 ?c2 ?c3 ?c4 ?c5 ?_))
    case c1 =>
      intro j u hj
      match j, hj with
      | 0, hj => simp at hj; subst hj; first | (simp [Addr.add]; done) | (simp [Addr.add]; decide +kernel)
      | 1, hj => simp at hj; subst hj; first | (simp [Addr.add]; done) | (simp [Addr.add]; decide +kernel)
    case c2 => intro u hu; simp at hu; first | (subst hu; rfl) | (rcases hu with rfl | rfl <;> rfl)
    case c3 => unfold maxLen; simp
    case c4 => simp
    case c5 => have := b2.size; simp; omega
    · intro v' w2 hown' hgrow hnil
      have hv : v' ≠ .slice none 0 0 := by simpa using hnil
      obtain ⟨g3, c3, rfl, own3, b3⟩ := app_next (m := 4) (zs := [2] ++ [3]) (ys := [0, 1]) b2 own2 rfl hown' hgrow hv
      clear hown' hgrow hnil hv own2 b2
      obtain ⟨zs, hz⟩ : ∃ zs : List Int, zs = [2] ++ [3] ++ [0, 1] := ⟨_, rfl⟩
      have HZ : Hid (zs = [2] ++ [3] ++ [0, 1]) := hz
      have hzl : zs.length = 4 := by rw [hz]; rfl
      have hr : Reads w2 (some ⟨g3, 0, none⟩) zs := by rw [hz]; exact reads_owni own3
      clear hz
      have HB : Hid _ := b3
      clear b3 own3
      go_wp2_with fail
      go_loop [10] (fun i => ∃ j : Nat, j ≤ 4 ∧ i = .int .i64 j ∧ butL zs k = butL (zs.drop j) k) (fun i => 4 - (intOf i).toNat)
      case atStart => exact ⟨0, by omega, rfl, rfl⟩
      case round =>
        obtain ⟨j, hj, rfl, hbut⟩ := hrel
        have HT : Hid _ := hbut
        clear hbut
        by_cases hlt : j < 4
        · rcases hr with hr | ⟨b1, o1, ha, hc1⟩
          · rw [hr] at hzl; simp at hzl
          cases ha
          have hlt2 : j < zs.length := by omega
          have g1 := hc1 j hlt2
          rw [Nat.zero_add] at g1
          have hlt' : (j : Int) < 4 := by omega
          have HD : Hid _ := butL_drop k hlt2
          clear hc1
          cases hx : inB k zs[j]
          · have HX : Hid (butL zs k = zs[j]) := by unfold Hid; rw [HT.out, HD.out, hx]; simp
            go_wp2_with (go_at_call 21; refine (specIn_any _ _ _).mono ?_; rintro e w1 ⟨rfl, h⟩; rw [h]; clear h w1)
            go_ret
            exact ⟨ret_int (by rw [← HX.out, HZ.out]; first | done | (rw [HO.out])), HB.out⟩
          · have HX : Hid (butL zs k = butL (zs.drop (j + 1)) k) := by unfold Hid; rw [HT.out, HD.out, hx]; simp
            go_wp2_with (go_at_call 21; refine (specIn_any _ _ _).mono ?_; rintro e w1 ⟨rfl, h⟩; rw [h]; clear h w1)
            go_round
            case rel => exact ⟨j + 1, by omega, by go_num, HX.out⟩
            case measure => simp [intOf]; omega
        · have hjl : j = 4 := by omega
          have HX : Hid (butL zs k = -1) := by unfold Hid; rw [HT.out, List.drop_of_length_le (by omega)]; rfl
          go_wp2_with fail
          go_ret
          exact ⟨ret_int (by rw [← HX.out, HZ.out]; first | done | (rw [HO.out])), HB.out⟩

set_option maxHeartbeats 1000000 in
theorem specBut_42 (k : Int) (w : World) (hk : setB k = true) :
    Calls Try.prog 20 #[.int .i64 2, .int .i64 4, .int .i64 k] w fun e w' => e = .returned (.int .i64 (butL (ordI 2 4) k)) ∧ Below w.heap.size w w' := by
  obtain ⟨i0, hi, hz0, hz1, hz2⟩ := info_parts Try.infoI
  have ht : treeB 2 4 = true := by decide
  have HO : Hid (ordI 2 4 = [1] ++ [0] ++ [2, 3]) := by unfold Hid; decide +kernel
  have HA : Hid (goI 2 4 = 1) := by unfold Hid; decide +kernel
  have own1 := owni_lit w #[.int .i64 1] [1] rfl (by simp [maxLen])
  have b1 := (Below.refl w.heap.size w).alloc (Nat.le_refl _) (.cells #[.int .i64 1] 2)
  go_enter Try.func20, Try.ntmps20
  go_wp2_with (first
    | (go_at_call 14; refine (specTreeOk_any _ _ _).mono ?_; rintro e w1 ⟨rfl, h⟩; rw [h]; clear h w1)
    | (go_at_call 41; refine (l1Set_any _ _).mono ?_; rintro e w1 ⟨rfl, h⟩; rw [h]; clear h w1)
    | (go_at_call 40; refine (l5Victim_in _ _ _ ht).mono ?_; rintro e w1 ⟨rfl, h⟩; rw [h, HA.out]; clear h w1)
    | (at_builtin; refine wpList_append_own _ rfl _ _ 32 rfl w.heap.size 2 i0 (.int .i64 0) 1 8 Try.underlying32 hi hz0 hz1 hz2 rfl (by decide) _ _ _ rfl (own1.alloc _) ⟨_, 0, none⟩ 1 1 [.int .i64 (0)] rfl rfl ?c1 ?c2 ?c3 ?c4 ?c5 ?_))
  case c1 =>
    intro j u hj
    match j, hj with
    | 0, hj => simp at hj; subst hj; first | (simp [Addr.add]; done) | (simp [Addr.add]; decide +kernel)
  case c2 => intro u hu; simp at hu; first | (subst hu; rfl) | (rcases hu with rfl | rfl <;> rfl)
  case c3 => unfold maxLen; simp
  case c4 => simp
  case c5 => simp; omega
  · intro v' w1 hown' hgrow hnil
    have hv : v' ≠ .slice none 0 0 := by simpa using hnil
    obtain ⟨g2, c2, rfl, own2, b2⟩ := app_next (m := 2) (zs := [1]) (ys := [0]) b1 own1 rfl hown' hgrow hv
    clear hown' hgrow hnil hv own1 b1
    go_wp2_with (first
    | (at_builtin; refine wpList_append_own _ rfl _ _ 32 rfl w.heap.size 2 i0 (.int .i64 0) 1 8 Try.underlying32 hi hz0 hz1 hz2 rfl (by decide) _ _ _ rfl (own2.alloc _) ⟨_, 0, none⟩ 2 2 [.int .i64 (2), .int .i64 (3)] rfl rfl ?c1 ?c2 ?c3 ?c4 ?c5 ?_))
    case c1 =>
      intro j u hj
      match j, hj with
      | 0, hj => simp at hj; subst hj; first | (simp [Addr.add]; done) | (simp [Addr.add]; decide +kernel)
      | 1, hj => simp at hj; subst hj; first | (simp [Addr.add]; done) | (simp [Addr.add]; decide +kernel)
    case c2 => intro u hu; simp at hu; first | (subst hu; rfl) | (rcases hu with rfl | rfl <;> rfl)
    case c3 => unfold maxLen; simp
    case c4 => simp
    case c5 => have := b2.size; simp; omega
    · intro v' w2 hown' hgrow hnil
      have hv : v' ≠ .slice none 0 0 := by simpa using hnil
      obtain ⟨g3, c3, rfl, own3, b3⟩ := app_next (m := 4) (zs := [1] ++ [0]) (ys := [2, 3]) b2 own2 rfl hown' hgrow hv
      clear hown' hgrow hnil hv own2 b2
      obtain ⟨zs, hz⟩ : ∃ zs : List Int, zs = [1] ++ [0] ++ [2, 3] := ⟨_, rfl⟩
      have HZ : Hid (zs = [1] ++ [0] ++ [2, 3]) := hz
      have hzl : zs.length = 4 := by rw [hz]; rfl
      have hr : Reads w2 (some ⟨g3, 0, none⟩) zs := by rw [hz]; exact reads_owni own3
      clear hz
      have HB : Hid _ := b3
      clear b3 own3
      go_wp2_with fail
      go_loop [10] (fun i => ∃ j : Nat, j ≤ 4 ∧ i = .int .i64 j ∧ butL zs k = butL (zs.drop j) k) (fun i => 4 - (intOf i).toNat)
      case atStart => exact ⟨0, by omega, rfl, rfl⟩
      case round =>
        obtain ⟨j, hj, rfl, hbut⟩ := hrel
        have HT : Hid _ := hbut
        clear hbut
        by_cases hlt : j < 4
        · rcases hr with hr | ⟨b1, o1, ha, hc1⟩
          · rw [hr] at hzl; simp at hzl
          cases ha
          have hlt2 : j < zs.length := by omega
          have g1 := hc1 j hlt2
          rw [Nat.zero_add] at g1
          have hlt' : (j : Int) < 4 := by omega
          have HD : Hid _ := butL_drop k hlt2
          clear hc1
          cases hx : inB k zs[j]
          · have HX : Hid (butL zs k = zs[j]) := by unfold Hid; rw [HT.out, HD.out, hx]; simp
            go_wp2_with (go_at_call 21; refine (specIn_any _ _ _).mono ?_; rintro e w1 ⟨rfl, h⟩; rw [h]; clear h w1)
            go_ret
            exact ⟨ret_int (by rw [← HX.out, HZ.out]; first | done | (rw [HO.out])), HB.out⟩
          · have HX : Hid (butL zs k = butL (zs.drop (j + 1)) k) := by unfold Hid; rw [HT.out, HD.out, hx]; simp
            go_wp2_with (go_at_call 21; refine (specIn_any _ _ _).mono ?_; rintro e w1 ⟨rfl, h⟩; rw [h]; clear h w1)
            go_round
            case rel => exact ⟨j + 1, by omega, by go_num, HX.out⟩
            case measure => simp [intOf]; omega
        · have hjl : j = 4 := by omega
          have HX : Hid (butL zs k = -1) := by unfold Hid; rw [HT.out, List.drop_of_length_le (by omega)]; rfl
          go_wp2_with fail
          go_ret
          exact ⟨ret_int (by rw [← HX.out, HZ.out]; first | done | (rw [HO.out])), HB.out⟩

set_option maxHeartbeats 1000000 in
theorem specBut_43 (k : Int) (w : World) (hk : setB k = true) :
    Calls Try.prog 20 #[.int .i64 3, .int .i64 4, .int .i64 k] w fun e w' => e = .returned (.int .i64 (butL (ordI 3 4) k)) ∧ Below w.heap.size w w' := by
  obtain ⟨i0, hi, hz0, hz1, hz2⟩ := info_parts Try.infoI
  have ht : treeB 3 4 = true := by decide
  have HO : Hid (ordI 3 4 = [2] ++ [3] ++ [1, 0]) := by unfold Hid; decide +kernel
  have HA : Hid (goI 3 4 = 2) := by unfold Hid; decide +kernel
  have own1 := owni_lit w #[.int .i64 2] [2] rfl (by simp [maxLen])
  have b1 := (Below.refl w.heap.size w).alloc (Nat.le_refl _) (.cells #[.int .i64 2] 2)
  go_enter Try.func20, Try.ntmps20
  go_wp2_with (first
    | (go_at_call 14; refine (specTreeOk_any _ _ _).mono ?_; rintro e w1 ⟨rfl, h⟩; rw [h]; clear h w1)
    | (go_at_call 41; refine (l1Set_any _ _).mono ?_; rintro e w1 ⟨rfl, h⟩; rw [h]; clear h w1)
    | (go_at_call 40; refine (l5Victim_in _ _ _ ht).mono ?_; rintro e w1 ⟨rfl, h⟩; rw [h, HA.out]; clear h w1)
    | (at_builtin; refine wpList_append_own _ rfl _ _ 32 rfl w.heap.size 2 i0 (.int .i64 0) 1 8 Try.underlying32 hi hz0 hz1 hz2 rfl (by decide) _ _ _ rfl (own1.alloc _) ⟨_, 0, none⟩ 1 1 [.int .i64 (3)] rfl rfl ?c1 ?c2 ?c3 ?c4 ?c5 ?_))
  case c1 =>
    intro j u hj
    match j, hj with
    | 0, hj => simp at hj; subst hj; first | (simp [Addr.add]; done) | (simp [Addr.add]; decide +kernel)
  case c2 => intro u hu; simp at hu; first | (subst hu; rfl) | (rcases hu with rfl | rfl <;> rfl)
  case c3 => unfold maxLen; simp
  case c4 => simp
  case c5 => simp; omega
  · intro v' w1 hown' hgrow hnil
    have hv : v' ≠ .slice none 0 0 := by simpa using hnil
    obtain ⟨g2, c2, rfl, own2, b2⟩ := app_next (m := 2) (zs := [2]) (ys := [3]) b1 own1 rfl hown' hgrow hv
    clear hown' hgrow hnil hv own1 b1
    go_wp2_with (first
    | (at_builtin; refine wpList_append_own _ rfl _ _ 32 rfl w.heap.size 2 i0 (.int .i64 0) 1 8 Try.underlying32 hi hz0 hz1 hz2 rfl (by decide) _ _ _ rfl (own2.alloc _) ⟨_, 0, none⟩ 2 2 [.int .i64 (1), .int .i64 (0)] rfl rfl ?c1 ?c2 ?c3 ?c4 ?c5 ?_))
    case c1 =>
      intro j u hj
      match j, hj with
      | 0, hj => simp at hj; subst hj; first | (simp [Addr.add]; done) | (simp [Addr.add]; decide +kernel)
      | 1, hj => simp at hj; subst hj; first | (simp [Addr.add]; done) | (simp [Addr.add]; decide +kernel)
    case c2 => intro u hu; simp at hu; first | (subst hu; rfl) | (rcases hu with rfl | rfl <;> rfl)
    case c3 => unfold maxLen; simp
    case c4 => simp
    case c5 => have := b2.size; simp; omega
    · intro v' w2 hown' hgrow hnil
      have hv : v' ≠ .slice none 0 0 := by simpa using hnil
      obtain ⟨g3, c3, rfl, own3, b3⟩ := app_next (m := 4) (zs := [2] ++ [3]) (ys := [1, 0]) b2 own2 rfl hown' hgrow hv
      clear hown' hgrow hnil hv own2 b2
      obtain ⟨zs, hz⟩ : ∃ zs : List Int, zs = [2] ++ [3] ++ [1, 0] := ⟨_, rfl⟩
      have HZ : Hid (zs = [2] ++ [3] ++ [1, 0]) := hz
      have hzl : zs.length = 4 := by rw [hz]; rfl
      have hr : Reads w2 (some ⟨g3, 0, none⟩) zs := by rw [hz]; exact reads_owni own3
      clear hz
      have HB : Hid _ := b3
      clear b3 own3
      go_wp2_with fail
      go_loop [10] (fun i => ∃ j : Nat, j ≤ 4 ∧ i = .int .i64 j ∧ butL zs k = butL (zs.drop j) k) (fun i => 4 - (intOf i).toNat)
      case atStart => exact ⟨0, by omega, rfl, rfl⟩
      case round =>
        obtain ⟨j, hj, rfl, hbut⟩ := hrel
        have HT : Hid _ := hbut
        clear hbut
        by_cases hlt : j < 4
        · rcases hr with hr | ⟨b1, o1, ha, hc1⟩
          · rw [hr] at hzl; simp at hzl
          cases ha
          have hlt2 : j < zs.length := by omega
          have g1 := hc1 j hlt2
          rw [Nat.zero_add] at g1
          have hlt' : (j : Int) < 4 := by omega
          have HD : Hid _ := butL_drop k hlt2
          clear hc1
          cases hx : inB k zs[j]
          · have HX : Hid (butL zs k = zs[j]) := by unfold Hid; rw [HT.out, HD.out, hx]; simp
            go_wp2_with (go_at_call 21; refine (specIn_any _ _ _).mono ?_; rintro e w1 ⟨rfl, h⟩; rw [h]; clear h w1)
            go_ret
            exact ⟨ret_int (by rw [← HX.out, HZ.out]; first | done | (rw [HO.out])), HB.out⟩
          · have HX : Hid (butL zs k = butL (zs.drop (j + 1)) k) := by unfold Hid; rw [HT.out, HD.out, hx]; simp
            go_wp2_with (go_at_call 21; refine (specIn_any _ _ _).mono ?_; rintro e w1 ⟨rfl, h⟩; rw [h]; clear h w1)
            go_round
            case rel => exact ⟨j + 1, by omega, by go_num, HX.out⟩
            case measure => simp [intOf]; omega
        · have hjl : j = 4 := by omega
          have HX : Hid (butL zs k = -1) := by unfold Hid; rw [HT.out, List.drop_of_length_le (by omega)]; rfl
          go_wp2_with fail
          go_ret
          exact ⟨ret_int (by rw [← HX.out, HZ.out]; first | done | (rw [HO.out])), HB.out⟩

set_option maxHeartbeats 1000000 in
theorem specBut_44 (k : Int) (w : World) (hk : setB k = true) :
    Calls Try.prog 20 #[.int .i64 4, .int .i64 4, .int .i64 k] w fun e w' => e = .returned (.int .i64 (butL (ordI 4 4) k)) ∧ Below w.heap.size w w' := by
  obtain ⟨i0, hi, hz0, hz1, hz2⟩ := info_parts Try.infoI
  have ht : treeB 4 4 = true := by decide
  have HO : Hid (ordI 4 4 = [0] ++ [1] ++ [3, 2]) := by unfold Hid; decide +kernel
  have HA : Hid (goI 4 4 = 0) := by unfold Hid; decide +kernel
  have own1 := owni_lit w #[.int .i64 0] [0] rfl (by simp [maxLen])
  have b1 := (Below.refl w.heap.size w).alloc (Nat.le_refl _) (.cells #[.int .i64 0] 2)
  go_enter Try.func20, Try.ntmps20
  go_wp2_with (first
    | (go_at_call 14; refine (specTreeOk_any _ _ _).mono ?_; rintro e w1 ⟨rfl, h⟩; rw [h]; clear h w1)
    | (go_at_call 41; refine (l1Set_any _ _).mono ?_; rintro e w1 ⟨rfl, h⟩; rw [h]; clear h w1)
    | (go_at_call 40; refine (l5Victim_in _ _ _ ht).mono ?_; rintro e w1 ⟨rfl, h⟩; rw [h, HA.out]; clear h w1)
    | (at_builtin; refine wpList_append_own _ rfl _ _ 32 rfl w.heap.size 2 i0 (.int .i64 0) 1 8 Try.underlying32 hi hz0 hz1 hz2 rfl (by decide) _ _ _ rfl (own1.alloc _) ⟨_, 0, none⟩ 1 1 [.int .i64 (1)] rfl rfl ?c1 ?c2 ?c3 ?c4 ?c5 ?_))
  case c1 =>
    intro j u hj
    match j, hj with
    | 0, hj => simp at hj; subst hj; first | (simp [Addr.add]; done) | (simp [Addr.add]; decide +kernel)
  case c2 => intro u hu; simp at hu; first | (subst hu; rfl) | (rcases hu with rfl | rfl <;> rfl)
  case c3 => unfold maxLen; simp
  case c4 => simp
  case c5 => simp; omega
  · intro v' w1 hown' hgrow hnil
    have hv : v' ≠ .slice none 0 0 := by simpa using hnil
    obtain ⟨g2, c2, rfl, own2, b2⟩ := app_next (m := 2) (zs := [0]) (ys := [1]) b1 own1 rfl hown' hgrow hv
    clear hown' hgrow hnil hv own1 b1
    go_wp2_with (first
    | (at_builtin; refine wpList_append_own _ rfl _ _ 32 rfl w.heap.size 2 i0 (.int .i64 0) 1 8 Try.underlying32 hi hz0 hz1 hz2 rfl (by decide) _ _ _ rfl (own2.alloc _) ⟨_, 0, none⟩ 2 2 [.int .i64 (3), .int .i64 (2)] rfl rfl ?c1 ?c2 ?c3 ?c4 ?c5 ?_))
    case c1 =>
      intro j u hj
      match j, hj with
      | 0, hj => simp at hj; subst hj; first | (simp [Addr.add]; done) | (simp [Addr.add]; decide +kernel)
      | 1, hj => simp at hj; subst hj; first | (simp [Addr.add]; done) | (simp [Addr.add]; decide +kernel)
    case c2 => intro u hu; simp at hu; first | (subst hu; rfl) | (rcases hu with rfl | rfl <;> rfl)
    case c3 => unfold maxLen; simp
    case c4 => simp
    case c5 => have := b2.size; simp; omega
    · intro v' w2 hown' hgrow hnil
      have hv : v' ≠ .slice none 0 0 := by simpa using hnil
      obtain ⟨g3, c3, rfl, own3, b3⟩ := app_next (m := 4) (zs := [0] ++ [1]) (ys := [3, 2]) b2 own2 rfl hown' hgrow hv
      clear hown' hgrow hnil hv own2 b2
      obtain ⟨zs, hz⟩ : ∃ zs : List Int, zs = [0] ++ [1] ++ [3, 2] := ⟨_, rfl⟩
      have HZ : Hid (zs = [0] ++ [1] ++ [3, 2]) := hz
      have hzl : zs.length = 4 := by rw [hz]; rfl
      have hr : Reads w2 (some ⟨g3, 0, none⟩) zs := by rw [hz]; exact reads_owni own3
      clear hz
      have HB : Hid _ := b3
      clear b3 own3
      go_wp2_with fail
      go_loop [10] (fun i => ∃ j : Nat, j ≤ 4 ∧ i = .int .i64 j ∧ butL zs k = butL (zs.drop j) k) (fun i => 4 - (intOf i).toNat)
      case atStart => exact ⟨0, by omega, rfl, rfl⟩
      case round =>
        obtain ⟨j, hj, rfl, hbut⟩ := hrel
        have HT : Hid _ := hbut
        clear hbut
        by_cases hlt : j < 4
        · rcases hr with hr | ⟨b1, o1, ha, hc1⟩
          · rw [hr] at hzl; simp at hzl
          cases ha
          have hlt2 : j < zs.length := by omega
          have g1 := hc1 j hlt2
          rw [Nat.zero_add] at g1
          have hlt' : (j : Int) < 4 := by omega
          have HD : Hid _ := butL_drop k hlt2
          clear hc1
          cases hx : inB k zs[j]
          · have HX : Hid (butL zs k = zs[j]) := by unfold Hid; rw [HT.out, HD.out, hx]; simp
            go_wp2_with (go_at_call 21; refine (specIn_any _ _ _).mono ?_; rintro e w1 ⟨rfl, h⟩; rw [h]; clear h w1)
            go_ret
            exact ⟨ret_int (by rw [← HX.out, HZ.out]; first | done | (rw [HO.out])), HB.out⟩
          · have HX : Hid (butL zs k = butL (zs.drop (j + 1)) k) := by unfold Hid; rw [HT.out, HD.out, hx]; simp
            go_wp2_with (go_at_call 21; refine (specIn_any _ _ _).mono ?_; rintro e w1 ⟨rfl, h⟩; rw [h]; clear h w1)
            go_round
            case rel => exact ⟨j + 1, by omega, by go_num, HX.out⟩
            case measure => simp [intOf]; omega
        · have hjl : j = 4 := by omega
          have HX : Hid (butL zs k = -1) := by unfold Hid; rw [HT.out, List.drop_of_length_le (by omega)]; rfl
          go_wp2_with fail
          go_ret
          exact ⟨ret_int (by rw [← HX.out, HZ.out]; first | done | (rw [HO.out])), HB.out⟩

set_option maxHeartbeats 1000000 in
theorem specBut_45 (k : Int) (w : World) (hk : setB k = true) :
    Calls Try.prog 20 #[.int .i64 5, .int .i64 4, .int .i64 k] w fun e w' => e = .returned (.int .i64 (butL (ordI 5 4) k)) ∧ Below w.heap.size w w' := by
  obtain ⟨i0, hi, hz0, hz1, hz2⟩ := info_parts Try.infoI
  have ht : treeB 5 4 = true := by decide
  have HO : Hid (ordI 5 4 = [3] ++ [2] ++ [0, 1]) := by unfold Hid; decide +kernel
  have HA : Hid (goI 5 4 = 3) := by unfold Hid; decide +kernel
  have own1 := owni_lit w #[.int .i64 3] [3] rfl (by simp [maxLen])
  have b1 := (Below.refl w.heap.size w).alloc (Nat.le_refl _) (.cells #[.int .i64 3] 2)
  go_enter Try.func20, Try.ntmps20
  go_wp2_with (first
    | (go_at_call 14; refine (specTreeOk_any _ _ _).mono ?_; rintro e w1 ⟨rfl, h⟩; rw [h]; clear h w1)
    | (go_at_call 41; refine (l1Set_any _ _).mono ?_; rintro e w1 ⟨rfl, h⟩; rw [h]; clear h w1)
    | (go_at_call 40; refine (l5Victim_in _ _ _ ht).mono ?_; rintro e w1 ⟨rfl, h⟩; rw [h, HA.out]; clear h w1)
    | (at_builtin; refine wpList_append_own _ rfl _ _ 32 rfl w.heap.size 2 i0 (.int .i64 0) 1 8 Try.underlying32 hi hz0 hz1 hz2 rfl (by decide) _ _ _ rfl (own1.alloc _) ⟨_, 0, none⟩ 1 1 [.int .i64 (2)] rfl rfl ?c1 ?c2 ?c3 ?c4 ?c5 ?_))
  case c1 =>
    intro j u hj
    match j, hj with
    | 0, hj => simp at hj; subst hj; first | (simp [Addr.add]; done) | (simp [Addr.add]; decide +kernel)
  case c2 => intro u hu; simp at hu; first | (subst hu; rfl) | (rcases hu with rfl | rfl <;> rfl)
  case c3 => unfold maxLen; simp
  case c4 => simp
  case c5 => simp; omega
  · intro v' w1 hown' hgrow hnil
    have hv : v' ≠ .slice none 0 0 := by simpa using hnil
    obtain ⟨g2, c2, rfl, own2, b2⟩ := app_next (m := 2) (zs := [3]) (ys := [2]) b1 own1 rfl hown' hgrow hv
    clear hown' hgrow hnil hv own1 b1
    go_wp2_with (first
    | (at_builtin; refine wpList_append_own _ rfl _ _ 32 rfl w.heap.size 2 i0 (.int .i64 0) 1 8 Try.underlying32 hi hz0 hz1 hz2 rfl (by decide) _ _ _ rfl (own2.alloc _) ⟨_, 0, none⟩ 2 2 [.int .i64 (0), .int .i64 (1)] rfl rfl ?c1 ?c2 ?c3 ?c4 ?c5 ?_))
    case c1 =>
      intro j u hj
      match j, hj with
      | 0, hj => simp at hj; subst hj; first | (simp [Addr.add]; done) | (simp [Addr.add]; decide +kernel)
      | 1, hj => simp at hj; subst hj; first | (simp [Addr.add]; done) | (simp [Addr.add]; decide +kernel)
    case c2 => intro u hu; simp at hu; first | (subst hu; rfl) | (rcases hu with rfl | rfl <;> rfl)
    case c3 => unfold maxLen; simp
    case c4 => simp
    case c5 => have := b2.size; simp; omega
    · intro v' w2 hown' hgrow hnil
      have hv : v' ≠ .slice none 0 0 := by simpa using hnil
      obtain ⟨g3, c3, rfl, own3, b3⟩ := app_next (m := 4) (zs := [3] ++ [2]) (ys := [0, 1]) b2 own2 rfl hown' hgrow hv
      clear hown' hgrow hnil hv own2 b2
      obtain ⟨zs, hz⟩ : ∃ zs : List Int, zs = [3] ++ [2] ++ [0, 1] := ⟨_, rfl⟩
      have HZ : Hid (zs = [3] ++ [2] ++ [0, 1]) := hz
      have hzl : zs.length = 4 := by rw [hz]; rfl
      have hr : Reads w2 (some ⟨g3, 0, none⟩) zs := by rw [hz]; exact reads_owni own3
      clear hz
      have HB : Hid _ := b3
      clear b3 own3
      go_wp2_with fail
      go_loop [10] (fun i => ∃ j : Nat, j ≤ 4 ∧ i = .int .i64 j ∧ butL zs k = butL (zs.drop j) k) (fun i => 4 - (intOf i).toNat)
      case atStart => exact ⟨0, by omega, rfl, rfl⟩
      case round =>
        obtain ⟨j, hj, rfl, hbut⟩ := hrel
        have HT : Hid _ := hbut
        clear hbut
        by_cases hlt : j < 4
        · rcases hr with hr | ⟨b1, o1, ha, hc1⟩
          · rw [hr] at hzl; simp at hzl
          cases ha
          have hlt2 : j < zs.length := by omega
          have g1 := hc1 j hlt2
          rw [Nat.zero_add] at g1
          have hlt' : (j : Int) < 4 := by omega
          have HD : Hid _ := butL_drop k hlt2
          clear hc1
          cases hx : inB k zs[j]
          · have HX : Hid (butL zs k = zs[j]) := by unfold Hid; rw [HT.out, HD.out, hx]; simp
            go_wp2_with (go_at_call 21; refine (specIn_any _ _ _).mono ?_; rintro e w1 ⟨rfl, h⟩; rw [h]; clear h w1)
            go_ret
            exact ⟨ret_int (by rw [← HX.out, HZ.out]; first | done | (rw [HO.out])), HB.out⟩
          · have HX : Hid (butL zs k = butL (zs.drop (j + 1)) k) := by unfold Hid; rw [HT.out, HD.out, hx]; simp
            go_wp2_with (go_at_call 21; refine (specIn_any _ _ _).mono ?_; rintro e w1 ⟨rfl, h⟩; rw [h]; clear h w1)
            go_round
            case rel => exact ⟨j + 1, by omega, by go_num, HX.out⟩
            case measure => simp [intOf]; omega
        · have hjl : j = 4 := by omega
          have HX : Hid (butL zs k = -1) := by unfold Hid; rw [HT.out, List.drop_of_length_le (by omega)]; rfl
          go_wp2_with fail
          go_ret
          exact ⟨ret_int (by rw [← HX.out, HZ.out]; first | done | (rw [HO.out])), HB.out⟩

set_option maxHeartbeats 1000000 in
theorem specBut_46 (k : Int) (w : World) (hk : setB k = true) :
    Calls Try.prog 20 #[.int .i64 6, .int .i64 4, .int .i64 k] w fun e w' => e = .returned (.int .i64 (butL (ordI 6 4) k)) ∧ Below w.heap.size w w' := by
  obtain ⟨i0, hi, hz0, hz1, hz2⟩ := info_parts Try.infoI
  have ht : treeB 6 4 = true := by decide
  have HO : Hid (ordI 6 4 = [1] ++ [0] ++ [3, 2]) := by unfold Hid; decide +kernel
  have HA : Hid (goI 6 4 = 1) := by unfold Hid; decide +kernel
  have own1 := owni_lit w #[.int .i64 1] [1] rfl (by simp [maxLen])
  have b1 := (Below.refl w.heap.size w).alloc (Nat.le_refl _) (.cells #[.int .i64 1] 2)
  go_enter Try.func20, Try.ntmps20
  go_wp2_with (first
    | (go_at_call 14; refine (specTreeOk_any _ _ _).mono ?_; rintro e w1 ⟨rfl, h⟩; rw [h]; clear h w1)
    | (go_at_call 41; refine (l1Set_any _ _).mono ?_; rintro e w1 ⟨rfl, h⟩; rw [h]; clear h w1)
    | (go_at_call 40; refine (l5Victim_in _ _ _ ht).mono ?_; rintro e w1 ⟨rfl, h⟩; rw [h, HA.out]; clear h w1)
    | (at_builtin; refine wpList_append_own _ rfl _ _ 32 rfl w.heap.size 2 i0 (.int .i64 0) 1 8 Try.underlying32 hi hz0 hz1 hz2 rfl (by decide) _ _ _ rfl (own1.alloc _) ⟨_, 0, none⟩ 1 1 [.int .i64 (0)] rfl rfl ?c1 ?c2 ?c3 ?c4 ?c5 ?_))
  case c1 =>
    intro j u hj
    match j, hj with
    | 0, hj => simp at hj; subst hj; first | (simp [Addr.add]; done) | (simp [Addr.add]; decide +kernel)
  case c2 => intro u hu; simp at hu; first | (subst hu; rfl) | (rcases hu with rfl | rfl <;> rfl)
  case c3 => unfold maxLen; simp
  case c4 => simp
  case c5 => simp; omega
  · intro v' w1 hown' hgrow hnil
    have hv : v' ≠ .slice none 0 0 := by simpa using hnil
    obtain ⟨g2, c2, rfl, own2, b2⟩ := app_next (m := 2) (zs := [1]) (ys := [0]) b1 own1 rfl hown' hgrow hv
    clear hown' hgrow hnil hv own1 b1
    go_wp2_with (first
    | (at_builtin; refine wpList_append_own _ rfl _ _ 32 rfl w.heap.size 2 i0 (.int .i64 0) 1 8 Try.underlying32 hi hz0 hz1 hz2 rfl (by decide) _ _ _ rfl (own2.alloc _) ⟨_, 0, none⟩ 2 2 [.int .i64 (3), .int .i64 (2)] rfl rfl ?c1 ?c2 ?c3 ?c4 ?c5 ?_))
    case c1 =>
      intro j u hj
      match j, hj with
      | 0, hj => simp at hj; subst hj; first | (simp [Addr.add]; done) | (simp [Addr.add]; decide +kernel)
      | 1, hj => simp at hj; subst hj; first | (simp [Addr.add]; done) | (simp [Addr.add]; decide +kernel)
    case c2 => intro u hu; simp at hu; first | (subst hu; rfl) | (rcases hu with rfl | rfl <;> rfl)
    case c3 => unfold maxLen; simp
    case c4 => simp
    case c5 => have := b2.size; simp; omega
    · intro v' w2 hown' hgrow hnil
      have hv : v' ≠ .slice none 0 0 := by simpa using hnil
      obtain ⟨g3, c3, rfl, own3, b3⟩ := app_next (m := 4) (zs := [1] ++ [0]) (ys := [3, 2]) b2 own2 rfl hown' hgrow hv
      clear hown' hgrow hnil hv own2 b2
      obtain ⟨zs, hz⟩ : ∃ zs : List Int, zs = [1] ++ [0] ++ [3, 2] := ⟨_, rfl⟩
      have HZ : Hid (zs = [1] ++ [0] ++ [3, 2]) := hz
      have hzl : zs.length = 4 := by rw [hz]; rfl
      have hr : Reads w2 (some ⟨g3, 0, none⟩) zs := by rw [hz]; exact reads_owni own3
      clear hz
      have HB : Hid _ := b3
      clear b3 own3
      go_wp2_with fail
      go_loop [10] (fun i => ∃ j : Nat, j ≤ 4 ∧ i = .int .i64 j ∧ butL zs k = butL (zs.drop j) k) (fun i => 4 - (intOf i).toNat)
      case atStart => exact ⟨0, by omega, rfl, rfl⟩
      case round =>
        obtain ⟨j, hj, rfl, hbut⟩ := hrel
        have HT : Hid _ := hbut
        clear hbut
        by_cases hlt : j < 4
        · rcases hr with hr | ⟨b1, o1, ha, hc1⟩
          · rw [hr] at hzl; simp at hzl
          cases ha
          have hlt2 : j < zs.length := by omega
          have g1 := hc1 j hlt2
          rw [Nat.zero_add] at g1
          have hlt' : (j : Int) < 4 := by omega
          have HD : Hid _ := butL_drop k hlt2
          clear hc1
          cases hx : inB k zs[j]
          · have HX : Hid (butL zs k = zs[j]) := by unfold Hid; rw [HT.out, HD.out, hx]; simp
            go_wp2_with (go_at_call 21; refine (specIn_any _ _ _).mono ?_; rintro e w1 ⟨rfl, h⟩; rw [h]; clear h w1)
            go_ret
            exact ⟨ret_int (by rw [← HX.out, HZ.out]; first | done | (rw [HO.out])), HB.out⟩
          · have HX : Hid (butL zs k = butL (zs.drop (j + 1)) k) := by unfold Hid; rw [HT.out, HD.out, hx]; simp
            go_wp2_with (go_at_call 21; refine (specIn_any _ _ _).mono ?_; rintro e w1 ⟨rfl, h⟩; rw [h]; clear h w1)
            go_round
            case rel => exact ⟨j + 1, by omega, by go_num, HX.out⟩
            case measure => simp [intOf]; omega
        · have hjl : j = 4 := by omega
          have HX : Hid (butL zs k = -1) := by unfold Hid; rw [HT.out, List.drop_of_length_le (by omega)]; rfl
          go_wp2_with fail
          go_ret
          exact ⟨ret_int (by rw [← HX.out, HZ.out]; first | done | (rw [HO.out])), HB.out⟩

set_option maxHeartbeats 1000000 in
theorem specBut_47 (k : Int) (w : World) (hk : setB k = true) :
    Calls Try.prog 20 #[.int .i64 7, .int .i64 4, .int .i64 k] w fun e w' => e = .returned (.int .i64 (butL (ordI 7 4) k)) ∧ Below w.heap.size w w' := by
  obtain ⟨i0, hi, hz0, hz1, hz2⟩ := info_parts Try.infoI
  have ht : treeB 7 4 = true := by decide
  have HO : Hid (ordI 7 4 = [3] ++ [2] ++ [1, 0]) := by unfold Hid; decide +kernel
  have HA : Hid (goI 7 4 = 3) := by unfold Hid; decide +kernel
  have own1 := owni_lit w #[.int .i64 3] [3] rfl (by simp [maxLen])
  have b1 := (Below.refl w.heap.size w).alloc (Nat.le_refl _) (.cells #[.int .i64 3] 2)
  go_enter Try.func20, Try.ntmps20
  go_wp2_with (first
    | (go_at_call 14; refine (specTreeOk_any _ _ _).mono ?_; rintro e w1 ⟨rfl, h⟩; rw [h]; clear h w1)
    | (go_at_call 41; refine (l1Set_any _ _).mono ?_; rintro e w1 ⟨rfl, h⟩; rw [h]; clear h w1)
    | (go_at_call 40; refine (l5Victim_in _ _ _ ht).mono ?_; rintro e w1 ⟨rfl, h⟩; rw [h, HA.out]; clear h w1)
    | (at_builtin; refine wpList_append_own _ rfl _ _ 32 rfl w.heap.size 2 i0 (.int .i64 0) 1 8 Try.underlying32 hi hz0 hz1 hz2 rfl (by decide) _ _ _ rfl (own1.alloc _) ⟨_, 0, none⟩ 1 1 [.int .i64 (2)] rfl rfl ?c1 ?c2 ?c3 ?c4 ?c5 ?_))
  case c1 =>
    intro j u hj
    match j, hj with
    | 0, hj => simp at hj; subst hj; first | (simp [Addr.add]; done) | (simp [Addr.add]; decide +kernel)
  case c2 => intro u hu; simp at hu; first | (subst hu; rfl) | (rcases hu with rfl | rfl <;> rfl)
  case c3 => unfold maxLen; simp
  case c4 => simp
  case c5 => simp; omega
  · intro v' w1 hown' hgrow hnil
    have hv : v' ≠ .slice none 0 0 := by simpa using hnil
    obtain ⟨g2, c2, rfl, own2, b2⟩ := app_next (m := 2) (zs := [3]) (ys := [2]) b1 own1 rfl hown' hgrow hv
    clear hown' hgrow hnil hv own1 b1
    go_wp2_with (first
    | (at_builtin; refine wpList_append_own _ rfl _ _ 32 rfl w.heap.size 2 i0 (.int .i64 0) 1 8 Try.underlying32 hi hz0 hz1 hz2 rfl (by decide) _ _ _ rfl (own2.alloc _) ⟨_, 0, none⟩ 2 2 [.int .i64 (1), .int .i64 (0)] rfl rfl ?c1 ?c2 ?c3 ?c4 ?c5 ?_))
    case c1 =>
      intro j u hj
      match j, hj with
      | 0, hj => simp at hj; subst hj; first | (simp [Addr.add]; done) | (simp [Addr.add]; decide +kernel)
      | 1, hj => simp at hj; subst hj; first | (simp [Addr.add]; done) | (simp [Addr.add]; decide +kernel)
    case c2 => intro u hu; simp at hu; first | (subst hu; rfl) | (rcases hu with rfl | rfl <;> rfl)
    case c3 => unfold maxLen; simp
    case c4 => simp
    case c5 => have := b2.size; simp; omega
    · intro v' w2 hown' hgrow hnil
      have hv : v' ≠ .slice none 0 0 := by simpa using hnil
      obtain ⟨g3, c3, rfl, own3, b3⟩ := app_next (m := 4) (zs := [3] ++ [2]) (ys := [1, 0]) b2 own2 rfl hown' hgrow hv
      clear hown' hgrow hnil hv own2 b2
      obtain ⟨zs, hz⟩ : ∃ zs : List Int, zs = [3] ++ [2] ++ [1, 0] := ⟨_, rfl⟩
      have HZ : Hid (zs = [3] ++ [2] ++ [1, 0]) := hz
      have hzl : zs.length = 4 := by rw [hz]; rfl
      have hr : Reads w2 (some ⟨g3, 0, none⟩) zs := by rw [hz]; exact reads_owni own3
      clear hz
      have HB : Hid _ := b3
      clear b3 own3
      go_wp2_with fail
      go_loop [10] (fun i => ∃ j : Nat, j ≤ 4 ∧ i = .int .i64 j ∧ butL zs k = butL (zs.drop j) k) (fun i => 4 - (intOf i).toNat)
      case atStart => exact ⟨0, by omega, rfl, rfl⟩
      case round =>
        obtain ⟨j, hj, rfl, hbut⟩ := hrel
        have HT : Hid _ := hbut
        clear hbut
        by_cases hlt : j < 4
        · rcases hr with hr | ⟨b1, o1, ha, hc1⟩
          · rw [hr] at hzl; simp at hzl
          cases ha
          have hlt2 : j < zs.length := by omega
          have g1 := hc1 j hlt2
          rw [Nat.zero_add] at g1
          have hlt' : (j : Int) < 4 := by omega
          have HD : Hid _ := butL_drop k hlt2
          clear hc1
          cases hx : inB k zs[j]
          · have HX : Hid (butL zs k = zs[j]) := by unfold Hid; rw [HT.out, HD.out, hx]; simp
            go_wp2_with (go_at_call 21; refine (specIn_any _ _ _).mono ?_; rintro e w1 ⟨rfl, h⟩; rw [h]; clear h w1)
            go_ret
            exact ⟨ret_int (by rw [← HX.out, HZ.out]; first | done | (rw [HO.out])), HB.out⟩
          · have HX : Hid (butL zs k = butL (zs.drop (j + 1)) k) := by unfold Hid; rw [HT.out, HD.out, hx]; simp
            go_wp2_with (go_at_call 21; refine (specIn_any _ _ _).mono ?_; rintro e w1 ⟨rfl, h⟩; rw [h]; clear h w1)
            go_round
            case rel => exact ⟨j + 1, by omega, by go_num, HX.out⟩
            case measure => simp [intOf]; omega
        · have hjl : j = 4 := by omega
          have HX : Hid (butL zs k = -1) := by unfold Hid; rw [HT.out, List.drop_of_length_le (by omega)]; rfl
          go_wp2_with fail
          go_ret
          exact ⟨ret_int (by rw [← HX.out, HZ.out]; first | done | (rw [HO.out])), HB.out⟩

theorem specBut_in (t n k : Int) (w : World) (hk : setB k = true) (h : treeB t n = true) :
    Calls Try.prog 20 #[.int .i64 t, .int .i64 n, .int .i64 k] w fun e w' => e = .returned (.int .i64 (butL (ordI t n) k)) ∧ Below w.heap.size w w' := by
  have h5 := h
  simp [treeB] at h5
  rcases tree_pow h with rfl | rfl | rfl
  · exact specBut_1 t k w hk h
  · exact specBut_2 t k w hk h
  · rcases eight (t := t) (by omega) with rfl | rfl | rfl | rfl | rfl | rfl | rfl | rfl
    · exact specBut_40 k w hk
    · exact specBut_41 k w hk
    · exact specBut_42 k w hk
    · exact specBut_43 k w hk
    · exact specBut_44 k w hk
    · exact specBut_45 k w hk
    · exact specBut_46 k w hk
    · exact specBut_47 k w hk

set_option maxHeartbeats 1000000 in
theorem specBut_any (t n k : Int) (w : World) :
    Calls Try.prog 20 #[.int .i64 t, .int .i64 n, .int .i64 k] w fun e w' => e = .returned (.int .i64 (vbI t n k)) ∧ Below w.heap.size w w' := by
  cases h1 : treeB t n
  · have H : Hid (vbI t n k = -1) := by unfold Hid; simp [vbI, h1]
    go_enter Try.func20, Try.ntmps20
    go_wp2_with (go_at_call 14; refine (specTreeOk_any _ _ _).mono ?_; rintro e w' ⟨rfl, rfl⟩)
    go_ret
    exact ⟨ret_int H.out.symm, Below.refl _ _⟩
  cases h2 : setB k
  · have H : Hid (vbI t n k = -1) := by unfold Hid; simp [vbI, h2]
    go_enter Try.func20, Try.ntmps20
    go_wp2_with (first
      | (go_at_call 14; refine (specTreeOk_any _ _ _).mono ?_; rintro e w' ⟨rfl, rfl⟩)
      | (go_at_call 41; refine (l1Set_any _ _).mono ?_; rintro e w' ⟨rfl, rfl⟩))
    go_ret
    exact ⟨ret_int H.out.symm, Below.refl _ _⟩
  · have H : vbI t n k = butL (ordI t n) k := by simp [vbI, h1, h2]
    rw [H]
    exact specBut_in t n k w h2 h1

end Go.Proofs.Ytlekomdloiamhaa
