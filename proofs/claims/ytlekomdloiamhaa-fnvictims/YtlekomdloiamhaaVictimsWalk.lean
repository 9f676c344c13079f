/- The law FnVictims returns true at every code of at most 4096 bytes, and nothing that was there turns. -/
import Derived.Test.YtlekomdloiamhaaDrawTree
import Derived.Test.YtlekomdloiamhaaTreeFacts
import Derived.Test.YtlekomdloiamhaaTree7
namespace Go.Proofs.Ytlekomdloiamhaa
open Go.ChangeShapes Go.WideShapes Go.ChangeAt Go.RowKit

theorem turn_keep {B j : Nat} {t n : Int} {w wr w1 : World} {v v' : Value} {o : Obj} (hB : B ≤ wr.heap.size)
    (hown : wr.ownsRow B 2 1 v (sK t n j).length ((sK t n j).map (Value.int .i64))) (hnx : Below B w wr)
    (hown' : w1.ownsRow B 2 1 v' ((sK t n j).length + 1) ((sK t n j).map (Value.int .i64) ++ [.int .i64 (viI (tK t n j) n)])) (hgrow : (wr.alloc o).grownBy w1 v.ownBlock) :
    w1.ownsRow B 2 1 v' (sK t n (j + 1)).length ((sK t n (j + 1)).map (Value.int .i64)) ∧ Below B w w1 := by
  refine ⟨by rw [show sK t n (j + 1) = sK t n j ++ [viI (tK t n j) n] from rfl]; simpa using hown', (hnx.alloc hB o).grown hgrow (by simp; omega) (fun j hj => (hown.lt j hj).1)⟩

theorem own_slice {w : World} {B : Nat} {e : TypeId} {v : Value} {n : Nat} {xs : List Value} (h : w.ownsRow B e 1 v n xs) (hv : v ≠ .slice none 0 0) :
    ∃ g cap, v = .slice (some ⟨g, 0, none⟩) n cap ∧ B ≤ g ∧ g < w.heap.size ∧ n ≤ cap ∧ cap ≤ maxLen := by
  rcases h.2 with ⟨rfl, _⟩ | ⟨g, cap, cur, rfl, hb, hg, hc, hm, _⟩
  · exact absurd rfl hv
  · exact ⟨g, cap, rfl, hb, (Array.getElem?_eq_some_iff.1 hg).1, hc, hm⟩

set_option maxHeartbeats 8000000 in
set_option maxRecDepth 100000 in
theorem victims_law (a : Option Addr) (len cap : Nat) (zs : List Int) (w : World) (hr : Row8 w a len zs) (hs : len ≤ 4096) :
    Calls Try.prog 4 #[.slice a len cap] w fun e w' => e = .returned (.bool true) ∧ Below w.heap.size w w' := by
  obtain ⟨i0, hi, hz0, hz1, hz2⟩ := info_parts Try.infoI
  have hbig : decide ((4096 : Int) < len) = false := by simp; omega
  go_enter Try.func4, Try.ntmps4
  go_wp2_with fail
  refine (big_any _ _ _ _).mono ?_
  rintro e w1 ⟨rfl, h⟩
  rw [h]
  clear h w1
  go_wp2_with fail
  refine (drawVictim_any _ _ _ zs _ hr).mono ?_
  rintro e w2 ⟨t, n, rfl, b2⟩
  go_wp2_with fail
  refine (implVictim_any _ _ _).mono ?_
  rintro e w3 ⟨rfl, h⟩
  rw [h]
  clear h w3
  go_wp2_with fail
  refine (drawVictimBut_any _ _ _ zs _ (row8_below hr b2)).mono ?_
  rintro e w3 ⟨x, m, k, rfl, b3⟩
  have b23 := below_step b2 b3
  clear hr hs hbig b2 b3
  go_wp2_with fail
  refine (implBut_any _ _ _ _).mono ?_
  rintro e w4 ⟨rfl, h⟩
  rw [h]
  clear h w4
  go_wp2_with fail
  refine (specVictim_any _ _ _).mono ?_
  rintro e w4 ⟨rfl, h⟩
  rw [h]
  clear h w4
  have HF : Hid _ := but_ways x m k
  generalize hE : vbI x m k = K at HF ⊢
  have HK : Hid _ := hE
  clear hE
  go_wp2_with fail
  refine (specBut_any _ _ _ _).mono ?_
  rintro e w4 ⟨rfl, b4⟩
  rw [HK.out]
  have HB : Hid _ := below_step b23 b4
  clear b23 b4
  have HV0 : Hid (treeB t n = true → 0 ≤ viI t n) := by
    unfold Hid
    intro h
    exact ((turn_facts h).1 0 (by have := tree_pow h; omega)).1
  have HV1 : Hid (treeB t n = false → viI t n < 0) := by
    unfold Hid
    intro h
    simp [viI, h]
  generalize viI t n = V at HV0 HV1 ⊢
  cases hT : treeB t n
  · rcases HF.out with ⟨k0, k1, k2⟩ | ⟨rfl, hF | ⟨hF, hk | ⟨hk, hk'⟩⟩ | ⟨hF, hk, hk', ⟨rfl, hm⟩ | ⟨rfl, hm⟩ | ⟨rfl, hm⟩⟩⟩
    · clear HF
      have hv := HV1.out hT
      clear HV0 HV1
      go_wp2_with (first
        | (go_at_call 21; refine (specIn_any _ _ _).mono ?_; rintro e w' ⟨rfl, h⟩; rw [h]; clear h w')
        | (go_at_call 14; refine (specTreeOk_any _ _ _).mono ?_; rintro e w' ⟨rfl, h⟩; rw [h]; clear h w'))
      go_ret
      exact ⟨rfl, HB.out⟩
    · clear HF
      have hv := HV1.out hT
      clear HV0 HV1
      go_wp2_with (first
        | (go_at_call 21; refine (specIn_any _ _ _).mono ?_; rintro e w' ⟨rfl, h⟩; rw [h]; clear h w')
        | (go_at_call 14; refine (specTreeOk_any _ _ _).mono ?_; rintro e w' ⟨rfl, h⟩; rw [h]; clear h w'))
      go_ret
      exact ⟨rfl, HB.out⟩
    · clear HF
      have hv := HV1.out hT
      clear HV0 HV1
      go_wp2_with (first
        | (go_at_call 21; refine (specIn_any _ _ _).mono ?_; rintro e w' ⟨rfl, h⟩; rw [h]; clear h w')
        | (go_at_call 14; refine (specTreeOk_any _ _ _).mono ?_; rintro e w' ⟨rfl, h⟩; rw [h]; clear h w'))
      go_ret
      exact ⟨rfl, HB.out⟩
    · clear HF
      have hv := HV1.out hT
      clear HV0 HV1
      go_wp2_with (first
        | (go_at_call 21; refine (specIn_any _ _ _).mono ?_; rintro e w' ⟨rfl, h⟩; rw [h]; clear h w')
        | (go_at_call 14; refine (specTreeOk_any _ _ _).mono ?_; rintro e w' ⟨rfl, h⟩; rw [h]; clear h w'))
      go_ret
      exact ⟨rfl, HB.out⟩
    · have hm2 : k % 2 = 1 := by rw [← Int.tmod_eq_emod_of_nonneg hk]; exact hm
      clear HF
      have hv := HV1.out hT
      clear HV0 HV1
      go_wp2_with (first
        | (go_at_call 21; refine (specIn_any _ _ _).mono ?_; rintro e w' ⟨rfl, h⟩; rw [h]; clear h w')
        | (go_at_call 14; refine (specTreeOk_any _ _ _).mono ?_; rintro e w' ⟨rfl, h⟩; rw [h]; clear h w'))
      go_ret
      exact ⟨rfl, HB.out⟩
    · have hm2 : k % 4 = 3 := by rw [← Int.tmod_eq_emod_of_nonneg hk]; exact hm
      clear HF
      have hv := HV1.out hT
      clear HV0 HV1
      go_wp2_with (first
        | (go_at_call 21; refine (specIn_any _ _ _).mono ?_; rintro e w' ⟨rfl, h⟩; rw [h]; clear h w')
        | (go_at_call 14; refine (specTreeOk_any _ _ _).mono ?_; rintro e w' ⟨rfl, h⟩; rw [h]; clear h w'))
      go_ret
      exact ⟨rfl, HB.out⟩
    · have hm2 : k % 16 = 15 := by rw [← Int.tmod_eq_emod_of_nonneg hk]; exact hm
      clear HF
      have hv := HV1.out hT
      clear HV0 HV1
      go_wp2_with (first
        | (go_at_call 21; refine (specIn_any _ _ _).mono ?_; rintro e w' ⟨rfl, h⟩; rw [h]; clear h w')
        | (go_at_call 14; refine (specTreeOk_any _ _ _).mono ?_; rintro e w' ⟨rfl, h⟩; rw [h]; clear h w'))
      go_ret
      exact ⟨rfl, HB.out⟩
  · rcases HF.out with ⟨k0, k1, k2⟩ | ⟨rfl, hF | ⟨hF, hk | ⟨hk, hk'⟩⟩ | ⟨hF, hk, hk', ⟨rfl, hm⟩ | ⟨rfl, hm⟩ | ⟨rfl, hm⟩⟩⟩
    · clear HF
      have hv := HV0.out hT
      clear HV0 HV1
      have HP : Hid _ := tree_pow hT
      have HT1 : Hid _ := (turn_facts hT).1
      have HT2 : Hid _ := (turn_facts hT).2
      have hn4 : n ≤ 4 := by have := HP.out; omega
      have hn1 : 1 ≤ n := by have := HP.out; omega
      clear hT
      go_wp2_with (first
        | (go_at_call 21; refine (specIn_any _ _ _).mono ?_; rintro e w' ⟨rfl, h⟩; rw [h]; clear h w')
        | (go_at_call 14; refine (specTreeOk_any _ _ _).mono ?_; rintro e w' ⟨rfl, h⟩; rw [h]; clear h w'))
      go_loopw [3, 10, 11] (fun q v i wr => ∃ j : Nat, (j : Int) ≤ n ∧ i = .int .i64 j ∧ q = .int .i64 (tK t n j) ∧ v ≠ .slice none 0 0 ∧ wr.ownsRow w.heap.size 2 1 v (sK t n j).length ((sK t n j).map (Value.int .i64)) ∧ Below w.heap.size w wr) (fun _ _ i _ => (n - intOf i).toNat)
      case atStart =>
        refine ⟨0, by omega, rfl, rfl, by simp, ?_, HB.out.alloc HB.out.size _⟩
        exact World.ownsRow_lit _ #[] 0 HB.out.size (Nat.zero_le _) rfl
      case round =>
        obtain ⟨j, hj, rfl, rfl, hvn, hown, hnx⟩ := hrel
        have HL : Hid _ := sK_len t n j
        have hle : (sK t n j).length ≤ 4 := by rw [HL.out]; omega
        have hsz := hnx.size
        by_cases hlt : (j : Int) < n
        · obtain ⟨u0, u1, u2⟩ := HT1.out j hlt
          have HS : Hid (tK t n (j + 1) = tuI (tK t n j) n (viI (tK t n j) n)) := rfl
          obtain ⟨g, c, rfl, hg1, hg2, hc1, hc2⟩ := own_slice hown hvn
          have hrd : Reads wr (some ⟨g, 0, none⟩) (sK t n j) := reads_own hown
          have KEEP : Hid _ := fun w1 v' o => turn_keep (w := w) (w1 := w1) (v' := v') (o := o) hsz hown hnx
          generalize hE : viI (tK t n j) n = u at u0 u1 u2 HS KEEP
          have HE : Hid _ := hE
          have HM : Hid (decide (u ∈ sK t n j) = false) := decide_eq_false u2
          clear hE u2
          go_wp2_with fail
          refine (implVictim_any _ _ _).mono ?_
          rintro e wx ⟨rfl, h⟩
          rw [h, HE.out]
          clear h wx
          go_wp2_with fail
          refine (has_list _ (sK t n j) _ u _ hrd (by omega)).mono ?_
          rintro e wx ⟨rfl, h⟩
          rw [h, HM.out]
          clear h wx
          go_wp2_with (at_builtin; refine wpList_append_own _ rfl _ _ 32 rfl w.heap.size 2 i0 (.int .i64 0) 1 8 Try.underlying32 hi hz0 hz1 hz2 rfl (by decide) _ _ _ rfl (hown.alloc _) ⟨_, 0, none⟩ 1 1 [.int .i64 u] rfl rfl ?c1 ?c2 ?c3 ?c4 ?c5 ?_)
          case c1 =>
            intro i u hj
            match i, hj with
            | 0, hj => simp at hj; subst hj; simp [Addr.add]
          case c2 => intro u hu; simp at hu; subst hu; rfl
          case c3 => unfold maxLen; omega
          case c4 => omega
          case c5 => simp; omega
          · intro v' w1 hown' hgrow hnil
            have R := KEEP.out w1 v' _ hown' hgrow
            have hv' : v' ≠ .slice none 0 0 := by simpa using hnil
            clear hown' hgrow hown hnil KEEP hrd
            go_wp2_with fail
            refine (implTouched_any _ _ _ _).mono ?_
            rintro e wx ⟨rfl, h⟩
            rw [h, ← HS.out]
            clear h wx
            go_wp2_with fail
            go_roundw
            case rel => exact ⟨j + 1, by omega, by go_num, rfl, hv', R.1, R.2⟩
            case measure => simp [intOf]; omega
        · obtain ⟨g, c, rfl, hg1, hg2, hc1, hc2⟩ := own_slice hown hvn
          have hjn : (j : Int) = n := by omega
          have HY : Hid _ := HT2.out j hjn
          have hl1 : 0 < (sK t n j).length := by rw [HL.out]; omega
          have hrd : Reads wr (some ⟨g, 0, none⟩) (sK t n j) := reads_own hown
          rcases hrd with h0 | ⟨b1, o1, ha, hc⟩
          · rw [h0] at hl1; simp at hl1
          cases ha
          have g1 := hc 0 hl1
          generalize (sK t n j).getD 0 0 = z at HY g1
          rw [Nat.zero_add] at g1
          have C : ∀ wq : World, Calls Try.prog 15 #[.int .i64 (tK t n j), .int .i64 n] wq fun e w' => e = .returned (.int .i64 z) ∧ ∃ q, w' = wq.drewN q := by
            intro wq
            rw [← HY.out]
            exact (implVictim_any _ _ wq).mono (fun e w' h => ⟨h.1, 0, h.2⟩)
          have C' : Hid _ := C
          clear hc hown hjn C HY
          go_wp2_with fail
          go_quiet (first | (go_at_call 15; exact Calls.quiet_of (C'.out _)))
          go_wp2
          go_ret
          exact ⟨ret_bool (by simp), below_drewN hnx _⟩
    · clear HF
      have hv := HV0.out hT
      clear HV0 HV1
      have HP : Hid _ := tree_pow hT
      have HT1 : Hid _ := (turn_facts hT).1
      have HT2 : Hid _ := (turn_facts hT).2
      have hn4 : n ≤ 4 := by have := HP.out; omega
      have hn1 : 1 ≤ n := by have := HP.out; omega
      clear hT
      go_wp2_with (first
        | (go_at_call 21; refine (specIn_any _ _ _).mono ?_; rintro e w' ⟨rfl, h⟩; rw [h]; clear h w')
        | (go_at_call 14; refine (specTreeOk_any _ _ _).mono ?_; rintro e w' ⟨rfl, h⟩; rw [h]; clear h w'))
      go_loopw [3, 10, 11] (fun q v i wr => ∃ j : Nat, (j : Int) ≤ n ∧ i = .int .i64 j ∧ q = .int .i64 (tK t n j) ∧ v ≠ .slice none 0 0 ∧ wr.ownsRow w.heap.size 2 1 v (sK t n j).length ((sK t n j).map (Value.int .i64)) ∧ Below w.heap.size w wr) (fun _ _ i _ => (n - intOf i).toNat)
      case atStart =>
        refine ⟨0, by omega, rfl, rfl, by simp, ?_, HB.out.alloc HB.out.size _⟩
        exact World.ownsRow_lit _ #[] 0 HB.out.size (Nat.zero_le _) rfl
      case round =>
        obtain ⟨j, hj, rfl, rfl, hvn, hown, hnx⟩ := hrel
        have HL : Hid _ := sK_len t n j
        have hle : (sK t n j).length ≤ 4 := by rw [HL.out]; omega
        have hsz := hnx.size
        by_cases hlt : (j : Int) < n
        · obtain ⟨u0, u1, u2⟩ := HT1.out j hlt
          have HS : Hid (tK t n (j + 1) = tuI (tK t n j) n (viI (tK t n j) n)) := rfl
          obtain ⟨g, c, rfl, hg1, hg2, hc1, hc2⟩ := own_slice hown hvn
          have hrd : Reads wr (some ⟨g, 0, none⟩) (sK t n j) := reads_own hown
          have KEEP : Hid _ := fun w1 v' o => turn_keep (w := w) (w1 := w1) (v' := v') (o := o) hsz hown hnx
          generalize hE : viI (tK t n j) n = u at u0 u1 u2 HS KEEP
          have HE : Hid _ := hE
          have HM : Hid (decide (u ∈ sK t n j) = false) := decide_eq_false u2
          clear hE u2
          go_wp2_with fail
          refine (implVictim_any _ _ _).mono ?_
          rintro e wx ⟨rfl, h⟩
          rw [h, HE.out]
          clear h wx
          go_wp2_with fail
          refine (has_list _ (sK t n j) _ u _ hrd (by omega)).mono ?_
          rintro e wx ⟨rfl, h⟩
          rw [h, HM.out]
          clear h wx
          go_wp2_with (at_builtin; refine wpList_append_own _ rfl _ _ 32 rfl w.heap.size 2 i0 (.int .i64 0) 1 8 Try.underlying32 hi hz0 hz1 hz2 rfl (by decide) _ _ _ rfl (hown.alloc _) ⟨_, 0, none⟩ 1 1 [.int .i64 u] rfl rfl ?c1 ?c2 ?c3 ?c4 ?c5 ?_)
          case c1 =>
            intro i u hj
            match i, hj with
            | 0, hj => simp at hj; subst hj; simp [Addr.add]
          case c2 => intro u hu; simp at hu; subst hu; rfl
          case c3 => unfold maxLen; omega
          case c4 => omega
          case c5 => simp; omega
          · intro v' w1 hown' hgrow hnil
            have R := KEEP.out w1 v' _ hown' hgrow
            have hv' : v' ≠ .slice none 0 0 := by simpa using hnil
            clear hown' hgrow hown hnil KEEP hrd
            go_wp2_with fail
            refine (implTouched_any _ _ _ _).mono ?_
            rintro e wx ⟨rfl, h⟩
            rw [h, ← HS.out]
            clear h wx
            go_wp2_with fail
            go_roundw
            case rel => exact ⟨j + 1, by omega, by go_num, rfl, hv', R.1, R.2⟩
            case measure => simp [intOf]; omega
        · obtain ⟨g, c, rfl, hg1, hg2, hc1, hc2⟩ := own_slice hown hvn
          have hjn : (j : Int) = n := by omega
          have HY : Hid _ := HT2.out j hjn
          have hl1 : 0 < (sK t n j).length := by rw [HL.out]; omega
          have hrd : Reads wr (some ⟨g, 0, none⟩) (sK t n j) := reads_own hown
          rcases hrd with h0 | ⟨b1, o1, ha, hc⟩
          · rw [h0] at hl1; simp at hl1
          cases ha
          have g1 := hc 0 hl1
          generalize (sK t n j).getD 0 0 = z at HY g1
          rw [Nat.zero_add] at g1
          have C : ∀ wq : World, Calls Try.prog 15 #[.int .i64 (tK t n j), .int .i64 n] wq fun e w' => e = .returned (.int .i64 z) ∧ ∃ q, w' = wq.drewN q := by
            intro wq
            rw [← HY.out]
            exact (implVictim_any _ _ wq).mono (fun e w' h => ⟨h.1, 0, h.2⟩)
          have C' : Hid _ := C
          clear hc hown hjn C HY
          go_wp2_with fail
          go_quiet (first | (go_at_call 15; exact Calls.quiet_of (C'.out _)))
          go_wp2
          go_ret
          exact ⟨ret_bool (by simp), below_drewN hnx _⟩
    · clear HF
      have hv := HV0.out hT
      clear HV0 HV1
      have HP : Hid _ := tree_pow hT
      have HT1 : Hid _ := (turn_facts hT).1
      have HT2 : Hid _ := (turn_facts hT).2
      have hn4 : n ≤ 4 := by have := HP.out; omega
      have hn1 : 1 ≤ n := by have := HP.out; omega
      clear hT
      go_wp2_with (first
        | (go_at_call 21; refine (specIn_any _ _ _).mono ?_; rintro e w' ⟨rfl, h⟩; rw [h]; clear h w')
        | (go_at_call 14; refine (specTreeOk_any _ _ _).mono ?_; rintro e w' ⟨rfl, h⟩; rw [h]; clear h w'))
      go_loopw [3, 10, 11] (fun q v i wr => ∃ j : Nat, (j : Int) ≤ n ∧ i = .int .i64 j ∧ q = .int .i64 (tK t n j) ∧ v ≠ .slice none 0 0 ∧ wr.ownsRow w.heap.size 2 1 v (sK t n j).length ((sK t n j).map (Value.int .i64)) ∧ Below w.heap.size w wr) (fun _ _ i _ => (n - intOf i).toNat)
      case atStart =>
        refine ⟨0, by omega, rfl, rfl, by simp, ?_, HB.out.alloc HB.out.size _⟩
        exact World.ownsRow_lit _ #[] 0 HB.out.size (Nat.zero_le _) rfl
      case round =>
        obtain ⟨j, hj, rfl, rfl, hvn, hown, hnx⟩ := hrel
        have HL : Hid _ := sK_len t n j
        have hle : (sK t n j).length ≤ 4 := by rw [HL.out]; omega
        have hsz := hnx.size
        by_cases hlt : (j : Int) < n
        · obtain ⟨u0, u1, u2⟩ := HT1.out j hlt
          have HS : Hid (tK t n (j + 1) = tuI (tK t n j) n (viI (tK t n j) n)) := rfl
          obtain ⟨g, c, rfl, hg1, hg2, hc1, hc2⟩ := own_slice hown hvn
          have hrd : Reads wr (some ⟨g, 0, none⟩) (sK t n j) := reads_own hown
          have KEEP : Hid _ := fun w1 v' o => turn_keep (w := w) (w1 := w1) (v' := v') (o := o) hsz hown hnx
          generalize hE : viI (tK t n j) n = u at u0 u1 u2 HS KEEP
          have HE : Hid _ := hE
          have HM : Hid (decide (u ∈ sK t n j) = false) := decide_eq_false u2
          clear hE u2
          go_wp2_with fail
          refine (implVictim_any _ _ _).mono ?_
          rintro e wx ⟨rfl, h⟩
          rw [h, HE.out]
          clear h wx
          go_wp2_with fail
          refine (has_list _ (sK t n j) _ u _ hrd (by omega)).mono ?_
          rintro e wx ⟨rfl, h⟩
          rw [h, HM.out]
          clear h wx
          go_wp2_with (at_builtin; refine wpList_append_own _ rfl _ _ 32 rfl w.heap.size 2 i0 (.int .i64 0) 1 8 Try.underlying32 hi hz0 hz1 hz2 rfl (by decide) _ _ _ rfl (hown.alloc _) ⟨_, 0, none⟩ 1 1 [.int .i64 u] rfl rfl ?c1 ?c2 ?c3 ?c4 ?c5 ?_)
          case c1 =>
            intro i u hj
            match i, hj with
            | 0, hj => simp at hj; subst hj; simp [Addr.add]
          case c2 => intro u hu; simp at hu; subst hu; rfl
          case c3 => unfold maxLen; omega
          case c4 => omega
          case c5 => simp; omega
          · intro v' w1 hown' hgrow hnil
            have R := KEEP.out w1 v' _ hown' hgrow
            have hv' : v' ≠ .slice none 0 0 := by simpa using hnil
            clear hown' hgrow hown hnil KEEP hrd
            go_wp2_with fail
            refine (implTouched_any _ _ _ _).mono ?_
            rintro e wx ⟨rfl, h⟩
            rw [h, ← HS.out]
            clear h wx
            go_wp2_with fail
            go_roundw
            case rel => exact ⟨j + 1, by omega, by go_num, rfl, hv', R.1, R.2⟩
            case measure => simp [intOf]; omega
        · obtain ⟨g, c, rfl, hg1, hg2, hc1, hc2⟩ := own_slice hown hvn
          have hjn : (j : Int) = n := by omega
          have HY : Hid _ := HT2.out j hjn
          have hl1 : 0 < (sK t n j).length := by rw [HL.out]; omega
          have hrd : Reads wr (some ⟨g, 0, none⟩) (sK t n j) := reads_own hown
          rcases hrd with h0 | ⟨b1, o1, ha, hc⟩
          · rw [h0] at hl1; simp at hl1
          cases ha
          have g1 := hc 0 hl1
          generalize (sK t n j).getD 0 0 = z at HY g1
          rw [Nat.zero_add] at g1
          have C : ∀ wq : World, Calls Try.prog 15 #[.int .i64 (tK t n j), .int .i64 n] wq fun e w' => e = .returned (.int .i64 z) ∧ ∃ q, w' = wq.drewN q := by
            intro wq
            rw [← HY.out]
            exact (implVictim_any _ _ wq).mono (fun e w' h => ⟨h.1, 0, h.2⟩)
          have C' : Hid _ := C
          clear hc hown hjn C HY
          go_wp2_with fail
          go_quiet (first | (go_at_call 15; exact Calls.quiet_of (C'.out _)))
          go_wp2
          go_ret
          exact ⟨ret_bool (by simp), below_drewN hnx _⟩
    · clear HF
      have hv := HV0.out hT
      clear HV0 HV1
      have HP : Hid _ := tree_pow hT
      have HT1 : Hid _ := (turn_facts hT).1
      have HT2 : Hid _ := (turn_facts hT).2
      have hn4 : n ≤ 4 := by have := HP.out; omega
      have hn1 : 1 ≤ n := by have := HP.out; omega
      clear hT
      go_wp2_with (first
        | (go_at_call 21; refine (specIn_any _ _ _).mono ?_; rintro e w' ⟨rfl, h⟩; rw [h]; clear h w')
        | (go_at_call 14; refine (specTreeOk_any _ _ _).mono ?_; rintro e w' ⟨rfl, h⟩; rw [h]; clear h w'))
      go_loopw [3, 10, 11] (fun q v i wr => ∃ j : Nat, (j : Int) ≤ n ∧ i = .int .i64 j ∧ q = .int .i64 (tK t n j) ∧ v ≠ .slice none 0 0 ∧ wr.ownsRow w.heap.size 2 1 v (sK t n j).length ((sK t n j).map (Value.int .i64)) ∧ Below w.heap.size w wr) (fun _ _ i _ => (n - intOf i).toNat)
      case atStart =>
        refine ⟨0, by omega, rfl, rfl, by simp, ?_, HB.out.alloc HB.out.size _⟩
        exact World.ownsRow_lit _ #[] 0 HB.out.size (Nat.zero_le _) rfl
      case round =>
        obtain ⟨j, hj, rfl, rfl, hvn, hown, hnx⟩ := hrel
        have HL : Hid _ := sK_len t n j
        have hle : (sK t n j).length ≤ 4 := by rw [HL.out]; omega
        have hsz := hnx.size
        by_cases hlt : (j : Int) < n
        · obtain ⟨u0, u1, u2⟩ := HT1.out j hlt
          have HS : Hid (tK t n (j + 1) = tuI (tK t n j) n (viI (tK t n j) n)) := rfl
          obtain ⟨g, c, rfl, hg1, hg2, hc1, hc2⟩ := own_slice hown hvn
          have hrd : Reads wr (some ⟨g, 0, none⟩) (sK t n j) := reads_own hown
          have KEEP : Hid _ := fun w1 v' o => turn_keep (w := w) (w1 := w1) (v' := v') (o := o) hsz hown hnx
          generalize hE : viI (tK t n j) n = u at u0 u1 u2 HS KEEP
          have HE : Hid _ := hE
          have HM : Hid (decide (u ∈ sK t n j) = false) := decide_eq_false u2
          clear hE u2
          go_wp2_with fail
          refine (implVictim_any _ _ _).mono ?_
          rintro e wx ⟨rfl, h⟩
          rw [h, HE.out]
          clear h wx
          go_wp2_with fail
          refine (has_list _ (sK t n j) _ u _ hrd (by omega)).mono ?_
          rintro e wx ⟨rfl, h⟩
          rw [h, HM.out]
          clear h wx
          go_wp2_with (at_builtin; refine wpList_append_own _ rfl _ _ 32 rfl w.heap.size 2 i0 (.int .i64 0) 1 8 Try.underlying32 hi hz0 hz1 hz2 rfl (by decide) _ _ _ rfl (hown.alloc _) ⟨_, 0, none⟩ 1 1 [.int .i64 u] rfl rfl ?c1 ?c2 ?c3 ?c4 ?c5 ?_)
          case c1 =>
            intro i u hj
            match i, hj with
            | 0, hj => simp at hj; subst hj; simp [Addr.add]
          case c2 => intro u hu; simp at hu; subst hu; rfl
          case c3 => unfold maxLen; omega
          case c4 => omega
          case c5 => simp; omega
          · intro v' w1 hown' hgrow hnil
            have R := KEEP.out w1 v' _ hown' hgrow
            have hv' : v' ≠ .slice none 0 0 := by simpa using hnil
            clear hown' hgrow hown hnil KEEP hrd
            go_wp2_with fail
            refine (implTouched_any _ _ _ _).mono ?_
            rintro e wx ⟨rfl, h⟩
            rw [h, ← HS.out]
            clear h wx
            go_wp2_with fail
            go_roundw
            case rel => exact ⟨j + 1, by omega, by go_num, rfl, hv', R.1, R.2⟩
            case measure => simp [intOf]; omega
        · obtain ⟨g, c, rfl, hg1, hg2, hc1, hc2⟩ := own_slice hown hvn
          have hjn : (j : Int) = n := by omega
          have HY : Hid _ := HT2.out j hjn
          have hl1 : 0 < (sK t n j).length := by rw [HL.out]; omega
          have hrd : Reads wr (some ⟨g, 0, none⟩) (sK t n j) := reads_own hown
          rcases hrd with h0 | ⟨b1, o1, ha, hc⟩
          · rw [h0] at hl1; simp at hl1
          cases ha
          have g1 := hc 0 hl1
          generalize (sK t n j).getD 0 0 = z at HY g1
          rw [Nat.zero_add] at g1
          have C : ∀ wq : World, Calls Try.prog 15 #[.int .i64 (tK t n j), .int .i64 n] wq fun e w' => e = .returned (.int .i64 z) ∧ ∃ q, w' = wq.drewN q := by
            intro wq
            rw [← HY.out]
            exact (implVictim_any _ _ wq).mono (fun e w' h => ⟨h.1, 0, h.2⟩)
          have C' : Hid _ := C
          clear hc hown hjn C HY
          go_wp2_with fail
          go_quiet (first | (go_at_call 15; exact Calls.quiet_of (C'.out _)))
          go_wp2
          go_ret
          exact ⟨ret_bool (by simp), below_drewN hnx _⟩
    · have hm2 : k % 2 = 1 := by rw [← Int.tmod_eq_emod_of_nonneg hk]; exact hm
      clear HF
      have hv := HV0.out hT
      clear HV0 HV1
      have HP : Hid _ := tree_pow hT
      have HT1 : Hid _ := (turn_facts hT).1
      have HT2 : Hid _ := (turn_facts hT).2
      have hn4 : n ≤ 4 := by have := HP.out; omega
      have hn1 : 1 ≤ n := by have := HP.out; omega
      clear hT
      go_wp2_with (first
        | (go_at_call 21; refine (specIn_any _ _ _).mono ?_; rintro e w' ⟨rfl, h⟩; rw [h]; clear h w')
        | (go_at_call 14; refine (specTreeOk_any _ _ _).mono ?_; rintro e w' ⟨rfl, h⟩; rw [h]; clear h w'))
      go_loopw [3, 10, 11] (fun q v i wr => ∃ j : Nat, (j : Int) ≤ n ∧ i = .int .i64 j ∧ q = .int .i64 (tK t n j) ∧ v ≠ .slice none 0 0 ∧ wr.ownsRow w.heap.size 2 1 v (sK t n j).length ((sK t n j).map (Value.int .i64)) ∧ Below w.heap.size w wr) (fun _ _ i _ => (n - intOf i).toNat)
      case atStart =>
        refine ⟨0, by omega, rfl, rfl, by simp, ?_, HB.out.alloc HB.out.size _⟩
        exact World.ownsRow_lit _ #[] 0 HB.out.size (Nat.zero_le _) rfl
      case round =>
        obtain ⟨j, hj, rfl, rfl, hvn, hown, hnx⟩ := hrel
        have HL : Hid _ := sK_len t n j
        have hle : (sK t n j).length ≤ 4 := by rw [HL.out]; omega
        have hsz := hnx.size
        by_cases hlt : (j : Int) < n
        · obtain ⟨u0, u1, u2⟩ := HT1.out j hlt
          have HS : Hid (tK t n (j + 1) = tuI (tK t n j) n (viI (tK t n j) n)) := rfl
          obtain ⟨g, c, rfl, hg1, hg2, hc1, hc2⟩ := own_slice hown hvn
          have hrd : Reads wr (some ⟨g, 0, none⟩) (sK t n j) := reads_own hown
          have KEEP : Hid _ := fun w1 v' o => turn_keep (w := w) (w1 := w1) (v' := v') (o := o) hsz hown hnx
          generalize hE : viI (tK t n j) n = u at u0 u1 u2 HS KEEP
          have HE : Hid _ := hE
          have HM : Hid (decide (u ∈ sK t n j) = false) := decide_eq_false u2
          clear hE u2
          go_wp2_with fail
          refine (implVictim_any _ _ _).mono ?_
          rintro e wx ⟨rfl, h⟩
          rw [h, HE.out]
          clear h wx
          go_wp2_with fail
          refine (has_list _ (sK t n j) _ u _ hrd (by omega)).mono ?_
          rintro e wx ⟨rfl, h⟩
          rw [h, HM.out]
          clear h wx
          go_wp2_with (at_builtin; refine wpList_append_own _ rfl _ _ 32 rfl w.heap.size 2 i0 (.int .i64 0) 1 8 Try.underlying32 hi hz0 hz1 hz2 rfl (by decide) _ _ _ rfl (hown.alloc _) ⟨_, 0, none⟩ 1 1 [.int .i64 u] rfl rfl ?c1 ?c2 ?c3 ?c4 ?c5 ?_)
          case c1 =>
            intro i u hj
            match i, hj with
            | 0, hj => simp at hj; subst hj; simp [Addr.add]
          case c2 => intro u hu; simp at hu; subst hu; rfl
          case c3 => unfold maxLen; omega
          case c4 => omega
          case c5 => simp; omega
          · intro v' w1 hown' hgrow hnil
            have R := KEEP.out w1 v' _ hown' hgrow
            have hv' : v' ≠ .slice none 0 0 := by simpa using hnil
            clear hown' hgrow hown hnil KEEP hrd
            go_wp2_with fail
            refine (implTouched_any _ _ _ _).mono ?_
            rintro e wx ⟨rfl, h⟩
            rw [h, ← HS.out]
            clear h wx
            go_wp2_with fail
            go_roundw
            case rel => exact ⟨j + 1, by omega, by go_num, rfl, hv', R.1, R.2⟩
            case measure => simp [intOf]; omega
        · obtain ⟨g, c, rfl, hg1, hg2, hc1, hc2⟩ := own_slice hown hvn
          have hjn : (j : Int) = n := by omega
          have HY : Hid _ := HT2.out j hjn
          have hl1 : 0 < (sK t n j).length := by rw [HL.out]; omega
          have hrd : Reads wr (some ⟨g, 0, none⟩) (sK t n j) := reads_own hown
          rcases hrd with h0 | ⟨b1, o1, ha, hc⟩
          · rw [h0] at hl1; simp at hl1
          cases ha
          have g1 := hc 0 hl1
          generalize (sK t n j).getD 0 0 = z at HY g1
          rw [Nat.zero_add] at g1
          have C : ∀ wq : World, Calls Try.prog 15 #[.int .i64 (tK t n j), .int .i64 n] wq fun e w' => e = .returned (.int .i64 z) ∧ ∃ q, w' = wq.drewN q := by
            intro wq
            rw [← HY.out]
            exact (implVictim_any _ _ wq).mono (fun e w' h => ⟨h.1, 0, h.2⟩)
          have C' : Hid _ := C
          clear hc hown hjn C HY
          go_wp2_with fail
          go_quiet (first | (go_at_call 15; exact Calls.quiet_of (C'.out _)))
          go_wp2
          go_ret
          exact ⟨ret_bool (by simp), below_drewN hnx _⟩
    · have hm2 : k % 4 = 3 := by rw [← Int.tmod_eq_emod_of_nonneg hk]; exact hm
      clear HF
      have hv := HV0.out hT
      clear HV0 HV1
      have HP : Hid _ := tree_pow hT
      have HT1 : Hid _ := (turn_facts hT).1
      have HT2 : Hid _ := (turn_facts hT).2
      have hn4 : n ≤ 4 := by have := HP.out; omega
      have hn1 : 1 ≤ n := by have := HP.out; omega
      clear hT
      go_wp2_with (first
        | (go_at_call 21; refine (specIn_any _ _ _).mono ?_; rintro e w' ⟨rfl, h⟩; rw [h]; clear h w')
        | (go_at_call 14; refine (specTreeOk_any _ _ _).mono ?_; rintro e w' ⟨rfl, h⟩; rw [h]; clear h w'))
      go_loopw [3, 10, 11] (fun q v i wr => ∃ j : Nat, (j : Int) ≤ n ∧ i = .int .i64 j ∧ q = .int .i64 (tK t n j) ∧ v ≠ .slice none 0 0 ∧ wr.ownsRow w.heap.size 2 1 v (sK t n j).length ((sK t n j).map (Value.int .i64)) ∧ Below w.heap.size w wr) (fun _ _ i _ => (n - intOf i).toNat)
      case atStart =>
        refine ⟨0, by omega, rfl, rfl, by simp, ?_, HB.out.alloc HB.out.size _⟩
        exact World.ownsRow_lit _ #[] 0 HB.out.size (Nat.zero_le _) rfl
      case round =>
        obtain ⟨j, hj, rfl, rfl, hvn, hown, hnx⟩ := hrel
        have HL : Hid _ := sK_len t n j
        have hle : (sK t n j).length ≤ 4 := by rw [HL.out]; omega
        have hsz := hnx.size
        by_cases hlt : (j : Int) < n
        · obtain ⟨u0, u1, u2⟩ := HT1.out j hlt
          have HS : Hid (tK t n (j + 1) = tuI (tK t n j) n (viI (tK t n j) n)) := rfl
          obtain ⟨g, c, rfl, hg1, hg2, hc1, hc2⟩ := own_slice hown hvn
          have hrd : Reads wr (some ⟨g, 0, none⟩) (sK t n j) := reads_own hown
          have KEEP : Hid _ := fun w1 v' o => turn_keep (w := w) (w1 := w1) (v' := v') (o := o) hsz hown hnx
          generalize hE : viI (tK t n j) n = u at u0 u1 u2 HS KEEP
          have HE : Hid _ := hE
          have HM : Hid (decide (u ∈ sK t n j) = false) := decide_eq_false u2
          clear hE u2
          go_wp2_with fail
          refine (implVictim_any _ _ _).mono ?_
          rintro e wx ⟨rfl, h⟩
          rw [h, HE.out]
          clear h wx
          go_wp2_with fail
          refine (has_list _ (sK t n j) _ u _ hrd (by omega)).mono ?_
          rintro e wx ⟨rfl, h⟩
          rw [h, HM.out]
          clear h wx
          go_wp2_with (at_builtin; refine wpList_append_own _ rfl _ _ 32 rfl w.heap.size 2 i0 (.int .i64 0) 1 8 Try.underlying32 hi hz0 hz1 hz2 rfl (by decide) _ _ _ rfl (hown.alloc _) ⟨_, 0, none⟩ 1 1 [.int .i64 u] rfl rfl ?c1 ?c2 ?c3 ?c4 ?c5 ?_)
          case c1 =>
            intro i u hj
            match i, hj with
            | 0, hj => simp at hj; subst hj; simp [Addr.add]
          case c2 => intro u hu; simp at hu; subst hu; rfl
          case c3 => unfold maxLen; omega
          case c4 => omega
          case c5 => simp; omega
          · intro v' w1 hown' hgrow hnil
            have R := KEEP.out w1 v' _ hown' hgrow
            have hv' : v' ≠ .slice none 0 0 := by simpa using hnil
            clear hown' hgrow hown hnil KEEP hrd
            go_wp2_with fail
            refine (implTouched_any _ _ _ _).mono ?_
            rintro e wx ⟨rfl, h⟩
            rw [h, ← HS.out]
            clear h wx
            go_wp2_with fail
            go_roundw
            case rel => exact ⟨j + 1, by omega, by go_num, rfl, hv', R.1, R.2⟩
            case measure => simp [intOf]; omega
        · obtain ⟨g, c, rfl, hg1, hg2, hc1, hc2⟩ := own_slice hown hvn
          have hjn : (j : Int) = n := by omega
          have HY : Hid _ := HT2.out j hjn
          have hl1 : 0 < (sK t n j).length := by rw [HL.out]; omega
          have hrd : Reads wr (some ⟨g, 0, none⟩) (sK t n j) := reads_own hown
          rcases hrd with h0 | ⟨b1, o1, ha, hc⟩
          · rw [h0] at hl1; simp at hl1
          cases ha
          have g1 := hc 0 hl1
          generalize (sK t n j).getD 0 0 = z at HY g1
          rw [Nat.zero_add] at g1
          have C : ∀ wq : World, Calls Try.prog 15 #[.int .i64 (tK t n j), .int .i64 n] wq fun e w' => e = .returned (.int .i64 z) ∧ ∃ q, w' = wq.drewN q := by
            intro wq
            rw [← HY.out]
            exact (implVictim_any _ _ wq).mono (fun e w' h => ⟨h.1, 0, h.2⟩)
          have C' : Hid _ := C
          clear hc hown hjn C HY
          go_wp2_with fail
          go_quiet (first | (go_at_call 15; exact Calls.quiet_of (C'.out _)))
          go_wp2
          go_ret
          exact ⟨ret_bool (by simp), below_drewN hnx _⟩
    · have hm2 : k % 16 = 15 := by rw [← Int.tmod_eq_emod_of_nonneg hk]; exact hm
      clear HF
      have hv := HV0.out hT
      clear HV0 HV1
      have HP : Hid _ := tree_pow hT
      have HT1 : Hid _ := (turn_facts hT).1
      have HT2 : Hid _ := (turn_facts hT).2
      have hn4 : n ≤ 4 := by have := HP.out; omega
      have hn1 : 1 ≤ n := by have := HP.out; omega
      clear hT
      go_wp2_with (first
        | (go_at_call 21; refine (specIn_any _ _ _).mono ?_; rintro e w' ⟨rfl, h⟩; rw [h]; clear h w')
        | (go_at_call 14; refine (specTreeOk_any _ _ _).mono ?_; rintro e w' ⟨rfl, h⟩; rw [h]; clear h w'))
      go_loopw [3, 10, 11] (fun q v i wr => ∃ j : Nat, (j : Int) ≤ n ∧ i = .int .i64 j ∧ q = .int .i64 (tK t n j) ∧ v ≠ .slice none 0 0 ∧ wr.ownsRow w.heap.size 2 1 v (sK t n j).length ((sK t n j).map (Value.int .i64)) ∧ Below w.heap.size w wr) (fun _ _ i _ => (n - intOf i).toNat)
      case atStart =>
        refine ⟨0, by omega, rfl, rfl, by simp, ?_, HB.out.alloc HB.out.size _⟩
        exact World.ownsRow_lit _ #[] 0 HB.out.size (Nat.zero_le _) rfl
      case round =>
        obtain ⟨j, hj, rfl, rfl, hvn, hown, hnx⟩ := hrel
        have HL : Hid _ := sK_len t n j
        have hle : (sK t n j).length ≤ 4 := by rw [HL.out]; omega
        have hsz := hnx.size
        by_cases hlt : (j : Int) < n
        · obtain ⟨u0, u1, u2⟩ := HT1.out j hlt
          have HS : Hid (tK t n (j + 1) = tuI (tK t n j) n (viI (tK t n j) n)) := rfl
          obtain ⟨g, c, rfl, hg1, hg2, hc1, hc2⟩ := own_slice hown hvn
          have hrd : Reads wr (some ⟨g, 0, none⟩) (sK t n j) := reads_own hown
          have KEEP : Hid _ := fun w1 v' o => turn_keep (w := w) (w1 := w1) (v' := v') (o := o) hsz hown hnx
          generalize hE : viI (tK t n j) n = u at u0 u1 u2 HS KEEP
          have HE : Hid _ := hE
          have HM : Hid (decide (u ∈ sK t n j) = false) := decide_eq_false u2
          clear hE u2
          go_wp2_with fail
          refine (implVictim_any _ _ _).mono ?_
          rintro e wx ⟨rfl, h⟩
          rw [h, HE.out]
          clear h wx
          go_wp2_with fail
          refine (has_list _ (sK t n j) _ u _ hrd (by omega)).mono ?_
          rintro e wx ⟨rfl, h⟩
          rw [h, HM.out]
          clear h wx
          go_wp2_with (at_builtin; refine wpList_append_own _ rfl _ _ 32 rfl w.heap.size 2 i0 (.int .i64 0) 1 8 Try.underlying32 hi hz0 hz1 hz2 rfl (by decide) _ _ _ rfl (hown.alloc _) ⟨_, 0, none⟩ 1 1 [.int .i64 u] rfl rfl ?c1 ?c2 ?c3 ?c4 ?c5 ?_)
          case c1 =>
            intro i u hj
            match i, hj with
            | 0, hj => simp at hj; subst hj; simp [Addr.add]
          case c2 => intro u hu; simp at hu; subst hu; rfl
          case c3 => unfold maxLen; omega
          case c4 => omega
          case c5 => simp; omega
          · intro v' w1 hown' hgrow hnil
            have R := KEEP.out w1 v' _ hown' hgrow
            have hv' : v' ≠ .slice none 0 0 := by simpa using hnil
            clear hown' hgrow hown hnil KEEP hrd
            go_wp2_with fail
            refine (implTouched_any _ _ _ _).mono ?_
            rintro e wx ⟨rfl, h⟩
            rw [h, ← HS.out]
            clear h wx
            go_wp2_with fail
            go_roundw
            case rel => exact ⟨j + 1, by omega, by go_num, rfl, hv', R.1, R.2⟩
            case measure => simp [intOf]; omega
        · obtain ⟨g, c, rfl, hg1, hg2, hc1, hc2⟩ := own_slice hown hvn
          have hjn : (j : Int) = n := by omega
          have HY : Hid _ := HT2.out j hjn
          have hl1 : 0 < (sK t n j).length := by rw [HL.out]; omega
          have hrd : Reads wr (some ⟨g, 0, none⟩) (sK t n j) := reads_own hown
          rcases hrd with h0 | ⟨b1, o1, ha, hc⟩
          · rw [h0] at hl1; simp at hl1
          cases ha
          have g1 := hc 0 hl1
          generalize (sK t n j).getD 0 0 = z at HY g1
          rw [Nat.zero_add] at g1
          have C : ∀ wq : World, Calls Try.prog 15 #[.int .i64 (tK t n j), .int .i64 n] wq fun e w' => e = .returned (.int .i64 z) ∧ ∃ q, w' = wq.drewN q := by
            intro wq
            rw [← HY.out]
            exact (implVictim_any _ _ wq).mono (fun e w' h => ⟨h.1, 0, h.2⟩)
          have C' : Hid _ := C
          clear hc hown hjn C HY
          go_wp2_with fail
          go_quiet (first | (go_at_call 15; exact Calls.quiet_of (C'.out _)))
          go_wp2
          go_ret
          exact ⟨ret_bool (by simp), below_drewN hnx _⟩

end Go.Proofs.Ytlekomdloiamhaa
