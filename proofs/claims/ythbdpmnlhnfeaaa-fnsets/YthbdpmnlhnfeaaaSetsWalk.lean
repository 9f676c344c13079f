/- The law FnSets returns true at every code of at most 4096 bytes, and nothing that was there turns. -/
import Derived.Test.YthbdpmnlhnfeaaaDrawSets
import Derived.Test.YthbdpmnlhnfeaaaSetFacts
import Derived.Test.YthbdpmnlhnfeaaaCount
namespace Go.Proofs.Ythbdpmnlhnfeaaa
open Go.ChangeShapes Go.WideShapes Go.ChangeAt Go.RowKit

set_option maxHeartbeats 2000000 in
set_option maxRecDepth 100000 in
theorem sets_any (a : Option Addr) (len cap : Nat) (zs : List Int) (w : World) (hr : Row8 w a len zs) (hs : len ≤ 4096) :
    Calls Try.prog 3 #[.slice a len cap] w fun e w' => e = .returned (.bool true) ∧ Below w.heap.size w w' := by
  have hbig : decide ((4096 : Int) < len) = false := by simp; omega
  go_enter Try.func3, Try.ntmps3
  go_wp2_with fail
  refine (big_any _ _ _ _).mono ?_
  rintro e w1 ⟨rfl, rfl⟩
  go_wp2_with fail
  refine (drawWith_any _ _ _ zs _ hr).mono ?_
  rintro e w2 ⟨s, i, rfl, b2⟩
  have hr2 := row8_below hr b2
  go_wp2_with (first
    | (go_at_call 11; refine (implWith_any _ _ _).mono ?_; rintro e w' ⟨rfl, rfl⟩)
    | (go_at_call 12; refine (implWithout_any _ _ _).mono ?_; rintro e w' ⟨rfl, rfl⟩)
    | fail)
  refine (drawMembers_any _ _ _ zs _ hr2).mono ?_
  rintro e w3 ⟨n, rfl, b3⟩
  go_wp2_with fail
  refine (implMembers_any _ _).mono ?_
  rintro e w4 ⟨g, c, rfl, l4, l4', own4, b4⟩
  have hle : (mems n 8).length ≤ 8 := mems_le n 8
  go_wp2_with (first
    | (go_at_call 15; refine (specWith_any _ _ _).mono ?_; rintro e w' ⟨rfl, rfl⟩)
    | (go_at_call 16; refine (specWithout_any _ _ _).mono ?_; rintro e w' ⟨rfl, rfl⟩)
    | (go_at_call 18; refine (specIn_any _ _ _).mono ?_; rintro e w' ⟨rfl, rfl⟩)
    | (go_at_call 17; refine (implIn_any _ _ _).mono ?_; rintro e w' ⟨rfl, rfl⟩)
    | fail)
  refine (specMembers_any _ _).mono ?_
  rintro e w5 ⟨g5, c5, rfl, l5, l5', own5, b5⟩
  have own45 := own_below own4 b5 l4'
  go_wp2_with fail
  refine (likeInts_any _ _ (mems n 8) _ _ _ (reads_own own45) (reads_own own5) (by omega)).mono ?_
  rintro e w6 ⟨rfl, n6, rfl⟩
  have own46 := own_drewN (k := n6) own45
  have g5' : g < w5.heap.size := Nat.lt_of_lt_of_le l4' b5.size
  go_wp2_with fail
  refine (implCount_any _ _).mono ?_
  rintro e w7 ⟨rfl, b7⟩
  have own47 := own_below own46 b7 g5'
  have g7' : g < w7.heap.size := Nat.lt_of_lt_of_le g5' b7.size
  go_wp2_with fail
  refine (specCount_any _ _).mono ?_
  rintro e w8 ⟨rfl, b8⟩
  have own48 := own_below own47 b8 g7'
  have g8' : g < w8.heap.size := Nat.lt_of_lt_of_le g7' b8.size
  go_wp2_with fail
  refine (rises_any _ (mems n 8) _ _ (reads_own own48) (mems_pair n 8) (by omega)).mono ?_
  rintro e w9 ⟨rfl, n9, rfl⟩
  have own49 := own_drewN (k := n9) own48
  have HB : Hid (Below w1.heap.size w1 (w8.drewN n9)) := by
    have s2 := b2.size
    have s3 := b3.size
    have s4 := b4.size
    have s5 := b5.size
    have s7 := b7.size
    refine below_drewN ?_ n9
    refine Below.trans ?_ (b8.mono (by simp at s7; omega))
    refine Below.trans ?_ (b7.mono (by simp; omega))
    refine below_drewN ?_ n6
    exact (((b2.trans (b3.mono s2)).trans (b4.mono (by omega))).trans (b5.mono (by omega)))
  clear own4 own45 own46 own47 own48 own5 b2 b3 b4 b5 b7 b8 hr hr2
  go_wp2_with fail
  have HH : ∀ x : Int, Calls Try.prog 24 #[.slice (some ⟨g, 0, none⟩) (mems n 8).length c, .int .i64 x] (w8.drewN n9) fun e w' => e = .returned (.bool (inB n x)) ∧ w' = w8.drewN n9 := by
    intro x
    rw [← has_mems n x]
    exact has_list _ (mems n 8) _ x _ (reads_own own49) (by omega)
  have HH' : Hid _ := HH
  clear HH
  go_loop [9] (fun t => ∃ x : Int, -1 ≤ x ∧ x ≤ 9 ∧ t = .int .i64 x) (fun t => (9 - intOf t).toNat)
  case atStart => exact ⟨-1, by omega, by omega, rfl⟩
  case round =>
    obtain ⟨x, hx1, hx2, rfl⟩ := hrel
    by_cases hlt : x < 9
    · cases hset : setB s
      · have hneg : withI s i < 0 := by
          have := with_nonneg s i
          rw [hset] at this
          simp at this
          omega
        clear hset
        go_wp2_with (first
          | (go_at_call 24; refine (HH'.out _).mono ?_; rintro e w' ⟨rfl, rfl⟩)
          | (go_at_call 17; refine (implIn_any _ _ _).mono ?_; rintro e w' ⟨rfl, rfl⟩))
        go_round
        case rel => exact ⟨x + 1, by omega, by omega, rfl⟩
        case measure => simp [intOf]; omega
      · have hnn : 0 ≤ withI s i := (with_nonneg s i).2 hset
        have fX := with_in_iff s i x hset
        have fY := without_in_iff s i x hset
        cases hk : inB s x
        · rw [hk] at fX fY
          by_cases hxi : x = i
          · obtain ⟨tt, htt⟩ : ∃ b : Bool, b = true := ⟨true, rfl⟩
            obtain ⟨ff, hff⟩ : ∃ b : Bool, b = false := ⟨false, rfl⟩
            have hxe : (x == i) = tt := by rw [htt]; simp [hxi]
            have hxn : (x != i) = ff := by rw [hff]; simp [hxi]
            by_cases hi0 : 0 ≤ i
            · by_cases hi8 : i < 8
              · have hit : itemB i = true := by simp [itemB]; omega
                have gX : inB (withI s i) x = true := by rw [fX, hit]; simp [hxi]
                have gY : inB (withoutI s i) x = false := by rw [fY]; simp
                clear fX fY hit hset hxi
                go_wp2_with (first
                  | (go_at_call 24; refine (HH'.out _).mono ?_; rintro e w' ⟨rfl, rfl⟩)
                  | (go_at_call 17; refine (implIn_any _ _ _).mono ?_; rintro e w' ⟨rfl, rfl⟩))
                go_round
                case rel => exact ⟨x + 1, by omega, by omega, rfl⟩
                case measure => simp [intOf]; omega
              · have hit : itemB i = false := by simp [itemB]; omega
                have gX : inB (withI s i) x = false := by rw [fX, hit]; simp
                have gY : inB (withoutI s i) x = false := by rw [fY]; simp
                clear fX fY hit hset hxi
                go_wp2_with (first
                  | (go_at_call 24; refine (HH'.out _).mono ?_; rintro e w' ⟨rfl, rfl⟩)
                  | (go_at_call 17; refine (implIn_any _ _ _).mono ?_; rintro e w' ⟨rfl, rfl⟩))
                go_round
                case rel => exact ⟨x + 1, by omega, by omega, rfl⟩
                case measure => simp [intOf]; omega
            · have hit : itemB i = false := by simp [itemB]; omega
              have gX : inB (withI s i) x = false := by rw [fX, hit]; simp
              have gY : inB (withoutI s i) x = false := by rw [fY]; simp
              clear fX fY hit hset hxi
              go_wp2_with (first
                | (go_at_call 24; refine (HH'.out _).mono ?_; rintro e w' ⟨rfl, rfl⟩)
                | (go_at_call 17; refine (implIn_any _ _ _).mono ?_; rintro e w' ⟨rfl, rfl⟩))
              go_round
              case rel => exact ⟨x + 1, by omega, by omega, rfl⟩
              case measure => simp [intOf]; omega
          · have hxe : (x == i) = false := by simp [hxi]
            have gX : inB (withI s i) x = false := by rw [fX]; simp [hxi]
            have gY : inB (withoutI s i) x = false := by rw [fY]; simp
            clear fX fY hxi hset
            go_wp2_with (first
              | (go_at_call 24; refine (HH'.out _).mono ?_; rintro e w' ⟨rfl, rfl⟩)
              | (go_at_call 17; refine (implIn_any _ _ _).mono ?_; rintro e w' ⟨rfl, rfl⟩))
            go_round
            case rel => exact ⟨x + 1, by omega, by omega, rfl⟩
            case measure => simp [intOf]; omega
        · rw [hk] at fX fY
          have gX : inB (withI s i) x = true := by rw [fX]; simp
          by_cases hxi : x = i
          · obtain ⟨tt, htt⟩ : ∃ b : Bool, b = true := ⟨true, rfl⟩
            obtain ⟨ff, hff⟩ : ∃ b : Bool, b = false := ⟨false, rfl⟩
            have hxe : (x == i) = tt := by rw [htt]; simp [hxi]
            have hxn : (x != i) = ff := by rw [hff]; simp [hxi]
            have gY : inB (withoutI s i) x = false := by rw [fY]; simp [hxi]
            clear fX fY hset hxi
            go_wp2_with (first
              | (go_at_call 24; refine (HH'.out _).mono ?_; rintro e w' ⟨rfl, rfl⟩)
              | (go_at_call 17; refine (implIn_any _ _ _).mono ?_; rintro e w' ⟨rfl, rfl⟩))
            go_round
            case rel => exact ⟨x + 1, by omega, by omega, rfl⟩
            case measure => simp [intOf]; omega
          · have hxe : (x == i) = false := by simp [hxi]
            have hxn : (x != i) = true := by simp [hxi]
            have gY : inB (withoutI s i) x = true := by rw [fY]; simp [hxi]
            clear fX fY hxi hset
            go_wp2_with (first
              | (go_at_call 24; refine (HH'.out _).mono ?_; rintro e w' ⟨rfl, rfl⟩)
              | (go_at_call 17; refine (implIn_any _ _ _).mono ?_; rintro e w' ⟨rfl, rfl⟩))
            go_round
            case rel => exact ⟨x + 1, by omega, by omega, rfl⟩
            case measure => simp [intOf]; omega
    · cases hset : setB n
      · have hc : countI n = -1 := by simp [countI, hset]
        have hm : (mems n 8).length = 0 := by rw [mems_none n hset]; rfl
        have hc' : Hid _ := hc
        have hm' : Hid _ := hm
        clear hc hm
        go_wp2_with fail
        refine (implCount_any _ _).mono ?_
        rintro e w10 ⟨rfl, b10⟩
        rw [hc'.out]
        go_wp2_with fail
        refine (implCount_any _ _).mono ?_
        rintro e w11 ⟨rfl, b11⟩
        rw [hc'.out]
        have hm := hm'.out
        go_wp2_with fail
        go_ret
        exact ⟨rfl, (HB.out.trans (b10.mono HB.out.size)).trans (b11.mono (Nat.le_trans HB.out.size b10.size))⟩
      · have hc : Hid (countI n = ((mems n 8).length : Int)) := by unfold Hid; simp [countI, hset]
        go_wp2_with fail
        refine (implCount_any _ _).mono ?_
        rintro e w10 ⟨rfl, b10⟩
        rw [hc.out]
        go_wp2_with fail
        go_ret
        exact ⟨rfl, HB.out.trans (b10.mono HB.out.size)⟩

end Go.Proofs.Ythbdpmnlhnfeaaa
