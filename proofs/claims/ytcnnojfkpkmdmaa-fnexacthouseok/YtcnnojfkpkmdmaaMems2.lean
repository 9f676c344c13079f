
/- The contracts of the laws' own helpers over lists of lists of numbers: two that read alike are told alike, what is marked is held, a copy is new. Conditions: lengths that a machine can hold. -/
import Derived.Test.YtcnnojfkpkmdmaaMems
import Derived.Test.YtcnnojfkpkmdmaaOwn5
namespace Go.Proofs.Ytcnnojfkpkmdmaa
open Go.ChangeShapes Go.WideShapes Go.ChangeAt Go.RowKit

set_option maxHeartbeats 400000 in
theorem szInts_any (a : Option Addr) (n cap : Nat) (left : Int) (w : World) (h0 : 0 ≤ left) (h1 : left ≤ 1048576) (hm : n ≤ 9223372036854775807) :
    Calls Try.prog 43 #[.slice a n cap, .int .i64 left] w fun e w' => e = .returned (.int .i64 (szI n left)) ∧ w' = w := by
  by_cases hl : (n : Int) ≤ left
  · have hl' : ¬ (left - (n : Int) < 0) := by omega
    rw [szI_yes hl]
    go_enter Try.func43, Try.ntmps43
    go_wp2
    go_ret
    exact ⟨rfl, rfl⟩
  · have hl' : left - (n : Int) < 0 := by omega
    rw [szI_no hl]
    go_enter Try.func43, Try.ntmps43
    go_wp2
    go_ret
    exact ⟨rfl, rfl⟩

set_option maxHeartbeats 1000000 in
theorem szRows_any (a : Option Addr) (xss : List (List Int)) (cap : Nat) (w : World) (h : ReadsM w a xss) (hm : xss.length ≤ 9223372036854775807) (hm2 : ∀ xs ∈ xss, xs.length ≤ 9223372036854775807) :
    Calls Try.prog 20 #[.slice a xss.length cap, .int .i64 1048576] w fun e w' => ∃ q : Int, e = .returned (.int .i64 q) ∧ (q < 0 ∨ (0 ≤ q ∧ xss.length ≤ 1048576 ∧ tot xss ≤ 1048576)) ∧ w' = w := by
  by_cases hl : xss.length ≤ 1048576
  · have hl' : ¬ (1048576 - (xss.length : Int) < 0) := by omega
    go_enter Try.func20, Try.ntmps20
    go_wp2
    go_loop [1, 5] (fun q i => ∃ k : Nat, k ≤ xss.length ∧ i = .int .i64 k ∧ tot (xss.take k) + xss.length ≤ 1048576 ∧ q = .int .i64 (1048576 - (xss.length : Int) - tot (xss.take k))) (fun _ i => xss.length - (intOf i).toNat)
    case atStart => exact ⟨0, Nat.zero_le _, rfl, by simp [tot]; omega, by simp [tot]⟩
    case round =>
      obtain ⟨k, hk, rfl, ht, rfl⟩ := hrel
      by_cases hlt : k < xss.length
      · have hlt' : (k : Int) < (xss.length : Int) := by omega
        obtain ⟨xs, hx⟩ := get_of_lt hlt
        obtain ⟨b, off, aj, cj, rfl, g1, hr⟩ := readsM_at h hx
        have hx1 := hm2 xs (List.mem_of_getElem? hx)
        have HT : Hid (tot (xss.take (k + 1)) = tot (xss.take k) + xs.length) := tot_step hx
        clear hm2 h hx
        generalize tot (xss.take k) = T at ht HT ⊢
        by_cases hf : (xs.length : Int) ≤ 1048576 - (xss.length : Int) - (T : Int)
        · have hf' : ¬ (1048576 - (xss.length : Int) - (T : Int) - (xs.length : Int) < 0) := by omega
          have HS : Hid (szI xs.length (1048576 - (xss.length : Int) - (T : Int)) = _) := szI_yes hf
          go_wp2_with (go_at_call 43; refine (szInts_any _ _ _ _ _ (by omega) (by omega) hx1).mono ?_; rintro e w' ⟨rfl, rfl⟩; rw [HS.out])
          go_round
          case rel => exact ⟨k + 1, by omega, by go_num, by have := HT.out; omega, by rw [HT.out]; go_num⟩
          case measure => simp [intOf]; omega
        · have HS : Hid (szI xs.length (1048576 - (xss.length : Int) - (T : Int)) = _) := szI_no hf
          go_wp2_with (go_at_call 43; refine (szInts_any _ _ _ _ _ (by omega) (by omega) hx1).mono ?_; rintro e w' ⟨rfl, rfl⟩; rw [HS.out])
          go_ret
          exact ⟨-1, rfl, .inl (by decide), rfl⟩
      · have hkl : k = xss.length := by omega
        subst hkl
        rw [List.take_length] at ht ⊢
        go_wp2
        go_ret
        refine ⟨_, rfl, .inr ?_, rfl⟩
        refine ⟨by omega, ?_⟩
        first | exact ⟨hl, by omega⟩ | omega
  · have hl' : 1048576 - (xss.length : Int) < 0 := by omega
    go_enter Try.func20, Try.ntmps20
    go_wp2
    go_ret
    exact ⟨-1, rfl, .inl (by decide), rfl⟩

set_option maxHeartbeats 400000 in
theorem eqRows_any (a1 a2 : Option Addr) (xss : List (List Int)) (c1 c2 : Nat) (w : World) (h1 : ReadsM w a1 xss) (h2 : ReadsM w a2 xss) (hm : xss.length ≤ 2305843009213693952) (hm2 : tot xss ≤ 2305843009213693952) :
    Calls Try.prog 28 #[.slice a1 xss.length c1, .slice a2 xss.length c2] w fun e w' => e = .returned (.bool true) ∧ ∃ n, w' = w.drewN n := by
  go_enter Try.func28, Try.ntmps28
  go_wp2
  go_loopw [5] (fun i wr => ∃ k : Nat, k ≤ xss.length ∧ i = .int .i64 k ∧ ∃ n, wr = w.drewN n) (fun i _ => xss.length - (intOf i).toNat)
  case atStart => exact ⟨0, Nat.zero_le _, rfl, 0, rfl⟩
  case round =>
    obtain ⟨k, hk, rfl, n, hw⟩ := hrel
    by_cases hlt : k < xss.length
    · have hlt' : (k : Int) < (xss.length : Int) := by omega
      obtain ⟨xs, hx⟩ := get_of_lt hlt
      obtain ⟨b, off, aj, cj, rfl, g1, hr⟩ := readsM_at h1 hx
      obtain ⟨b2, off2, aj2, cj2, rfl, g2, hr2⟩ := readsM_at h2 hx
      have hx1 := tot_get hx
      clear h1 h2 hx
      have HR : Hid (Reads wr aj xs) := by rw [hw]; exact hr
      have HR2 : Hid (Reads wr aj2 xs) := by rw [hw]; exact hr2
      have q1 : wr.cell? ⟨b, off + k, none⟩ = some (.slice aj xs.length cj) := by rw [hw]; exact g1
      have q2 : wr.cell? ⟨b2, off2 + k, none⟩ = some (.slice aj2 xs.length cj2) := by rw [hw]; exact g2
      have HW : Hid (wr = w.drewN n) := hw
      clear hr hr2 g1 g2 hw
      go_wp2_with fail
      go_quiet (first | (go_at_call 17; exact Calls.quiet_of (eqInts_any _ _ xs _ _ _ HR.out HR2.out (by omega))))
      go_wp2
      go_roundw
      case rel => exact ⟨k + 1, by omega, by go_num, n + nq, by rw [HW.out, World.drewN_drewN]⟩
      case measure => simp [intOf]; omega
    · go_wp2
      go_ret
      first | exact ⟨rfl, _, rfl⟩ | exact ⟨rfl, _, hw⟩


set_option maxHeartbeats 1000000 in
theorem markRows_any (lo hi G cap : Nat) (k : Int) (xss : List (List Int)) (w : World) (h0 : 0 ≤ k) (h1 : k ≤ 1152921504606846976) (hm : xss.length ≤ 1152921504606846976) (hm2 : tot xss ≤ 1152921504606846976)
    (hown : OwnM lo hi w G cap xss) :
    Calls Try.prog 36 #[.slice (some ⟨G, 0, none⟩) xss.length cap, .int .i64 k] w fun e' w' => e' = .returned (.int .i64 (k + tot xss)) ∧
      OwnM lo hi w' G cap (markM k xss) ∧ Inside lo hi w w' := by
  obtain ⟨rs, rfl, hout, hG, hin⟩ := hown
  have hln : (rs.map Rw.xs).length = rs.length := by simp
  rw [hln] at hout hm ⊢
  go_enter Try.func36, Try.ntmps36
  go_wp2
  go_loopw [1, 5] (fun q i wr => ∃ j : Nat, j ≤ rs.length ∧ i = .int .i64 j ∧ q = .int .i64 (k + tot ((rs.map Rw.xs).take j)) ∧ Out lo wr G cap rs.length (rs.map Rw.v) ∧ Inn lo hi wr (mrk k rs j) ∧ Inside lo hi w wr)
    (fun _ i _ => rs.length - (intOf i).toNat)
  case atStart => exact ⟨0, Nat.zero_le _, rfl, by simp [tot], hout, by rw [mrk_zero]; exact hin, Inside.refl _ _ _⟩
  case round =>
    obtain ⟨j, hj, rfl, rfl, ho, hi', hs⟩ := hrel
    by_cases hlt : j < rs.length
    · have hlt' : (j : Int) < (rs.length : Int) := by omega
      obtain ⟨r, hr⟩ := get_of_lt hlt
      have hx : (rs.map Rw.xs)[j]? = some r.xs := by rw [List.getElem?_map, hr]; rfl
      have HT : Hid (tot ((rs.map Rw.xs).take (j + 1)) = tot ((rs.map Rw.xs).take j) + r.xs.length) := tot_step hx
      have hx1 := tot_get hx
      have ht := tot_take (rs.map Rw.xs) j
      have ow := (hi'.1 j r (mrk_at hr)).1
      have ol := (hi'.1 j r (mrk_at hr)).2
      have q1 : wr.cell? ⟨G, j, none⟩ = some (.slice (some ⟨r.g, 0, none⟩) r.xs.length r.cap) := by
        rw [World.ownsRow.cellAt ho j (by simpa using hlt), List.getElem?_map, hr]; rfl
      have HO : Hid (Out lo wr G cap rs.length (rs.map Rw.v)) := ho
      have HI : Hid (Inn lo hi wr (mrk k rs j)) := hi'
      have HW : Hid (OwnI lo wr r.g r.cap r.xs) := ow
      have HX : Hid (rs[j]? = some r) := hr
      clear ho hi' ow hx hr
      generalize hT : tot ((rs.map Rw.xs).take j) = T at HT ht ⊢
      have HTT : Hid _ := hT
      clear hT
      go_wp2_with (go_at_call 18; refine (mark_any _ _ _ _ _ _ _ _ (by omega) (by omega) (by omega) HW.out).mono ?_; rintro e w' ⟨rfl, own2, gr⟩)
      have hne := out_ne HO.out HW.out
      have ho2 : Out lo w' G cap rs.length (rs.map Rw.v) := own_grown HO.out gr (fun e => hne e.symm)
      have hi2 : Inn lo hi w' (mrk k rs (j + 1)) := inn_mrk HI.out HX.out gr (by
        rw [HTT.out]
        unfold OwnI
        rw [seqs_len]
        exact own2)
      have hs2 := hs.trans (inside_grown gr (owni_lt HW.out).1 ol)
      clear own2 gr
      go_roundw
      case rel => exact ⟨j + 1, by omega, by go_num, by rw [HT.out]; go_num, ho2, hi2, hs2⟩
      case measure => simp [intOf]; omega
    · have hjn : j = rs.length := by omega
      subst hjn
      go_wp2
      go_ret
      refine ⟨?_, ⟨mrk k rs rs.length, mrk_all k rs, ?_, hG, hi'⟩, hs⟩
      · rw [← hln, List.take_length]
        rfl
      · rw [mrk_v, markM_len, hln]
        exact ho

set_option maxHeartbeats 1000000 in
theorem heldRows_any (a : Option Addr) (cap : Nat) (k : Int) (xss : List (List Int)) (w : World) (h0 : 0 ≤ k) (h1 : k ≤ 1152921504606846976) (hm : xss.length ≤ 1152921504606846976) (hm2 : tot xss ≤ 1152921504606846976)
    (h : ReadsM w a (markM k xss)) :
    Calls Try.prog 38 #[.slice a xss.length cap, .int .i64 k] w fun e' w' => e' = .returned (.int .i64 (k + tot xss)) ∧ w' = w := by
  go_enter Try.func38, Try.ntmps38
  go_wp2
  go_loop [1, 5] (fun q i => ∃ j : Nat, j ≤ xss.length ∧ i = .int .i64 j ∧ q = .int .i64 (k + tot (xss.take j))) (fun _ i => xss.length - (intOf i).toNat)
  case atStart => exact ⟨0, Nat.zero_le _, rfl, by simp [tot]⟩
  case round =>
    obtain ⟨j, hj, rfl, rfl⟩ := hrel
    by_cases hlt : j < xss.length
    · have hlt' : (j : Int) < (xss.length : Int) := by omega
      obtain ⟨xs, hx⟩ := get_of_lt hlt
      have hx2 := markM_get (k := k) hx
      obtain ⟨b, off, aj, cj, rfl, g1, hr⟩ := readsM_at h hx2
      rw [seqs_len] at g1
      have HT : Hid (tot (xss.take (j + 1)) = tot (xss.take j) + xs.length) := tot_step hx
      have hx1 := tot_get hx
      have ht := tot_take xss j
      have HR : Hid (Reads w aj (seqs (k + tot (xss.take j)) xs.length)) := hr
      clear hr hx hx2 h
      generalize tot (xss.take j) = T at HT ht HR ⊢
      have hn : ¬ (k + (T : Int) + (xs.length : Int) < 0) := by omega
      go_wp2_with (go_at_call 19; refine (held_any _ _ _ _ _ (by omega) (by omega) (by omega) HR.out).mono ?_; rintro e w' ⟨rfl, rfl⟩)
      go_round
      case rel => exact ⟨j + 1, by omega, by go_num, by rw [HT.out]; go_num⟩
      case measure => simp [intOf]; omega
    · have hjn : j = xss.length := by omega
      subst hjn
      rw [List.take_length]
      go_wp2
      go_ret
      exact ⟨rfl, rfl⟩

end Go.Proofs.Ytcnnojfkpkmdmaa
