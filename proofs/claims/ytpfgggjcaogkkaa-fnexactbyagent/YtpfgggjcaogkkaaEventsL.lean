
/- Lists of Events: what they read as, and what the laws' helpers do with them, in the one form. -/
import Derived.Test.YtpfgggjcaogkkaaEventU
import Derived.Test.YtpfgggjcaogkkaaClasses
namespace Go.Proofs.Ytpfgggjcaogkkaa
open Go.ChangeShapes Go.WideShapes Go.ChangeAt Go.RowKit
set_option linter.unusedVariables false
abbrev eventsR : Rep (List EventD) := slR 38 eventR
abbrev eventsM : Mk (List EventD) := slM eventM
theorem opens_events : Opens Try.prog 22 eventsR := opens_slice Try.underlying22 (by kernel_rfl) (by decide) opens_event
set_option maxHeartbeats 2000000 in
theorem szEvents_u : SzC 4 eventsR eventsM cell1 := by
  rintro cs xs left w ⟨a, cap, rfl, l1, l2, h⟩ h0 h1
  show Calls Try.prog 4 #[.slice a xs.length cap, .int .i64 left] w _
  have hm' : xs.length ≤ 9223372036854775807 := Nat.le_trans l1 l2
  have hbk : eventsM.bk xs = xs.length + sumbk eventM xs := rfl
  clear l1 l2
  by_cases hl : (xs.length : Int) ≤ left
  · have hl' : ¬ (left - (xs.length : Int) < 0) := by omega
    have HB : Hid _ := hbk
    have H0 : Hid (SlRd eventR w a xs) := h
    clear hbk h
    go_enter Try.func4, Try.ntmps4
    go_wp2
    go_loopw [1, 5] (fun q i wr => ∃ k : Nat, k ≤ xs.length ∧ i = .int .i64 k ∧ (sumbk eventM (xs.take k) : Int) + xs.length ≤ left ∧ q = .int .i64 (left - (xs.length : Int) - sumbk eventM (xs.take k)) ∧ Below w.heap.size w wr) (fun _ i _ => xs.length - (intOf i).toNat)
    case atStart => exact ⟨0, Nat.zero_le _, rfl, by simp [sumbk]; omega, by simp [sumbk], Below.refl _ _⟩
    case round =>
      obtain ⟨k, hk, rfl, ht, rfl, BB⟩ := hrel
      by_cases hlt : k < xs.length
      · have hlt' : (k : Int) < (xs.length : Int) := by omega
        obtain ⟨x, hx⟩ : ∃ x, xs[k]? = some x := ⟨_, List.getElem?_eq_getElem hlt⟩
        have H2 := slrd_keep H0.out fun k hk => BB.block k hk
        obtain ⟨b, off, cs, rfl, hrdx, hcell⟩ := slrd_at H2 hx
        have HRX : Hid (eventR.rd wr cs x) := hrdx
        obtain ⟨gaz, gcz, rfl⟩ := event_shape hrdx
        have x0 := hcell 0 _ rfl
        have x1 := hcell 1 _ rfl
        have x2 := hcell 2 _ rfl
        have x3 := hcell 3 _ rfl
        have x4 := hcell 4 _ rfl
        have x5 := hcell 5 _ rfl
        have x6 := hcell 6 _ rfl
        have x7 := hcell 7 _ rfl
        have x8 := hcell 8 _ rfl
        rw [show off + (k * eventR.size + 0) = off + k * 9 from rfl] at x0
        rw [show off + (k * eventR.size + 1) = off + k * 9 + 1 from rfl] at x1
        rw [show off + (k * eventR.size + 2) = off + k * 9 + 2 from rfl] at x2
        rw [show off + (k * eventR.size + 3) = off + k * 9 + 3 from rfl] at x3
        rw [show off + (k * eventR.size + 4) = off + k * 9 + 4 from rfl] at x4
        rw [show off + (k * eventR.size + 5) = off + k * 9 + 5 from rfl] at x5
        rw [show off + (k * eventR.size + 6) = off + k * 9 + 6 from rfl] at x6
        rw [show off + (k * eventR.size + 7) = off + k * 9 + 7 from rfl] at x7
        rw [show off + (k * eventR.size + 8) = off + k * 9 + 8 from rfl] at x8
        clear hcell hrdx
        have HT : Hid _ := sumbk_step (M := eventM) hx
        have hxs := sumbk_get (M := eventM) hx
        clear hx H2
        generalize sumbk eventM (xs.take k) = T at ht HT hxs ⊢
        by_cases hf : (((eventM).bk x : Nat) : Int) ≤ left - (xs.length : Int) - (T : Int)
        · have hf' : ¬ (left - (xs.length : Int) - (T : Int) - (((eventM).bk x : Nat) : Int) < 0) := by omega
          have HS : Hid (szI ((eventM).bk x) (left - (xs.length : Int) - (T : Int)) = _) := szI_yes hf
          go_wp2_with (go_at_call 11; refine (szEvent_u [.int .i64 x.1, .int .i64 x.2.1.1, .int .i64 x.2.1.2.1, .int .i64 x.2.1.2.2.1, .int .i64 x.2.1.2.2.2, .int .i64 x.2.2.1, .int .i64 x.2.2.2.1, .slice gaz x.2.2.2.2.1.length gcz, .int .i64 x.2.2.2.2.2] x _ _ HRX.out (by omega) (by omega)).mono ?_; rintro e w' ⟨rfl, bb⟩; replace BB := below_step BB bb; clear bb; rw [HS.out])
          go_roundw
          case rel => exact ⟨k + 1, by omega, by go_num, by have := HT.out; omega, by rw [HT.out]; go_num, BB⟩
          case measure => simp [intOf]; omega
        · have HS : Hid (szI ((eventM).bk x) (left - (xs.length : Int) - (T : Int)) = _) := szI_no hf
          have HN : Hid (szI (eventsM.bk xs) left = -1) := by unfold Hid; rw [HB.out]; exact szI_no (by omega)
          go_wp2_with (go_at_call 11; refine (szEvent_u [.int .i64 x.1, .int .i64 x.2.1.1, .int .i64 x.2.1.2.1, .int .i64 x.2.1.2.2.1, .int .i64 x.2.1.2.2.2, .int .i64 x.2.2.1, .int .i64 x.2.2.2.1, .slice gaz x.2.2.2.2.1.length gcz, .int .i64 x.2.2.2.2.2] x _ _ HRX.out (by omega) (by omega)).mono ?_; rintro e w' ⟨rfl, bb⟩; replace BB := below_step BB bb; clear bb; rw [HS.out])
          go_ret
          exact ⟨ret_int HN.out.symm, BB⟩
      · have hkl : k = xs.length := by omega
        subst hkl
        rw [List.take_length] at ht ⊢
        have HN : Hid (szI (eventsM.bk xs) left = left - (xs.length : Int) - (sumbk eventM xs : Int)) := by unfold Hid; rw [HB.out, szI_yes (by omega)]; omega
        go_wp2
        go_ret
        exact ⟨ret_int HN.out.symm, BB⟩
  · have hl' : left - (xs.length : Int) < 0 := by omega
    rw [szI_no (by omega)]
    clear hbk h
    go_enter Try.func4, Try.ntmps4
    go_wp2
    go_ret
    exact ⟨rfl, Below.refl _ _⟩
theorem Try.infoEvent : (Try.prog.info? 38).map (fun i => (i.zero, i.size, i.bytes)) = some (some (.agg #[.int .i64 0, .int .i64 0, .int .i64 0, .int .i64 0, .int .i64 0, .int .i64 0, .int .i64 0, .slice none 0 0, .int .i64 0]), 9, 88) := by kernel_rfl
set_option maxHeartbeats 4000000 in
theorem toEvents_u : ToC 6 eventsR eventsM cell1 := by
  rintro cs xs w ⟨a, cap, rfl, l1, l2, h⟩ hm
  show Calls Try.prog 6 #[.slice a xs.length cap] w _
  have hbk : eventsM.bk xs = xs.length + sumbk eventM xs := rfl
  have hln : xs.length ≤ 1048576 := by omega
  have HB : Hid (sumbk eventM xs ≤ 1048576) := by unfold Hid; omega
  have H0 : Hid (SlRd eventR w a xs) := h
  clear hbk hm h l1 l2
  have hmk := run_make_wide (P := Try.prog) 24 38 (.agg #[.int .i64 0, .int .i64 0, .int .i64 0, .int .i64 0, .int .i64 0, .int .i64 0, .int .i64 0, .slice none 0 0, .int .i64 0]) 9 88 Try.underlying24 Try.infoEvent xs.length (by omega) (by omega)
  go_enter Try.func6, Try.ntmps6
  go_wp2
  go_loopw [4] (fun i wr => ∃ k : Nat, k ≤ xs.length ∧ i = .int .i64 k ∧ Fill 38 eventR w wr xs.length (xs.take k)) (fun i _ => xs.length - (intOf i).toNat)
  case atStart => exact ⟨0, Nat.zero_le _, rfl, by simpa using fillR_start (e := 38) (R := eventR) (w0 := w) (n := xs.length) (cs := madeCells #[.int .i64 0, .int .i64 0, .int .i64 0, .int .i64 0, .int .i64 0, .int .i64 0, .int .i64 0, .slice none 0 0, .int .i64 0] (xs.length * 9)) (by unfold maxLen; omega) (by rw [size_madeCells]; rfl)⟩
  case round =>
    obtain ⟨k, hk, rfl, hF⟩ := hrel
    by_cases hlt : k < xs.length
    · have hlt' : (k : Int) < (xs.length : Int) := by omega
      obtain ⟨x, hx⟩ : ∃ x, xs[k]? = some x := ⟨_, List.getElem?_eq_getElem hlt⟩
      obtain ⟨b, off, cs, rfl, hrdx, hcell⟩ := slrd_at (slrd_next H0.out (fill_below hF)) hx
      have HRX : Hid (eventR.rd wr cs x) := hrdx
      obtain ⟨gaz, gcz, rfl⟩ := event_shape hrdx
      have x0 := hcell 0 _ rfl
      have x1 := hcell 1 _ rfl
      have x2 := hcell 2 _ rfl
      have x3 := hcell 3 _ rfl
      have x4 := hcell 4 _ rfl
      have x5 := hcell 5 _ rfl
      have x6 := hcell 6 _ rfl
      have x7 := hcell 7 _ rfl
      have x8 := hcell 8 _ rfl
      rw [show off + (k * eventR.size + 0) = off + k * 9 from rfl] at x0
      rw [show off + (k * eventR.size + 1) = off + k * 9 + 1 from rfl] at x1
      rw [show off + (k * eventR.size + 2) = off + k * 9 + 2 from rfl] at x2
      rw [show off + (k * eventR.size + 3) = off + k * 9 + 3 from rfl] at x3
      rw [show off + (k * eventR.size + 4) = off + k * 9 + 4 from rfl] at x4
      rw [show off + (k * eventR.size + 5) = off + k * 9 + 5 from rfl] at x5
      rw [show off + (k * eventR.size + 6) = off + k * 9 + 6 from rfl] at x6
      rw [show off + (k * eventR.size + 7) = off + k * 9 + 7 from rfl] at x7
      rw [show off + (k * eventR.size + 8) = off + k * 9 + 8 from rfl] at x8
      have HX : Hid (eventM.bk x ≤ 1048576) := by unfold Hid; have := sumbk_ge eventM xs hx; have := HB.out; omega
      have FS : Hid (∀ w1 c, MadeR eventR wr w1 c x → _) := fun w1 c hm => fillR_step (w1 := w1) (c := c) hF (by simp; omega) hlt hm
      have HP : Hid (xs.take k ++ [x] = xs.take (k + 1)) := by unfold Hid; rw [List.take_add_one, hx]; rfl
      clear hx hrdx hcell hmk hF
      go_wp2_with fail
      refine (toEvent_u [.int .i64 x.1, .int .i64 x.2.1.1, .int .i64 x.2.1.2.1, .int .i64 x.2.1.2.2.1, .int .i64 x.2.1.2.2.2, .int .i64 x.2.2.1, .int .i64 x.2.2.2.1, .slice gaz x.2.2.2.2.1.length gcz, .int .i64 x.2.2.2.2.2] x _ HRX.out HX.out).mono ?_
      rintro e w1 ⟨ds, rfl, mm⟩
      obtain ⟨gay, gcy, rfl⟩ := event_shape (eventR.own_rd mm.1)
      rw [show aggV [.int .i64 x.1, .int .i64 x.2.1.1, .int .i64 x.2.1.2.1, .int .i64 x.2.1.2.2.1, .int .i64 x.2.1.2.2.2, .int .i64 x.2.2.1, .int .i64 x.2.2.2.1, .slice gay x.2.2.2.2.1.length gcy, .int .i64 x.2.2.2.2.2] = .agg #[.int .i64 x.1, .int .i64 x.2.1.1, .int .i64 x.2.1.2.1, .int .i64 x.2.1.2.2.1, .int .i64 x.2.1.2.2.2, .int .i64 x.2.2.1, .int .i64 x.2.2.2.1, .slice gay x.2.2.2.2.1.length gcy, .int .i64 x.2.2.2.2.2] from rfl]
      obtain ⟨q1, q2, F1⟩ := FS.out _ _ mm
      obtain ⟨v0, hv0⟩ := q1 0 (by decide)
      obtain ⟨v1, hv1⟩ := q1 1 (by decide)
      obtain ⟨v2, hv2⟩ := q1 2 (by decide)
      obtain ⟨v3, hv3⟩ := q1 3 (by decide)
      obtain ⟨v4, hv4⟩ := q1 4 (by decide)
      obtain ⟨v5, hv5⟩ := q1 5 (by decide)
      obtain ⟨v6, hv6⟩ := q1 6 (by decide)
      obtain ⟨v7, hv7⟩ := q1 7 (by decide)
      obtain ⟨v8, hv8⟩ := q1 8 (by decide)
      have z0 := q2 (k * 9)
      have z1 := q2 (k * 9 + 1)
      have z2 := q2 (k * 9 + 2)
      have z3 := q2 (k * 9 + 3)
      have z4 := q2 (k * 9 + 4)
      have z5 := q2 (k * 9 + 5)
      have z6 := q2 (k * 9 + 6)
      have z7 := q2 (k * 9 + 7)
      have z8 := q2 (k * 9 + 8)
      rw [show k * eventR.size + 0 = k * 9 from rfl] at hv0
      rw [show k * eventR.size + 1 = k * 9 + 1 from rfl] at hv1
      rw [show k * eventR.size + 2 = k * 9 + 2 from rfl] at hv2
      rw [show k * eventR.size + 3 = k * 9 + 3 from rfl] at hv3
      rw [show k * eventR.size + 4 = k * 9 + 4 from rfl] at hv4
      rw [show k * eventR.size + 5 = k * 9 + 5 from rfl] at hv5
      rw [show k * eventR.size + 6 = k * 9 + 6 from rfl] at hv6
      rw [show k * eventR.size + 7 = k * 9 + 7 from rfl] at hv7
      rw [show k * eventR.size + 8 = k * 9 + 8 from rfl] at hv8
      rw [HP.out] at F1
      have HF : Hid _ := F1
      clear F1 mm q1 q2 FS x0 x1 x2 x3 x4 x5 x6 x7 x8
      go_wp2
      go_roundw
      case rel => exact ⟨k + 1, by omega, by go_num, HF.out⟩
      case measure => simp [intOf]; omega
    · have hkl : k = xs.length := by omega
      subst hkl
      rw [List.take_length] at hF
      have FE := fillR_end hF rfl
      clear hF
      go_wp2
      go_ret
      exact ⟨[_], rfl, FE⟩
set_option maxHeartbeats 4000000 in
theorem eqEvents_u : EqC 8 eventsR eventsM cell1 := by
  rintro cs ds xs w ⟨a1, c1, rfl, l1, l2, h1⟩ ⟨a2, c2, rfl, k1, k2, h2⟩ hm
  show Calls Try.prog 8 #[.slice a1 xs.length c1, .slice a2 xs.length c2] w _
  have hbk : eventsM.bk xs = xs.length + sumbk eventM xs := rfl
  have hln : xs.length ≤ lot := by omega
  have HB : Hid (sumbk eventM xs ≤ lot) := by unfold Hid; omega
  have H1 : Hid (∀ W, Below w.heap.size w W → SlRd eventR W a1 xs) := fun W hb => slrd_keep h1 fun k hk => hb.block k hk
  have H2 : Hid (∀ W, Below w.heap.size w W → SlRd eventR W a2 xs) := fun W hb => slrd_keep h2 fun k hk => hb.block k hk
  have hln' : xs.length ≤ 4398046511104 := hln
  clear hbk hm h1 h2 l1 l2 k1 k2 hln
  go_enter Try.func8, Try.ntmps8
  go_wp2
  go_loopw [5] (fun i wr => ∃ k : Nat, k ≤ xs.length ∧ i = .int .i64 k ∧ Below w.heap.size w wr) (fun i _ => xs.length - (intOf i).toNat)
  case atStart => exact ⟨0, Nat.zero_le _, rfl, Below.refl _ _⟩
  case round =>
    obtain ⟨k, hk, rfl, BB⟩ := hrel
    by_cases hlt : k < xs.length
    · have hlt' : (k : Int) < (xs.length : Int) := by omega
      obtain ⟨x, hx⟩ : ∃ x, xs[k]? = some x := ⟨_, List.getElem?_eq_getElem hlt⟩
      have HX : Hid (eventM.bk x ≤ lot) := by unfold Hid; have := sumbk_ge eventM xs hx; have := HB.out; omega
      obtain ⟨b1, off1, cs1, rfl, hrd1, hcell1⟩ := slrd_at (H1.out _ BB) hx
      have HR1 : Hid (∀ n : Cls (fun wx => Below wr.heap.size wr wx), eventR.rd n.w cs1 x) := fun n => rd_next hrd1 n.h
      obtain ⟨gay, gcy, rfl⟩ := event_shape hrd1
      have s0 := hcell1 0 _ rfl
      have s1 := hcell1 1 _ rfl
      have s2 := hcell1 2 _ rfl
      have s3 := hcell1 3 _ rfl
      have s4 := hcell1 4 _ rfl
      have s5 := hcell1 5 _ rfl
      have s6 := hcell1 6 _ rfl
      have s7 := hcell1 7 _ rfl
      have s8 := hcell1 8 _ rfl
      rw [show off1 + (k * eventR.size + 0) = off1 + k * 9 from rfl] at s0
      rw [show off1 + (k * eventR.size + 1) = off1 + k * 9 + 1 from rfl] at s1
      rw [show off1 + (k * eventR.size + 2) = off1 + k * 9 + 2 from rfl] at s2
      rw [show off1 + (k * eventR.size + 3) = off1 + k * 9 + 3 from rfl] at s3
      rw [show off1 + (k * eventR.size + 4) = off1 + k * 9 + 4 from rfl] at s4
      rw [show off1 + (k * eventR.size + 5) = off1 + k * 9 + 5 from rfl] at s5
      rw [show off1 + (k * eventR.size + 6) = off1 + k * 9 + 6 from rfl] at s6
      rw [show off1 + (k * eventR.size + 7) = off1 + k * 9 + 7 from rfl] at s7
      rw [show off1 + (k * eventR.size + 8) = off1 + k * 9 + 8 from rfl] at s8
      clear hcell1 hrd1
      obtain ⟨b2, off2, cs2, rfl, hrd2, hcell2⟩ := slrd_at (H2.out _ BB) hx
      have HR2 : Hid (∀ n : Cls (fun wx => Below wr.heap.size wr wx), eventR.rd n.w cs2 x) := fun n => rd_next hrd2 n.h
      obtain ⟨gaz, gcz, rfl⟩ := event_shape hrd2
      have t0 := hcell2 0 _ rfl
      have t1 := hcell2 1 _ rfl
      have t2 := hcell2 2 _ rfl
      have t3 := hcell2 3 _ rfl
      have t4 := hcell2 4 _ rfl
      have t5 := hcell2 5 _ rfl
      have t6 := hcell2 6 _ rfl
      have t7 := hcell2 7 _ rfl
      have t8 := hcell2 8 _ rfl
      rw [show off2 + (k * eventR.size + 0) = off2 + k * 9 from rfl] at t0
      rw [show off2 + (k * eventR.size + 1) = off2 + k * 9 + 1 from rfl] at t1
      rw [show off2 + (k * eventR.size + 2) = off2 + k * 9 + 2 from rfl] at t2
      rw [show off2 + (k * eventR.size + 3) = off2 + k * 9 + 3 from rfl] at t3
      rw [show off2 + (k * eventR.size + 4) = off2 + k * 9 + 4 from rfl] at t4
      rw [show off2 + (k * eventR.size + 5) = off2 + k * 9 + 5 from rfl] at t5
      rw [show off2 + (k * eventR.size + 6) = off2 + k * 9 + 6 from rfl] at t6
      rw [show off2 + (k * eventR.size + 7) = off2 + k * 9 + 7 from rfl] at t7
      rw [show off2 + (k * eventR.size + 8) = off2 + k * 9 + 8 from rfl] at t8
      clear hcell2 hrd2
      have s0c : ∀ n : Cls (fun wx => Below wr.heap.size wr wx), n.w.cell? ⟨b1, off1 + k * 9, none⟩ = some (.int .i64 x.1) := fun n => cell_keep n.h s0 (cell_lt s0)
      have s1c : ∀ n : Cls (fun wx => Below wr.heap.size wr wx), n.w.cell? ⟨b1, off1 + k * 9 + 1, none⟩ = some (.int .i64 x.2.1.1) := fun n => cell_keep n.h s1 (cell_lt s1)
      have s2c : ∀ n : Cls (fun wx => Below wr.heap.size wr wx), n.w.cell? ⟨b1, off1 + k * 9 + 2, none⟩ = some (.int .i64 x.2.1.2.1) := fun n => cell_keep n.h s2 (cell_lt s2)
      have s3c : ∀ n : Cls (fun wx => Below wr.heap.size wr wx), n.w.cell? ⟨b1, off1 + k * 9 + 3, none⟩ = some (.int .i64 x.2.1.2.2.1) := fun n => cell_keep n.h s3 (cell_lt s3)
      have s4c : ∀ n : Cls (fun wx => Below wr.heap.size wr wx), n.w.cell? ⟨b1, off1 + k * 9 + 4, none⟩ = some (.int .i64 x.2.1.2.2.2) := fun n => cell_keep n.h s4 (cell_lt s4)
      have s5c : ∀ n : Cls (fun wx => Below wr.heap.size wr wx), n.w.cell? ⟨b1, off1 + k * 9 + 5, none⟩ = some (.int .i64 x.2.2.1) := fun n => cell_keep n.h s5 (cell_lt s5)
      have s6c : ∀ n : Cls (fun wx => Below wr.heap.size wr wx), n.w.cell? ⟨b1, off1 + k * 9 + 6, none⟩ = some (.int .i64 x.2.2.2.1) := fun n => cell_keep n.h s6 (cell_lt s6)
      have s7c : ∀ n : Cls (fun wx => Below wr.heap.size wr wx), n.w.cell? ⟨b1, off1 + k * 9 + 7, none⟩ = some (.slice gay x.2.2.2.2.1.length gcy) := fun n => cell_keep n.h s7 (cell_lt s7)
      have s8c : ∀ n : Cls (fun wx => Below wr.heap.size wr wx), n.w.cell? ⟨b1, off1 + k * 9 + 8, none⟩ = some (.int .i64 x.2.2.2.2.2) := fun n => cell_keep n.h s8 (cell_lt s8)
      have t0c : ∀ n : Cls (fun wx => Below wr.heap.size wr wx), n.w.cell? ⟨b2, off2 + k * 9, none⟩ = some (.int .i64 x.1) := fun n => cell_keep n.h t0 (cell_lt t0)
      have t1c : ∀ n : Cls (fun wx => Below wr.heap.size wr wx), n.w.cell? ⟨b2, off2 + k * 9 + 1, none⟩ = some (.int .i64 x.2.1.1) := fun n => cell_keep n.h t1 (cell_lt t1)
      have t2c : ∀ n : Cls (fun wx => Below wr.heap.size wr wx), n.w.cell? ⟨b2, off2 + k * 9 + 2, none⟩ = some (.int .i64 x.2.1.2.1) := fun n => cell_keep n.h t2 (cell_lt t2)
      have t3c : ∀ n : Cls (fun wx => Below wr.heap.size wr wx), n.w.cell? ⟨b2, off2 + k * 9 + 3, none⟩ = some (.int .i64 x.2.1.2.2.1) := fun n => cell_keep n.h t3 (cell_lt t3)
      have t4c : ∀ n : Cls (fun wx => Below wr.heap.size wr wx), n.w.cell? ⟨b2, off2 + k * 9 + 4, none⟩ = some (.int .i64 x.2.1.2.2.2) := fun n => cell_keep n.h t4 (cell_lt t4)
      have t5c : ∀ n : Cls (fun wx => Below wr.heap.size wr wx), n.w.cell? ⟨b2, off2 + k * 9 + 5, none⟩ = some (.int .i64 x.2.2.1) := fun n => cell_keep n.h t5 (cell_lt t5)
      have t6c : ∀ n : Cls (fun wx => Below wr.heap.size wr wx), n.w.cell? ⟨b2, off2 + k * 9 + 6, none⟩ = some (.int .i64 x.2.2.2.1) := fun n => cell_keep n.h t6 (cell_lt t6)
      have t7c : ∀ n : Cls (fun wx => Below wr.heap.size wr wx), n.w.cell? ⟨b2, off2 + k * 9 + 7, none⟩ = some (.slice gaz x.2.2.2.2.1.length gcz) := fun n => cell_keep n.h t7 (cell_lt t7)
      have t8c : ∀ n : Cls (fun wx => Below wr.heap.size wr wx), n.w.cell? ⟨b2, off2 + k * 9 + 8, none⟩ = some (.int .i64 x.2.2.2.2.2) := fun n => cell_keep n.h t8 (cell_lt t8)
      clear hx s0 s1 s2 s3 s4 s5 s6 s7 s8 t0 t1 t2 t3 t4 t5 t6 t7 t8
      go_wp2_with fail
      refine region_class (fun wx => Below wr.heap.size wr wx) (by kernel_rfl) (by kernel_rfl) ((Below.refl _ wr).drew) ?_
      intro hne
      repeat (quiet_step ((go_at_call 15; exact calls_class (eqEvent_u [.int .i64 x.1, .int .i64 x.2.1.1, .int .i64 x.2.1.2.1, .int .i64 x.2.1.2.2.1, .int .i64 x.2.1.2.2.2, .int .i64 x.2.2.1, .int .i64 x.2.2.2.1, .slice gay x.2.2.2.2.1.length gcy, .int .i64 x.2.2.2.2.2] [.int .i64 x.1, .int .i64 x.2.1.1, .int .i64 x.2.1.2.1, .int .i64 x.2.1.2.2.1, .int .i64 x.2.1.2.2.2, .int .i64 x.2.2.1, .int .i64 x.2.2.2.1, .slice gaz x.2.2.2.2.1.length gcz, .int .i64 x.2.2.2.2.2] x _ (HR1.out _) (HR2.out _) HX.out) (fun w' hc bb => below_step hc bb))))
      refine wpQuiet_nil ?_
      intro wx b2
      replace BB := below_step BB b2
      clear b2 hne s0c s1c s2c s3c s4c s5c s6c s7c s8c t0c t1c t2c t3c t4c t5c t6c t7c t8c
      go_wp2
      go_roundw
      case rel => exact ⟨k + 1, by omega, by go_num, BB⟩
      case measure => simp [intOf]; omega
    · go_wp2
      go_ret
      exact ⟨rfl, BB⟩
end Go.Proofs.Ytpfgggjcaogkkaa
