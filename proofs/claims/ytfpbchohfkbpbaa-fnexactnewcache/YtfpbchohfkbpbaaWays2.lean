/- The contracts of the laws' own helpers over ways, sets and stores: how great, a copy, alike. Conditions: lengths that a machine can hold. -/
import Derived.Test.YtfpbchohfkbpbaaWays
import Derived.Test.YtfpbchohfkbpbaaLines
import Derived.Deep.QuietTactic
import Derived.Test.YtfpbchohfkbpbaaClasses
namespace Go.Proofs.Ytfpbchohfkbpbaa
open Go.ChangeShapes Go.WideShapes Go.ChangeAt Go.RowKit
set_option linter.unusedVariables false

theorem bk_way (u : Int × Int × List Int) : wayM.bk u = intsM.bk u.2.2 := by
  show 0 + (0 + intsM.bk u.2.2) = _
  omega
theorem lens_of {xs : List Int} {cap : Nat} (h1 : xs.length ≤ cap) (h2 : cap ≤ maxLen) : xs.length ≤ maxLen := Nat.le_trans h1 h2

set_option maxHeartbeats 1000000 in
theorem szWayS_rep (a : Option Addr) (xs : List (Int × Int × List Int)) (cap : Nat) (left : Int) (w : World) (h : SlRd wayR w a xs) (h0 : 0 ≤ left) (h1 : left ≤ 1048576) (hm : xs.length ≤ maxLen) :
    Calls Try.prog 102 #[.slice a xs.length cap, .int .i64 left] w fun e w' => e = .returned (.int .i64 (szI ((slM wayM).bk xs) left)) ∧ Below w.heap.size w w' := by
  have hm' : xs.length ≤ 9223372036854775807 := hm
  have hbk : (slM wayM).bk xs = xs.length + sumbk wayM xs := rfl
  clear hm
  by_cases hl : (xs.length : Int) ≤ left
  · have hl' : ¬ (left - (xs.length : Int) < 0) := by omega
    have HB : Hid _ := hbk
    have H0 : Hid (SlRd wayR w a xs) := h
    clear hbk h
    go_enter Try.func102, Try.ntmps102
    go_wp2
    go_loopw [1, 5] (fun q i wr => ∃ k : Nat, k ≤ xs.length ∧ i = .int .i64 k ∧ (sumbk wayM (xs.take k) : Int) + xs.length ≤ left ∧ q = .int .i64 (left - (xs.length : Int) - sumbk wayM (xs.take k)) ∧ Below w.heap.size w wr) (fun _ i _ => xs.length - (intOf i).toNat)
    case atStart => exact ⟨0, Nat.zero_le _, rfl, by simp [sumbk]; omega, by simp [sumbk], Below.refl _ _⟩
    case round =>
      obtain ⟨k, hk, rfl, ht, rfl, BB⟩ := hrel
      by_cases hlt : k < xs.length
      · have hlt' : (k : Int) < (xs.length : Int) := by omega
        obtain ⟨x, hx⟩ : ∃ x, xs[k]? = some x := ⟨_, List.getElem?_eq_getElem hlt⟩
        have H2 := slrd_keep H0.out fun k hk => BB.block k hk
        obtain ⟨b, off, cs, rfl, hrdx, hcell⟩ := slrd_at H2 hx
        obtain ⟨ad, cpw, rfl, -, -, hd1, hd2, hd3⟩ := way_rd hrdx
        have x0 := hcell 0 _ rfl
        have x1 := hcell 1 _ rfl
        have x2 := hcell 2 _ rfl
        rw [show off + (k * wayR.size + 0) = off + k * 3 from rfl] at x0
        rw [show off + (k * wayR.size + 1) = off + k * 3 + 1 from rfl] at x1
        rw [show off + (k * wayR.size + 2) = off + k * 3 + 2 from rfl] at x2
        have HX : Hid (x.2.2.length ≤ maxLen) := Nat.le_trans hd1 hd2
        have HR : Hid (SlRd intR wr ad x.2.2) := hd3
        clear hcell hrdx hd1 hd2 hd3
        have HT : Hid _ := sumbk_step (M := wayM) hx
        have hxs := sumbk_get (M := wayM) hx
        clear hx H2
        generalize sumbk wayM (xs.take k) = T at ht HT hxs ⊢
        by_cases hf : (((wayM).bk x : Nat) : Int) ≤ left - (xs.length : Int) - (T : Int)
        · have hf' : ¬ (left - (xs.length : Int) - (T : Int) - (((wayM).bk x : Nat) : Int) < 0) := by omega
          have HS : Hid (szI ((wayM).bk x) (left - (xs.length : Int) - (T : Int)) = _) := szI_yes hf
          go_wp2_with (go_at_call 37; refine (szWay_rep x.1 x.2.1 x.2.2 _ _ _ _ (by omega) (by omega) HX.out).mono ?_; rintro e w' ⟨rfl, bb⟩; replace BB := below_step BB bb; clear bb; rw [HS.out])
          go_roundw
          case rel => exact ⟨k + 1, by omega, by go_num, by have := HT.out; omega, by rw [HT.out]; go_num, BB⟩
          case measure => simp [intOf]; omega
        · have HS : Hid (szI ((wayM).bk x) (left - (xs.length : Int) - (T : Int)) = _) := szI_no hf
          have HN : Hid (szI ((slM wayM).bk xs) left = -1) := by unfold Hid; rw [HB.out]; exact szI_no (by omega)
          go_wp2_with (go_at_call 37; refine (szWay_rep x.1 x.2.1 x.2.2 _ _ _ _ (by omega) (by omega) HX.out).mono ?_; rintro e w' ⟨rfl, bb⟩; replace BB := below_step BB bb; clear bb; rw [HS.out])
          go_ret
          exact ⟨ret_int HN.out.symm, BB⟩
      · have hkl : k = xs.length := by omega
        subst hkl
        rw [List.take_length] at ht ⊢
        have HN : Hid (szI ((slM wayM).bk xs) left = left - (xs.length : Int) - (sumbk wayM xs : Int)) := by unfold Hid; rw [HB.out, szI_yes (by omega)]; omega
        go_wp2
        go_ret
        exact ⟨ret_int HN.out.symm, BB⟩
  · have hl' : left - (xs.length : Int) < 0 := by omega
    rw [szI_no (by omega)]
    clear hbk h
    go_enter Try.func102, Try.ntmps102
    go_wp2
    go_ret
    exact ⟨rfl, Below.refl _ _⟩

set_option maxHeartbeats 1000000 in
theorem szWaySS_rep (a : Option Addr) (xs : List (List (Int × Int × List Int))) (cap : Nat) (left : Int) (w : World) (h : SlRd waysR w a xs) (h0 : 0 ≤ left) (h1 : left ≤ 1048576) (hm : xs.length ≤ maxLen) :
    Calls Try.prog 73 #[.slice a xs.length cap, .int .i64 left] w fun e w' => e = .returned (.int .i64 (szI ((slM waysM).bk xs) left)) ∧ Below w.heap.size w w' := by
  have hm' : xs.length ≤ 9223372036854775807 := hm
  have hbk : (slM waysM).bk xs = xs.length + sumbk waysM xs := rfl
  clear hm
  by_cases hl : (xs.length : Int) ≤ left
  · have hl' : ¬ (left - (xs.length : Int) < 0) := by omega
    have HB : Hid _ := hbk
    have H0 : Hid (SlRd waysR w a xs) := h
    clear hbk h
    go_enter Try.func73, Try.ntmps73
    go_wp2
    go_loopw [1, 5] (fun q i wr => ∃ k : Nat, k ≤ xs.length ∧ i = .int .i64 k ∧ (sumbk waysM (xs.take k) : Int) + xs.length ≤ left ∧ q = .int .i64 (left - (xs.length : Int) - sumbk waysM (xs.take k)) ∧ Below w.heap.size w wr) (fun _ i _ => xs.length - (intOf i).toNat)
    case atStart => exact ⟨0, Nat.zero_le _, rfl, by simp [sumbk]; omega, by simp [sumbk], Below.refl _ _⟩
    case round =>
      obtain ⟨k, hk, rfl, ht, rfl, BB⟩ := hrel
      by_cases hlt : k < xs.length
      · have hlt' : (k : Int) < (xs.length : Int) := by omega
        obtain ⟨x, hx⟩ : ∃ x, xs[k]? = some x := ⟨_, List.getElem?_eq_getElem hlt⟩
        have H2 := slrd_keep H0.out fun k hk => BB.block k hk
        obtain ⟨b, off, cs, rfl, ⟨aj, cj, rfl, hd1, hd2, hd3⟩, hcell⟩ := slrd_at H2 hx
        have x0 := hcell 0 _ rfl
        rw [show k * waysR.size + 0 = k from Nat.mul_one k] at x0
        have HX : Hid (x.length ≤ maxLen) := Nat.le_trans hd1 hd2
        have HR : Hid (SlRd wayR wr aj x) := hd3
        clear hcell hd1 hd2 hd3
        have HT : Hid _ := sumbk_step (M := waysM) hx
        have hxs := sumbk_get (M := waysM) hx
        clear hx H2
        generalize sumbk waysM (xs.take k) = T at ht HT hxs ⊢
        by_cases hf : (((waysM).bk x : Nat) : Int) ≤ left - (xs.length : Int) - (T : Int)
        · have hf' : ¬ (left - (xs.length : Int) - (T : Int) - (((waysM).bk x : Nat) : Int) < 0) := by omega
          have HS : Hid (szI ((waysM).bk x) (left - (xs.length : Int) - (T : Int)) = _) := szI_yes hf
          go_wp2_with (go_at_call 102; refine (szWayS_rep _ x _ _ _ HR.out (by omega) (by omega) HX.out).mono ?_; rintro e w' ⟨rfl, bb⟩; replace BB := below_step BB bb; clear bb; rw [HS.out])
          go_roundw
          case rel => exact ⟨k + 1, by omega, by go_num, by have := HT.out; omega, by rw [HT.out]; go_num, BB⟩
          case measure => simp [intOf]; omega
        · have HS : Hid (szI ((waysM).bk x) (left - (xs.length : Int) - (T : Int)) = _) := szI_no hf
          have HN : Hid (szI ((slM waysM).bk xs) left = -1) := by unfold Hid; rw [HB.out]; exact szI_no (by omega)
          go_wp2_with (go_at_call 102; refine (szWayS_rep _ x _ _ _ HR.out (by omega) (by omega) HX.out).mono ?_; rintro e w' ⟨rfl, bb⟩; replace BB := below_step BB bb; clear bb; rw [HS.out])
          go_ret
          exact ⟨ret_int HN.out.symm, BB⟩
      · have hkl : k = xs.length := by omega
        subst hkl
        rw [List.take_length] at ht ⊢
        have HN : Hid (szI ((slM waysM).bk xs) left = left - (xs.length : Int) - (sumbk waysM xs : Int)) := by unfold Hid; rw [HB.out, szI_yes (by omega)]; omega
        go_wp2
        go_ret
        exact ⟨ret_int HN.out.symm, BB⟩
  · have hl' : left - (xs.length : Int) < 0 := by omega
    rw [szI_no (by omega)]
    clear hbk h
    go_enter Try.func73, Try.ntmps73
    go_wp2
    go_ret
    exact ⟨rfl, Below.refl _ _⟩

def szC (c : List (List (Int × Int × List Int)) × List Int) (left : Int) : Int := if ((cacheM.bk c : Nat) : Int) ≤ left then left - cacheM.bk c else -1

set_option maxHeartbeats 1000000 in
theorem szCache_rep (a b : Option Addr) (c : List (List (Int × Int × List Int)) × List Int) (cap cp : Nat) (left : Int) (w : World) (h : SlRd waysR w a c.1) (h0 : 0 ≤ left) (h1 : left ≤ 1048576) (m1 : c.1.length ≤ maxLen) (m2 : c.2.length ≤ maxLen) :
    Calls Try.prog 29 #[.agg #[.slice a c.1.length cap, .slice b c.2.length cp], .int .i64 left] w fun e w' => e = .returned (.int .i64 (szI (cacheM.bk c) left)) ∧ Below w.heap.size w w' := by
  have hbk : cacheM.bk c = setsM.bk c.1 + intsM.bk c.2 := rfl
  rw [hbk]
  have X := heap_alloc_new w (.cells #[.slice a c.1.length cap, .slice b c.2.length cp] 48)
  have BX := box_below w (.cells #[.slice a c.1.length cap, .slice b c.2.length cp] 48)
  have H : Hid (∀ o, SlRd waysR (w.alloc o) a c.1) := fun o => slrd_next h (box_below w o)
  clear h hbk
  generalize hn1 : setsM.bk c.1 = n1
  generalize hn2 : intsM.bk c.2 = n2
  have C1 := szWaySS_rep a c.1 cap left (w.alloc (.cells #[.slice a c.1.length cap, .slice b c.2.length cp] 48)) (H.out _) h0 h1 m1
  rw [hn1] at C1
  by_cases hl : (n1 : Int) ≤ left
  · rw [szI_yes hl] at C1
    have hl' : ¬ (left - (n1 : Int) < 0) := by omega
    have C2 : Hid (∀ W, Calls Try.prog 74 #[.slice b c.2.length cp, .int .i64 (left - (n1 : Int))] W fun e w' => e = .returned (.int .i64 (szI n2 (left - (n1 : Int)))) ∧ w' = W) := fun W => by
      have := szInt64S_rep b c.2 cp (left - (n1 : Int)) W (by omega) (by omega) m2
      rwa [hn2] at this
    clear hn1 hn2 H m1 m2
    by_cases hl2 : (n2 : Int) ≤ left - (n1 : Int)
    · have HR : Hid (szI (n1 + n2) left = left - (n1 : Int) - (n2 : Int)) := by unfold Hid; rw [szI_yes (by omega)]; omega
      have hl2' : ¬ (left - (n1 : Int) - (n2 : Int) < 0) := by omega
      have HS : Hid (szI n2 (left - (n1 : Int)) = left - (n1 : Int) - (n2 : Int)) := szI_yes hl2
      go_enter Try.func29, Try.ntmps29
      go_wp2_with fail
      refine C1.mono ?_
      rintro e w1 ⟨rfl, b1⟩
      obtain ⟨y0, y1⟩ := cell_two (row_keep b1 X)
      have BB := below_step BX b1
      clear b1 X BX C1
      go_wp2_with (go_at_call 74; refine (C2.out _).mono ?_; rintro e w' ⟨rfl, rfl⟩; rw [HS.out])
      go_ret
      exact ⟨ret_int HR.out.symm, BB⟩
    · have HR : Hid (szI (n1 + n2) left = -1) := by unfold Hid; exact szI_no (by omega)
      have HS : Hid (szI n2 (left - (n1 : Int)) = -1) := szI_no hl2
      go_enter Try.func29, Try.ntmps29
      go_wp2_with fail
      refine C1.mono ?_
      rintro e w1 ⟨rfl, b1⟩
      obtain ⟨y0, y1⟩ := cell_two (row_keep b1 X)
      have BB := below_step BX b1
      clear b1 X BX C1
      go_wp2_with (go_at_call 74; refine (C2.out _).mono ?_; rintro e w' ⟨rfl, rfl⟩; rw [HS.out])
      go_ret
      exact ⟨ret_int HR.out.symm, BB⟩
  · rw [szI_no hl] at C1
    have HR : Hid (szI (n1 + n2) left = -1) := by unfold Hid; exact szI_no (by omega)
    clear hn1 hn2 H m1 m2
    go_enter Try.func29, Try.ntmps29
    go_wp2_with fail
    refine C1.mono ?_
    rintro e w1 ⟨rfl, b1⟩
    obtain ⟨y0, y1⟩ := cell_two (row_keep b1 X)
    have BB := below_step BX b1
    clear b1 X BX C1
    go_wp2
    go_ret
    exact ⟨ret_int HR.out.symm, BB⟩

end Go.Proofs.Ytfpbchohfkbpbaa
