
/- Lists of lists of ops: the contracts of the laws' own helpers over them. Conditions: lengths that a machine can hold. -/
import Derived.Test.YteblffhbennpnaaOpL
namespace Go.Proofs.Yteblffhbennpnaa
open Go.ChangeShapes Go.WideShapes Go.ChangeAt Go.RowKit
set_option linter.unusedVariables false
abbrev opssR : Rep (List (List OpD)) := slR 38 opsR
abbrev opssM : Mk (List (List OpD)) := slM opsM
theorem opens_opss : Opens Try.prog 22 opssR := opens_slice Try.underlying22 (by kernel_rfl) (by decide) opens_ops
theorem opss_rd {w : World} {S : Foot} {a : Option Addr} {cap : Nat} {xs : List (List OpD)} (h : opssR.own w S [.slice a xs.length cap] xs) : SlRd opsR w a xs := by
  obtain ⟨a', cap', e, h1, h2, h3⟩ := opssR.own_rd h
  simp only [List.cons.injEq, Value.slice.injEq, and_true, true_and] at e
  rw [e.1]
  exact h3
theorem lens_bk (ps : List (List OpD)) : (ps.map List.length).sum ≤ (slM opsM).bk ps := by
  have h1 : (slM opsM).bk ps = ps.length + sumbk opsM ps := rfl
  have h2 : sumbk opsM ps = (ps.map List.length).sum := by
    induction ps with
    | nil => rfl
    | cons x xs ih => simp only [sumbk, List.map_cons, List.sum_cons] at ih ⊢; rw [ih rfl, bk_ops]
  omega
set_option maxHeartbeats 1000000 in
theorem szOpSS_rep (a : Option Addr) (xs : List (List OpD)) (cap : Nat) (left : Int) (w : World) (h : SlRd opsR w a xs) (h0 : 0 ≤ left) (h1 : left ≤ 1048576) (hm : xs.length ≤ maxLen) :
    Calls Try.prog 5 #[.slice a xs.length cap, .int .i64 left] w fun e w' => e = .returned (.int .i64 (szI ((slM opsM).bk xs) left)) ∧ w' = w := by
  have hm' : xs.length ≤ 9223372036854775807 := hm
  have hbk : (slM opsM).bk xs = xs.length + sumbk opsM xs := rfl
  clear hm
  by_cases hl : (xs.length : Int) ≤ left
  · have hl' : ¬ (left - (xs.length : Int) < 0) := by omega
    have HB : Hid _ := hbk
    clear hbk
    go_enter Try.func5, Try.ntmps5
    go_wp2
    go_loop [1, 5] (fun q i => ∃ k : Nat, k ≤ xs.length ∧ i = .int .i64 k ∧ (sumbk opsM (xs.take k) : Int) + xs.length ≤ left ∧ q = .int .i64 (left - (xs.length : Int) - sumbk opsM (xs.take k))) (fun _ i => xs.length - (intOf i).toNat)
    case atStart => exact ⟨0, Nat.zero_le _, rfl, by simp [sumbk]; omega, by simp [sumbk]⟩
    case round =>
      obtain ⟨k, hk, rfl, ht, rfl⟩ := hrel
      by_cases hlt : k < xs.length
      · have hlt' : (k : Int) < (xs.length : Int) := by omega
        obtain ⟨x, hx⟩ : ∃ x, xs[k]? = some x := ⟨_, List.getElem?_eq_getElem hlt⟩
        obtain ⟨b, off, c, rfl, ⟨aj, cj, rfl, hc1, hc2, hrd⟩, hcell⟩ := slrd_at h hx
        have g1 := hcell 0 _ rfl
        rw [show k * (opsR).size + 0 = k from Nat.mul_one k] at g1
        have HR : Hid _ := hrd
        have HX : Hid _ := Nat.le_trans hc1 hc2
        have HT : Hid _ := sumbk_step (M := opsM) hx
        have hxs := sumbk_get (M := opsM) hx
        clear h hx hcell hrd
        generalize sumbk opsM (xs.take k) = T at ht HT hxs ⊢
        by_cases hf : (((opsM).bk x : Nat) : Int) ≤ left - (xs.length : Int) - (T : Int)
        · have hf' : ¬ (left - (xs.length : Int) - (T : Int) - (((opsM).bk x : Nat) : Int) < 0) := by omega
          have HS : Hid (szI ((opsM).bk x) (left - (xs.length : Int) - (T : Int)) = _) := szI_yes hf
          go_wp2_with (go_at_call 13; refine (szOpS_rep _ x _ _ _ (by omega) (by omega) HX.out).mono ?_; rintro e w' ⟨rfl, rfl⟩; rw [HS.out])
          go_round
          case rel => exact ⟨k + 1, by omega, by go_num, by have := HT.out; omega, by rw [HT.out]; go_num⟩
          case measure => simp [intOf]; omega
        · have HS : Hid (szI ((opsM).bk x) (left - (xs.length : Int) - (T : Int)) = _) := szI_no hf
          have HN : Hid (szI ((slM opsM).bk xs) left = -1) := by unfold Hid; rw [HB.out]; exact szI_no (by omega)
          go_wp2_with (go_at_call 13; refine (szOpS_rep _ x _ _ _ (by omega) (by omega) HX.out).mono ?_; rintro e w' ⟨rfl, rfl⟩; rw [HS.out])
          go_ret
          exact ⟨ret_int HN.out.symm, rfl⟩
      · have hkl : k = xs.length := by omega
        subst hkl
        rw [List.take_length] at ht ⊢
        have HN : Hid (szI ((slM opsM).bk xs) left = left - (xs.length : Int) - (sumbk opsM xs : Int)) := by unfold Hid; rw [HB.out, szI_yes (by omega)]; omega
        go_wp2
        go_ret
        exact ⟨ret_int HN.out.symm, rfl⟩
  · have hl' : left - (xs.length : Int) < 0 := by omega
    rw [szI_no (by omega)]
    clear hbk h
    go_enter Try.func5, Try.ntmps5
    go_wp2
    go_ret
    exact ⟨rfl, rfl⟩


theorem Try.infoOpSS : (Try.prog.info? 38).map (fun i => (i.zero, i.size, i.bytes)) = some (some (.slice none 0 0), 1, 24) := by kernel_rfl

set_option maxHeartbeats 1000000 in
theorem toOpSS_rep (a : Option Addr) (xs : List (List OpD)) (cap : Nat) (w : World) (h : SlRd opsR w a xs) (hm : (slM opsM).bk xs ≤ 1048576) :
    Calls Try.prog 8 #[.slice a xs.length cap] w fun e w' => ∃ v, e = .returned v ∧ MadeR (slR 38 opsR) w w' [v] xs := by
  have hbk : (slM opsM).bk xs = xs.length + sumbk opsM xs := rfl
  have hln : xs.length ≤ 1048576 := by omega
  have HB : Hid (sumbk opsM xs ≤ 1048576) := by unfold Hid; omega
  clear hbk hm
  have hmk := Go.run_make_row' (P := Try.prog) 27 38 (.slice none 0 0) 24 Try.underlying27 Try.infoOpSS rfl .i64 .i64 xs.length (by omega) (by omega)
  go_enter Try.func8, Try.ntmps8
  go_wp2
  go_loopw [4] (fun i wr => ∃ k : Nat, k ≤ xs.length ∧ i = .int .i64 k ∧ Fill 38 opsR w wr xs.length (xs.take k)) (fun i _ => xs.length - (intOf i).toNat)
  case atStart => exact ⟨0, Nat.zero_le _, rfl, by simpa using fillR_start (e := 38) (R := opsR) (w0 := w) (n := xs.length) (cs := madeCells #[.slice none 0 0] xs.length) (by unfold maxLen; omega) (by simp [size_madeCells]; exact (Nat.mul_one _).symm)⟩
  case round =>
    obtain ⟨k, hk, rfl, hF⟩ := hrel
    by_cases hlt : k < xs.length
    · have hlt' : (k : Int) < (xs.length : Int) := by omega
      obtain ⟨x, hx⟩ : ∃ x, xs[k]? = some x := ⟨_, List.getElem?_eq_getElem hlt⟩
      obtain ⟨b, off, c, rfl, ⟨aj, cj, rfl, hc1, hc2, hrd⟩, hcell⟩ := slrd_at (slrd_next h (fill_below hF)) hx
      have g1 := hcell 0 _ rfl
      rw [show k * (opsR).size + 0 = k from Nat.mul_one k] at g1
      have HR : Hid _ := hrd
      have HX : Hid ((opsM).bk x ≤ 1048576) := by unfold Hid; have := sumbk_get (M := opsM) hx; have := HB.out; omega
      have FS : Hid (∀ w1 v, MadeR opsR wr w1 [v] x → _) := fun w1 v hm => fillR_step (w1 := w1) (c := [v]) hF (by simp; omega) hlt hm
      have HP : Hid (xs.take k ++ [x] = xs.take (k + 1)) := by unfold Hid; rw [List.take_add_one, hx]; rfl
      clear h hx hrd hcell hmk hF
      go_wp2_with (go_at_call 15; refine (toOpS_rep _ x _ _ HR.out HX.out).mono ?_; rintro e w1 ⟨v, rfl, mm⟩; obtain ⟨av, cv, rfl⟩ := slown_val mm.1; obtain ⟨q1, q2, F1⟩ := FS.out _ _ mm; obtain ⟨v0, hv0⟩ := q1 0 (Nat.zero_lt_one); have hfz := q2 k; rw [show k * (opsR).size + 0 = k from Nat.mul_one k] at hv0; rw [show k * (opsR).size = k from Nat.mul_one k, HP.out] at F1; have HF : Hid _ := F1; clear F1 mm q1 q2)
      go_roundw
      case rel => exact ⟨k + 1, by omega, by go_num, HF.out⟩
      case measure => simp [intOf]; omega
    · have hkl : k = xs.length := by omega
      subst hkl
      rw [List.take_length] at hF
      have FE := fillR_end hF rfl
      clear hF
      go_wp2
      go_ret
      exact ⟨_, rfl, FE⟩


set_option maxHeartbeats 1000000 in
theorem eqOpSS_rep (a1 a2 : Option Addr) (xs : List (List OpD)) (c1 c2 : Nat) (w : World) (h1 : SlRd opsR w a1 xs) (h2 : SlRd opsR w a2 xs) (hm : (slM opsM).bk xs ≤ 1152921504606846976) :
    Calls Try.prog 11 #[.slice a1 xs.length c1, .slice a2 xs.length c2] w fun e w' => e = .returned (.bool true) ∧ Below w.heap.size w w' := by
  have hbk : (slM opsM).bk xs = xs.length + sumbk opsM xs := rfl
  have hln : xs.length ≤ 1152921504606846976 := by omega
  have HB : Hid (sumbk opsM xs ≤ 1152921504606846976) := by unfold Hid; omega
  have H1 : Hid (∀ W, Below w.heap.size w W → SlRd opsR W a1 xs) := fun W hb => slrd_keep h1 fun k hk => hb.block k hk
  have H2 : Hid (∀ W, Below w.heap.size w W → SlRd opsR W a2 xs) := fun W hb => slrd_keep h2 fun k hk => hb.block k hk
  clear hbk hm h1 h2
  go_enter Try.func11, Try.ntmps11
  go_wp2
  go_loopw [5] (fun i wr => ∃ k : Nat, k ≤ xs.length ∧ i = .int .i64 k ∧ Below w.heap.size w wr) (fun i _ => xs.length - (intOf i).toNat)
  case atStart => exact ⟨0, Nat.zero_le _, rfl, Below.refl _ _⟩
  case round =>
    obtain ⟨k, hk, rfl, BB⟩ := hrel
    by_cases hlt : k < xs.length
    · have hlt' : (k : Int) < (xs.length : Int) := by omega
      obtain ⟨x, hx⟩ : ∃ x, xs[k]? = some x := ⟨_, List.getElem?_eq_getElem hlt⟩
      have HX : Hid ((opsM).bk x ≤ 1152921504606846976) := by unfold Hid; have := sumbk_ge opsM xs hx; have := HB.out; omega
      obtain ⟨b1, off1, cs1, rfl, ⟨aj1, cj1, rfl, -, -, hd1⟩, hcell1⟩ := slrd_at (H1.out _ BB) hx
      have x10 := hcell1 0 _ rfl
      rw [show k * opsR.size + 0 = k from Nat.mul_one k] at x10
      have HR1 : Hid (∀ n : Cls (fun wx => Below wr.heap.size wr wx), SlRd opR n.w aj1 x) := fun n => slrd_next hd1 n.h
      clear hcell1 hd1
      obtain ⟨b2, off2, cs2, rfl, ⟨aj2, cj2, rfl, -, -, hd2⟩, hcell2⟩ := slrd_at (H2.out _ BB) hx
      have x20 := hcell2 0 _ rfl
      rw [show k * opsR.size + 0 = k from Nat.mul_one k] at x20
      have HR2 : Hid (∀ n : Cls (fun wx => Below wr.heap.size wr wx), SlRd opR n.w aj2 x) := fun n => slrd_next hd2 n.h
      clear hcell2 hd2
      have x10c : ∀ n : Cls (fun wx => Below wr.heap.size wr wx), n.w.cell? ⟨b1, off1 + k, none⟩ = some (.slice aj1 x.length cj1) := fun n => cell_keep n.h x10 (cell_lt x10)
      have x20c : ∀ n : Cls (fun wx => Below wr.heap.size wr wx), n.w.cell? ⟨b2, off2 + k, none⟩ = some (.slice aj2 x.length cj2) := fun n => cell_keep n.h x20 (cell_lt x20)
      clear hx x10 x20
      go_wp2_with fail
      refine region_class (fun wx => Below wr.heap.size wr wx) (by kernel_rfl) (by kernel_rfl) ((Below.refl _ wr).drew) ?_
      intro hne
      repeat (quiet_step ((go_at_call 18; exact calls_class (eqOpS_rep _ _ x _ _ _ (HR1.out _) (HR2.out _) HX.out) (fun w' hc bb => below_step hc bb))))
      refine wpQuiet_nil ?_
      intro wx b2
      replace BB := below_step BB b2
      clear b2 hne x10c x20c
      go_wp2
      go_roundw
      case rel => exact ⟨k + 1, by omega, by go_num, BB⟩
      case measure => simp [intOf]; omega
    · go_wp2
      go_ret
      exact ⟨rfl, BB⟩
end Go.Proofs.Yteblffhbennpnaa
