
import Derived.Test.YtbcggkfbahmpoaaJLinesBoxesAppGenOwned
import Derived.Test.YtbcggkfbahmpoaaWays2
import Derived.Test.YtbcggkfbahmpoaaIters
import Derived.Test.YtbcggkfbahmpoaaStoreEnd
/- The contracts of the laws' own helpers over ways, sets and stores: marks, and whether they are held. Conditions: lengths that a machine can hold. -/
namespace Go.Proofs.Ytbcggkfbahmpoaa
open Go.ChangeShapes Go.WideShapes Go.ChangeAt Go.RowKit
set_option linter.unusedVariables false

theorem in64_k {k : Int} (h0 : 0 ≤ k) (h1 : k ≤ 1152921504606846976) : In64 k := by constructor <;> omega

theorem cnt_len (xs : List (Int × Int × List Int)) : xs.length ≤ slcnt wayM xs := by
  induction xs with
  | nil => exact Nat.zero_le _
  | cons x xs ih =>
    simp only [slcnt, List.map_cons, List.sum_cons, List.length_cons] at ih ⊢
    have : 1 ≤ wayM.cE x := by show 1 ≤ 1 + _; omega
    omega
theorem cnt_len2 (xs : List (List (Int × Int × List Int))) {K : Nat} (h : xs.length ≤ K) : xs.length ≤ K := h

set_option maxHeartbeats 400000 in
theorem markWayS_nil (k : Int) (w : World) :
    Calls Try.prog 85 #[.slice none 0 0, .int .i64 k] w fun e' w' => e' = .returned (.int .i64 k) ∧ w' = w := by
  go_enter Try.func85, Try.ntmps85
  go_wp2
  refine wp_loop_rounds 1 ?_
  rw [rounds_succ]
  go_wp2
  go_ret
  exact ⟨rfl, rfl⟩

set_option maxHeartbeats 2000000 in
theorem markWayS_rep (S : Foot) (v : Value) (k : Int) (xs : List (Int × Int × List Int)) (w : World) (h0 : 0 ≤ k) (h1 : k ≤ 288230376151711744) (hm : slcnt wayM xs ≤ 288230376151711744) (h : waysR.own w S [v] xs) :
    Calls Try.prog 85 #[v, .int .i64 k] w fun e' w' => e' = .returned (.int .i64 (k + slcnt wayM xs)) ∧ waysR.own w' S [v] (slmark wayM k xs) ∧ Chg S w w' := by
  have hln := cnt_len xs
  rcases slown_form h with ⟨rfl, rfl⟩ | ⟨G, cap, rfl, hG⟩
  · exact (markWayS_nil k w).mono fun e w' ⟨e1, e2⟩ => ⟨by simpa [slcnt] using e1, by rw [e2]; exact h, by rw [e2]; exact Chg.refl _ _⟩
  go_enter Try.func85, Try.ntmps85
  go_wp2
  go_loopw [1, 5] (fun q i wr => ∃ j : Nat, j ≤ xs.length ∧ i = .int .i64 j ∧ q = .int .i64 (k + slcnt wayM (xs.take j)) ∧ waysR.own wr S [.slice (some ⟨G, 0, none⟩) xs.length cap] (pmark wayM k xs j) ∧ Chg S w wr)
    (fun _ i _ => xs.length - (intOf i).toNat)
  case atStart => exact ⟨0, Nat.zero_le _, rfl, by simp [slcnt], by rw [pmark_zero]; exact h, Chg.refl _ _⟩
  case round =>
    obtain ⟨j, hj, rfl, rfl, ho, hs⟩ := hrel
    by_cases hlt : j < xs.length
    · have hlt' : (j : Int) < (xs.length : Int) := by omega
      obtain ⟨x, hx⟩ : ∃ x, xs[j]? = some x := ⟨_, List.getElem?_eq_getElem hlt⟩
      have HT : Hid (slcnt wayM (xs.take (j + 1)) = slcnt wayM (xs.take j) + (1 + (1 + slcnt intM x.2.2))) := slcnt_step (M := wayM) hx
      have hT : slcnt wayM (xs.take j) + (1 + (1 + slcnt intM x.2.2)) ≤ slcnt wayM xs := slcnt_get (M := wayM) hx
      have HPS : Hid _ := pmark_step (M := wayM) (k := k) hx
      obtain ⟨g, cap', cur, Sj, T, c, hv, hSg, hblk, hcur, hcl, hown, s1, s2, s3, s4, s5, close⟩ := slown_focus ho (pmark_at hx)
      simp only [Value.slice.injEq, Option.some.injEq, Addr.mk.injEq, and_true] at hv
      obtain ⟨rfl, hvx⟩ := hv
      obtain ⟨vd, rfl, -, -, hod⟩ := way_own hown
      obtain ⟨av, cv, rfl⟩ := slown_val hod
      have q0 : wr.cell? ⟨G, j * 3, none⟩ = some (.int .i64 x.1) := by rw [cell_of_row wr G _ cur _ (0, 0) hblk]; exact hcur 0 (by decide)
      have q1 : wr.cell? ⟨G, j * 3 + 1, none⟩ = some (.int .i64 x.2.1) := by rw [cell_of_row wr G _ cur _ (0, 0) hblk]; exact hcur 1 (by decide)
      have q2 : wr.cell? ⟨G, j * 3 + 2, none⟩ = some (.slice av x.2.2.length cv) := by rw [cell_of_row wr G _ cur _ (0, 0) hblk]; exact hcur 2 (by decide)
      have f0 : wr.frozen? ⟨G, j * 3, none⟩ = false := frozen_of_row wr G _ _ _ hblk
      have f1 : wr.frozen? ⟨G, j * 3 + 1, none⟩ = false := frozen_of_row wr G _ _ _ hblk
      have hcs : j * 3 + 2 < cur.size := by
        have := hcur 2 (by decide)
        exact (Array.getElem?_eq_some_iff.1 (this.trans rfl)).1
      clear hvx hcl
      generalize hkk : k + (slcnt wayM (xs.take j) : Int) = kk at HPS ⊢
      have hk0 : 0 ≤ kk ∧ kk ≤ 576460752303423488 := by omega
      have HC : Hid (∀ w', Chg Sj ((wr.setCell ⟨G, j * 3, none⟩ (.int .i64 kk)).setCell ⟨G, j * 3 + 1, none⟩ (.int .i64 (kk + 1))) w' → intsR.own w' Sj [.slice av x.2.2.length cv] (slmark intM (kk + 1 + 1) x.2.2) → waysR.own w' S [.slice (some ⟨G, 0, none⟩) xs.length cap] (pmark wayM k xs (j + 1)) ∧ Chg S wr w') := by
        intro w' hc ho'
        have y1 := heap_setCell_same wr G (j * 3) _ _ (.int .i64 kk) hblk
        have y2 := heap_setCell_same _ G (j * 3 + 1) _ _ (.int .i64 (kk + 1)) y1
        have hlg : G < wr.heap.size := (Array.getElem?_eq_some_iff.1 hblk).1
        have c1 : Chg S wr ((wr.setCell ⟨G, j * 3, none⟩ (.int .i64 kk)).setCell ⟨G, j * 3 + 1, none⟩ (.int .i64 (kk + 1))) := ⟨rfl, rfl, rfl, by simp, fun i hi hn => by
          have : i ≠ G := fun e => hn (by rw [e]; exact hSg)
          rw [heap_setCell_other _ ⟨G, j * 3 + 1, none⟩ i _ this, heap_setCell_other _ ⟨G, j * 3, none⟩ i _ this]⟩
        refine ⟨?_, c1.trans (hc.mono s1)⟩
        rw [← HPS.out]
        refine close w' _ [.int .i64 kk, .int .i64 (kk + 1), .slice av x.2.2.length cv] _ Sj S ((hc.block G (by simpa using hlg) s4).trans y2) (by simp) ?_ ?_ ?_ (own_way (in64_k hk0.1 (by omega)) (in64_k (by omega) (by omega)) ho') s3 s4 hSg s1 s2
        · intro i hi
          rw [show wayR.size = 3 from rfl] at hi
          rw [Array.getElem?_setIfInBounds_ne (by omega), Array.getElem?_setIfInBounds_ne (by omega)]
        · intro i hi
          rw [show wayR.size = 3 from rfl] at hi
          rw [show j * wayR.size = j * 3 from rfl]
          have h3 : i = 0 ∨ i = 1 ∨ i = 2 := by omega
          rcases h3 with rfl | rfl | rfl
          · rw [Array.getElem?_setIfInBounds_ne (by omega), Nat.add_zero, Array.getElem?_setIfInBounds_self_of_lt (by omega)]
            rfl
          · rw [Array.getElem?_setIfInBounds_self_of_lt (by simp; omega)]
            rfl
          · rw [Array.getElem?_setIfInBounds_ne (by omega), Array.getElem?_setIfInBounds_ne (by omega)]
            exact hcur 2 (by decide)
        · intro i hi hil
          have hne : i ≠ G := fun e => s5 (by rw [← e]; exact hi)
          rw [hc.block i (by simpa using hil) (fun hx => s3 i hx hi), heap_setCell_other _ ⟨G, j * 3 + 1, none⟩ i _ hne, heap_setCell_other _ ⟨G, j * 3, none⟩ i _ hne]
      have HO : Hid (intsR.own ((wr.setCell ⟨G, j * 3, none⟩ (.int .i64 kk)).setCell ⟨G, j * 3 + 1, none⟩ (.int .i64 (kk + 1))) Sj [.slice av x.2.2.length cv] x.2.2) := own_setC (own_setC hod s4) s4
      clear hx ho hown close hcur hblk s1 s2 s3 s4 s5 HPS h hod hcs
      generalize slcnt wayM (xs.take j) = TT at HT hT hkk
      go_wp2_with fail
      refine (markInt64S_rep Sj _ _ x.2.2 _ (by omega) (by omega) (by omega) HO.out).mono ?_
      rintro e w' ⟨rfl, own2, gr⟩
      obtain ⟨ho2, gr2⟩ := HC.out w' gr own2
      have hs2 := hs.trans gr2
      clear own2 gr gr2 HC HO q0 q1 q2 f0 f1
      go_wp2
      go_roundw
      case rel => exact ⟨j + 1, by omega, by go_num, by rw [HT.out]; congr 1; omega, ho2, hs2⟩
      case measure => simp [intOf]; omega
    · have hjn : j = xs.length := by omega
      subst hjn
      rw [List.take_length]
      rw [pmark_all] at ho
      go_wp2
      go_ret
      exact ⟨rfl, ho, hs⟩

set_option maxHeartbeats 1000000 in
theorem heldWayS_rep (a : Option Addr) (cap : Nat) (k : Int) (xs : List (Int × Int × List Int)) (w : World) (h0 : 0 ≤ k) (h1 : k ≤ 288230376151711744) (hm : slcnt wayM xs ≤ 288230376151711744) (h : SlRd wayR w a (slmark wayM k xs)) :
    Calls Try.prog 86 #[.slice a xs.length cap, .int .i64 k] w fun e' w' => e' = .returned (.int .i64 (k + slcnt wayM xs)) ∧ w' = w := by
  have hln := cnt_len xs
  go_enter Try.func86, Try.ntmps86
  go_wp2
  go_loop [1, 5] (fun q i => ∃ j : Nat, j ≤ xs.length ∧ i = .int .i64 j ∧ q = .int .i64 (k + slcnt wayM (xs.take j))) (fun _ i => xs.length - (intOf i).toNat)
  case atStart => exact ⟨0, Nat.zero_le _, rfl, by simp [slcnt]⟩
  case round =>
    obtain ⟨j, hj, rfl, rfl⟩ := hrel
    by_cases hlt : j < xs.length
    · have hlt' : (j : Int) < (xs.length : Int) := by omega
      obtain ⟨x, hx⟩ : ∃ x, xs[j]? = some x := ⟨_, List.getElem?_eq_getElem hlt⟩
      obtain ⟨b, off, cs, rfl, hrd, hcell⟩ := slrd_at h (slmark_at (M := wayM) (k := k) hx)
      obtain ⟨ad, cpw, rfl, -, -, -, -, hd3⟩ := way_rd hrd
      have x0 := hcell 0 _ rfl
      have x1 := hcell 1 _ rfl
      have x2 := hcell 2 _ rfl
      rw [show off + (j * wayR.size + 0) = off + j * 3 from rfl] at x0
      rw [show off + (j * wayR.size + 1) = off + j * 3 + 1 from rfl] at x1
      rw [show off + (j * wayR.size + 2) = off + j * 3 + 2 from rfl] at x2
      have hml : (wayM.mE (k + slcnt wayM (xs.take j)) x).2.2.length = x.2.2.length := slmark_len _ _ _
      rw [hml] at x2
      have HR : Hid (SlRd intR w ad (slmark intM (k + slcnt wayM (xs.take j) + 1 + 1) x.2.2)) := hd3
      have y0 : w.cell? ⟨b, off + j * 3, none⟩ = some (.int .i64 (k + slcnt wayM (xs.take j))) := x0
      have y1 : w.cell? ⟨b, off + j * 3 + 1, none⟩ = some (.int .i64 (k + slcnt wayM (xs.take j) + 1)) := x1
      have HT : Hid (slcnt wayM (xs.take (j + 1)) = slcnt wayM (xs.take j) + (1 + (1 + slcnt intM x.2.2))) := slcnt_step (M := wayM) hx
      have hT : slcnt wayM (xs.take j) + (1 + (1 + slcnt intM x.2.2)) ≤ slcnt wayM xs := slcnt_get (M := wayM) hx
      clear hx hrd hcell h hml hd3 x0 x1
      generalize hkk : k + (slcnt wayM (xs.take j) : Int) = kk at HR y0 y1 ⊢
      generalize slcnt wayM (xs.take j) = TT at HT hT hkk
      have hk0 : 0 ≤ kk ∧ kk ≤ 576460752303423488 := by omega
      have hn : ¬ (kk + 1 + 1 + ((slcnt intM x.2.2 : Nat) : Int) < 0) := by omega
      go_wp2_with (go_at_call 50; refine (heldInt64S_rep _ _ _ x.2.2 _ (by omega) (by omega) (by omega) HR.out).mono ?_; rintro e w' ⟨rfl, rfl⟩)
      go_round
      case rel => exact ⟨j + 1, by omega, by go_num, by rw [HT.out]; congr 1; omega⟩
      case measure => simp [intOf]; omega
    · have hjn : j = xs.length := by omega
      subst hjn
      rw [List.take_length]
      go_wp2
      go_ret
      exact ⟨rfl, rfl⟩

set_option maxHeartbeats 400000 in
theorem markWaySS_nil (k : Int) (w : World) :
    Calls Try.prog 70 #[.slice none 0 0, .int .i64 k] w fun e' w' => e' = .returned (.int .i64 k) ∧ w' = w := by
  go_enter Try.func70, Try.ntmps70
  go_wp2
  refine wp_loop_rounds 1 ?_
  rw [rounds_succ]
  go_wp2
  go_ret
  exact ⟨rfl, rfl⟩

set_option maxHeartbeats 1000000 in
theorem markWaySS_rep (S : Foot) (v : Value) (k : Int) (xs : List (List (Int × Int × List Int))) (w : World) (h0 : 0 ≤ k) (h1 : k ≤ 144115188075855872) (hm : slcnt waysM xs ≤ 144115188075855872) (hln : xs.length ≤ 144115188075855872) (h : (slR 80 waysR).own w S [v] xs) :
    Calls Try.prog 70 #[v, .int .i64 k] w fun e' w' => e' = .returned (.int .i64 (k + slcnt waysM xs)) ∧ (slR 80 waysR).own w' S [v] (slmark waysM k xs) ∧ Chg S w w' := by
  rcases slown_form h with ⟨rfl, rfl⟩ | ⟨G, cap, rfl, hG⟩
  · exact (markWaySS_nil k w).mono fun e w' ⟨e1, e2⟩ => ⟨by simpa [slcnt] using e1, by rw [e2]; exact h, by rw [e2]; exact Chg.refl _ _⟩
  go_enter Try.func70, Try.ntmps70
  go_wp2
  go_loopw [1, 5] (fun q i wr => ∃ j : Nat, j ≤ xs.length ∧ i = .int .i64 j ∧ q = .int .i64 (k + slcnt waysM (xs.take j)) ∧ (slR 80 waysR).own wr S [.slice (some ⟨G, 0, none⟩) xs.length cap] (pmark waysM k xs j) ∧ Chg S w wr)
    (fun _ i _ => xs.length - (intOf i).toNat)
  case atStart => exact ⟨0, Nat.zero_le _, rfl, by simp [slcnt], by rw [pmark_zero]; exact h, Chg.refl _ _⟩
  case round =>
    obtain ⟨j, hj, rfl, rfl, ho, hs⟩ := hrel
    by_cases hlt : j < xs.length
    · have hlt' : (j : Int) < (xs.length : Int) := by omega
      obtain ⟨x, hx⟩ : ∃ x, xs[j]? = some x := ⟨_, List.getElem?_eq_getElem hlt⟩
      have HT : Hid (slcnt waysM (xs.take (j + 1)) = slcnt waysM (xs.take j) + slcnt wayM x) := slcnt_step (M := waysM) hx
      have hT : slcnt waysM (xs.take j) + slcnt wayM x ≤ slcnt waysM xs := slcnt_get (M := waysM) hx
      have HPS : Hid _ := pmark_step (M := waysM) (k := k) hx
      obtain ⟨g, cap', cur, Sj, T, c, hv, hSg, hblk, hcur, hcl, hown, s1, s2, s3, s4, s5, close⟩ := slown_focus ho (pmark_at hx)
      obtain ⟨vj, rfl⟩ : ∃ vj, c = [vj] := List.length_eq_one_iff.1 hcl
      obtain ⟨av, cv, rfl⟩ := slown_val hown
      simp only [Value.slice.injEq, Option.some.injEq, Addr.mk.injEq, and_true] at hv
      obtain ⟨rfl, hvx⟩ := hv
      clear hvx hcl
      have q1 : wr.cell? ⟨G, j, none⟩ = some (.slice av x.length cv) := by
        rw [cell_of_row wr G j cur _ (0, 0) hblk]
        have := hcur 0 Nat.zero_lt_one
        rwa [show j * (waysR).size + 0 = j from Nat.mul_one j] at this
      have HO : Hid _ := hown
      have HC : Hid (∀ w', Chg Sj wr w' → (waysR).own w' Sj [.slice av x.length cv] (slmark wayM (k + slcnt waysM (xs.take j)) x) → (slR 80 waysR).own w' S [.slice (some ⟨G, 0, none⟩) xs.length cap] (pmark waysM k xs (j + 1))) := by
        intro w' hc ho'
        rw [← HPS.out]
        have hlg : G < wr.heap.size := (Array.getElem?_eq_some_iff.1 hblk).1
        exact close w' cur [.slice av x.length cv] _ Sj S (by rw [hc.block G hlg s4]; exact hblk) rfl (fun _ _ => rfl) hcur (hc.keeps s3.symm) ho' s3 s4 hSg s1 s2
      have HS1 : Hid _ := s1
      clear hx ho hown close hcur hblk s2 s3 s4 s5 s1 HPS h
      generalize slcnt waysM (xs.take j) = T at HT hT HC ⊢
      go_wp2_with (go_at_call 85; refine (markWayS_rep Sj _ _ x _ (by omega) (by omega) (by omega) HO.out).mono ?_; rintro e w' ⟨rfl, own2, gr⟩)
      have ho2 := HC.out w' gr own2
      have hs2 := hs.trans (gr.mono HS1.out)
      clear own2 gr
      go_roundw
      case rel => exact ⟨j + 1, by omega, by go_num, by rw [HT.out]; go_num, ho2, hs2⟩
      case measure => simp [intOf]; omega
    · have hjn : j = xs.length := by omega
      subst hjn
      rw [List.take_length]
      rw [pmark_all] at ho
      go_wp2
      go_ret
      exact ⟨rfl, ho, hs⟩

set_option maxHeartbeats 1000000 in
theorem heldWaySS_rep (a : Option Addr) (cap : Nat) (k : Int) (xs : List (List (Int × Int × List Int))) (w : World) (h0 : 0 ≤ k) (h1 : k ≤ 144115188075855872) (hm : slcnt waysM xs ≤ 144115188075855872) (hln : xs.length ≤ 144115188075855872) (h : SlRd waysR w a (slmark waysM k xs)) :
    Calls Try.prog 71 #[.slice a xs.length cap, .int .i64 k] w fun e' w' => e' = .returned (.int .i64 (k + slcnt waysM xs)) ∧ w' = w := by
  go_enter Try.func71, Try.ntmps71
  go_wp2
  go_loop [1, 5] (fun q i => ∃ j : Nat, j ≤ xs.length ∧ i = .int .i64 j ∧ q = .int .i64 (k + slcnt waysM (xs.take j))) (fun _ i => xs.length - (intOf i).toNat)
  case atStart => exact ⟨0, Nat.zero_le _, rfl, by simp [slcnt]⟩
  case round =>
    obtain ⟨j, hj, rfl, rfl⟩ := hrel
    by_cases hlt : j < xs.length
    · have hlt' : (j : Int) < (xs.length : Int) := by omega
      obtain ⟨x, hx⟩ : ∃ x, xs[j]? = some x := ⟨_, List.getElem?_eq_getElem hlt⟩
      obtain ⟨b, off, c, rfl, ⟨aj, cj, rfl, hc1, hc2, hrd⟩, hcell⟩ := slrd_at h (slmark_at (M := waysM) (k := k) hx)
      have g1 := hcell 0 _ rfl
      rw [show j * (waysR).size + 0 = j from Nat.mul_one j] at g1
      have hml : ((waysM).mE (k + slcnt waysM (xs.take j)) x).length = x.length := slmark_len _ _ _
      rw [hml] at g1
      have HR : Hid (SlRd _ w aj (slmark wayM (k + slcnt waysM (xs.take j)) x)) := hrd
      have HT : Hid (slcnt waysM (xs.take (j + 1)) = slcnt waysM (xs.take j) + slcnt wayM x) := slcnt_step (M := waysM) hx
      have hT : slcnt waysM (xs.take j) + slcnt wayM x ≤ slcnt waysM xs := slcnt_get (M := waysM) hx
      clear hx hrd hcell h hml hc1
      generalize slcnt waysM (xs.take j) = T at HT hT HR ⊢
      have hn : ¬ (k + (T : Int) + ((slcnt wayM x : Nat) : Int) < 0) := by omega
      go_wp2_with (go_at_call 86; refine (heldWayS_rep _ _ _ x _ (by omega) (by omega) (by omega) HR.out).mono ?_; rintro e w' ⟨rfl, rfl⟩)
      go_round
      case rel => exact ⟨j + 1, by omega, by go_num, by rw [HT.out]; go_num⟩
      case measure => simp [intOf]; omega
    · have hjn : j = xs.length := by omega
      subst hjn
      rw [List.take_length]
      go_wp2
      go_ret
      exact ⟨rfl, rfl⟩

end Go.Proofs.Ytbcggkfbahmpoaa

/- The contracts of the laws' own helpers: marks of a store and of a way that come by value, and whether they are held. Conditions: lengths that a machine can hold. -/
namespace Go.Proofs.Ytbcggkfbahmpoaa
open Go.ChangeShapes Go.WideShapes Go.ChangeAt Go.RowKit
set_option linter.unusedVariables false

theorem chg_from_box {w w' : World} {S : Foot} {o : Obj} (h : Chg S (w.alloc o) w') : Chg S w w' :=
  ⟨h.os, h.tape, h.output, Nat.le_trans (by simp) h.size, fun k hk hn => (h.block k (by simp; omega) hn).trans (Below.heap_alloc w o k hk)⟩

def markC (k : Int) (c : List (List (Int × Int × List Int)) × List Int) : List (List (Int × Int × List Int)) × List Int := (slmark waysM k c.1, slmark intM (k + slcnt waysM c.1) c.2)
def cntC (c : List (List (Int × Int × List Int)) × List Int) : Nat := slcnt waysM c.1 + slcnt intM c.2

set_option maxHeartbeats 1000000 in
theorem markCache_rep (S : Foot) (u v : Value) (k : Int) (c : List (List (Int × Int × List Int)) × List Int) (w : World) (h0 : 0 ≤ k) (h1 : k ≤ 72057594037927936) (hm : cntC c ≤ 72057594037927936) (hln : c.1.length ≤ 72057594037927936) (h : cacheR.own w S [u, v] c) :
    Calls Try.prog 44 #[.agg #[u, v], .int .i64 k] w fun e' w' => e' = .returned (.int .i64 (k + cntC c)) ∧ cacheR.own w' S [u, v] (markC k c) ∧ Chg S w w' := by
  obtain ⟨u', v', S1, S2, e, o1, o2, a1, a2, d⟩ := cache_own h
  simp only [List.cons.injEq, and_true] at e
  obtain ⟨rfl, rfl⟩ := e
  obtain ⟨a, ca, rfl⟩ := slown_val o1
  obtain ⟨b, cb, rfl⟩ := slown_val o2
  have hcnt : cntC c = slcnt waysM c.1 + slcnt intM c.2 := rfl
  have X := heap_at w (.cells #[.slice a c.1.length ca, .slice b c.2.length cb] 35)
  have HA := own_box (.cells #[.slice a c.1.length ca, .slice b c.2.length cb] 35) (own_old o1)
  have HB := own_box (.cells #[.slice a c.1.length ca, .slice b c.2.length cb] 35) (own_old o2)
  have dd : Dis (Old w S1) (Old w S2) := d.sub old_sub old_sub
  have hn1 : ¬ Old w S1 w.heap.size := fun h => by have := h.2; omega
  clear h o1 o2 d
  have C1 := markWaySS_rep (Old w S1) _ k c.1 _ h0 (by omega) (by omega) (by omega) HA
  have HB' : Hid _ := HB
  have HX : Hid _ := X
  have HD : Hid _ := And.intro dd (And.intro hn1 (And.intro a1 a2))
  clear X HA HB dd hn1 a1 a2
  generalize hT : slcnt waysM c.1 = T at C1 hcnt
  go_enter Try.func44, Try.ntmps44
  go_wp2_with fail
  refine C1.mono ?_
  rintro e w1 ⟨rfl, p1, p2⟩
  obtain ⟨dd, hn1, a1, a2⟩ := HD.out
  have X1 := (p2.block w.heap.size (by simp) hn1).trans HX.out
  have B1 := own_chg HB'.out p2 dd.symm
  obtain ⟨x0, x1⟩ := cell_two X1
  have HP : Hid _ := And.intro p1 p2
  have HB1 : Hid _ := B1
  clear p1 p2 B1 C1 X1 HB' HX
  go_wp2_with fail
  refine (markInt64S_rep (Old w S2) _ _ c.2 _ (by omega) (by omega) (by omega) HB1.out).mono ?_
  rintro e w2 ⟨rfl, q1, q2⟩
  obtain ⟨p1, p2⟩ := HP.out
  have HF : Hid _ := And.intro (own_chg p1 q2 dd) (And.intro q1 (chg_from_box ((p2.mono (old_sub.trans a1)).trans (q2.mono (old_sub.trans a2)))))
  clear p1 p2 q1 q2 x0 x1 HP HB1
  go_wp2
  go_ret
  obtain ⟨r1, r2, r3⟩ := HF.out
  have hE : (k : Int) + (T : Int) + (slcnt intM c.2 : Int) = k + (cntC c : Int) := by omega
  refine ⟨ret_int hE, ⟨[_], [_], Old w S1, Old w S2, rfl, ?_, ?_, old_sub.trans a1, old_sub.trans a2, dd⟩, r3⟩
  · have : (markC k c).1.length = c.1.length := slmark_len _ _ _
    exact r1
  · have e2 : (markC k c).2 = slmark intM (k + (T : Int)) c.2 := by rw [← hT]; rfl
    rw [e2]
    exact r2

set_option maxHeartbeats 1000000 in
theorem markWay_rep (S : Foot) (l s : Int) (v : Value) (k : Int) (d : List Int) (w : World) (h0 : 0 ≤ k) (h1 : k ≤ 72057594037927936) (hm : slcnt intM d ≤ 72057594037927936) (h : intsR.own w S [v] d) :
    Calls Try.prog 45 #[.agg #[.int .i64 l, .int .i64 s, v], .int .i64 k] w fun e' w' => e' = .returned (.int .i64 (k + slcnt intM d)) ∧ intsR.own w' S [v] (slmark intM k d) ∧ Chg S w w' := by
  obtain ⟨a, ca, rfl⟩ := slown_val h
  have HA := own_box (.cells #[.int .i64 l, .int .i64 s, .slice a d.length ca] 37) h
  have C1 := markInt64S_rep S _ k d _ h0 (by omega) (by omega) HA
  clear h HA
  go_enter Try.func45, Try.ntmps45
  go_wp2_with fail
  refine C1.mono ?_
  rintro e w1 ⟨rfl, p1, p2⟩
  have p3 := chg_from_box p2
  clear p2 C1
  go_wp2
  go_ret
  exact ⟨rfl, p1, p3⟩

set_option maxHeartbeats 1000000 in
theorem heldCache_rep (a b : Option Addr) (ca cb : Nat) (k : Int) (c : List (List (Int × Int × List Int)) × List Int) (w : World) (h0 : 0 ≤ k) (h1 : k ≤ 72057594037927936) (hm : cntC c ≤ 72057594037927936) (hln : c.1.length ≤ 72057594037927936) (r1 : SlRd waysR w a (markC k c).1) (r2 : SlRd intR w b (markC k c).2) :
    Calls Try.prog 47 #[.agg #[.slice a c.1.length ca, .slice b c.2.length cb], .int .i64 k] w fun e' w' => e' = .returned (.int .i64 (k + cntC c)) ∧ Below w.heap.size w w' := by
  have hcnt : cntC c = slcnt waysM c.1 + slcnt intM c.2 := rfl
  have B := box_below w (.cells #[.slice a c.1.length ca, .slice b c.2.length cb] 35)
  have X := heap_at w (.cells #[.slice a c.1.length ca, .slice b c.2.length cb] 35)
  have C1 := heldWaySS_rep a ca k c.1 _ h0 (by omega) (by omega) (by omega) (slrd_next r1 B)
  have R2 : Hid (SlRd intR (w.alloc (.cells #[.slice a c.1.length ca, .slice b c.2.length cb] 35)) b (slmark intM (k + slcnt waysM c.1) c.2)) := slrd_next r2 B
  clear r1 r2
  generalize hT : slcnt waysM c.1 = T at C1 hcnt R2
  have n1 : ¬ (k + (T : Int) < 0) := by omega
  have n2 : ¬ (k + (T : Int) + (slcnt intM c.2 : Int) < 0) := by omega
  have hE : Hid ((k : Int) + (T : Int) + (slcnt intM c.2 : Int) = k + (cntC c : Int)) := by unfold Hid; omega
  obtain ⟨x0, x1⟩ := cell_two X
  go_enter Try.func47, Try.ntmps47
  go_wp2_with fail
  refine C1.mono ?_
  rintro e w1 ⟨rfl, hw1⟩
  rw [hw1]
  clear hw1 w1
  go_wp2_with fail
  refine (heldInt64S_rep b cb _ c.2 _ (by omega) (by omega) (by omega) R2.out).mono ?_
  rintro e w2 ⟨rfl, hw2⟩
  rw [hw2]
  clear hw2 w2
  go_wp2
  go_ret
  exact ⟨ret_int hE.out, B⟩

set_option maxHeartbeats 1000000 in
theorem heldWay_rep (l s : Int) (a : Option Addr) (ca : Nat) (k : Int) (d : List Int) (w : World) (h0 : 0 ≤ k) (h1 : k ≤ 72057594037927936) (hm : slcnt intM d ≤ 72057594037927936) (r : SlRd intR w a (slmark intM k d)) :
    Calls Try.prog 49 #[.agg #[.int .i64 l, .int .i64 s, .slice a d.length ca], .int .i64 k] w fun e' w' => e' = .returned (.int .i64 (k + slcnt intM d)) ∧ Below w.heap.size w w' := by
  have B := box_below w (.cells #[.int .i64 l, .int .i64 s, .slice a d.length ca] 37)
  have C1 := heldInt64S_rep a ca k d _ h0 (by omega) (by omega) (slrd_next r B)
  have n2 : ¬ (k + (slcnt intM d : Int) < 0) := by omega
  clear r
  go_enter Try.func49, Try.ntmps49
  go_wp2_with fail
  refine C1.mono ?_
  rintro e w1 ⟨rfl, hw1⟩
  rw [hw1]
  clear hw1 w1
  go_wp2
  go_ret
  exact ⟨rfl, B⟩

end Go.Proofs.Ytbcggkfbahmpoaa

/- What a walk of a law owns, range by range. No program here. -/
namespace Go.Proofs.Ytbcggkfbahmpoaa
open Go.ChangeShapes Go.WideShapes Go.ChangeAt Go.RowKit
set_option linter.unusedVariables false

section
variable {α : Type}
end
theorem owned_two {lo hi : Nat} {w : World} {c : CacheD} {a b : Option Addr} {cap cp : Nat} (h : Owned cacheR lo hi w [.slice a c.1.length cap, .slice b c.2.length cp] c) : SlRd waysR w a c.1 ∧ SlRd intR w b c.2 := rd_slices (cacheR.own_rd h.1)
theorem way_ints {S : Foot} {w : World} {l s : Int} {v : Value} {u : WayD} (h : wayR.own w S [.int .i64 l, .int .i64 s, v] u) : intsR.own w S [v] u.2.2 := by
  obtain ⟨v', e, _, _, ho⟩ := way_own h
  simp only [List.cons.injEq, and_true] at e
  rw [e.2.2]
  exact ho
theorem ints_rd {S : Foot} {w : World} {a : Option Addr} {cap : Nat} {d : List Int} (h : intsR.own w S [.slice a d.length cap] d) : SlRd intR w a d := by
  obtain ⟨a', cap', e, _, _, hr⟩ := intsR.own_rd h
  simp only [List.cons.injEq, Value.slice.injEq, and_true, true_and] at e
  obtain ⟨rfl, rfl⟩ := e
  exact hr
theorem owned_way {lo hi : Nat} {w : World} {l s : Int} {a : Option Addr} {cap : Nat} {u : WayD} (h : Owned wayR lo hi w [.int .i64 l, .int .i64 s, .slice a u.2.2.length cap] u) : SlRd intR w a u.2.2 := ints_rd (way_ints h.1)
theorem owned_wayd {lo hi : Nat} {w : World} {l s l' s' : Int} {a : Option Addr} {cap : Nat} {d : List Int} (h : Owned wayR lo hi w [.int .i64 l, .int .i64 s, .slice a d.length cap] (l', s', d)) : SlRd intR w a d := owned_way (u := (l', s', d)) h
theorem way_intsd {S : Foot} {w : World} {l s l' s' : Int} {v : Value} {d : List Int} (h : wayR.own w S [.int .i64 l, .int .i64 s, v] (l', s', d)) : intsR.own w S [v] d := way_ints (u := (l', s', d)) h
theorem bd_way : Bd wayM 3 := bd_prod bd_int (bd_prod bd_int (bd_sl bd_int))
theorem cnt_small {c : CacheD} (h : cacheM.bk c ≤ 1048576) : cntC c ≤ 4194304 ∧ c.1.length ≤ 1048576 := by
  have hbk : cacheM.bk c = setsM.bk c.1 + intsM.bk c.2 := rfl
  have h1 := slcnt_bd (bd_sl bd_way) c.1
  have h2 := slcnt_bd bd_int c.2
  have h3 : cntC c = slcnt waysM c.1 + slcnt intM c.2 := rfl
  have h4 : (slM (slM wayM)).bk c.1 = setsM.bk c.1 := rfl
  have h5 : (slM intM).bk c.2 = intsM.bk c.2 := rfl
  have h6 : setsM.bk c.1 = c.1.length + sumbk waysM c.1 := rfl
  have h7 : slcnt (slM wayM) c.1 = slcnt waysM c.1 := rfl
  constructor
  · omega
  · omega
end Go.Proofs.Ytbcggkfbahmpoaa
