
/- StoreEnd, Marks, AppAny, UForm. -/
import Derived.Test.YthbclkpmgcfdnaaGreatDoorWays2
import Derived.Test.YthbclkpmgcfdnaaGreatDoorOkLink
import Derived.Deep.DeepCutAuto
import Derived.BigRegion
import Derived.Test.YthbclkpmgcfdnaaGreatDoorJLines614Iters
import Derived.Test.YthbclkpmgcfdnaaGreatDoorJOwn516Lines4
import Derived.Test.YthbclkpmgcfdnaaGreatDoorJWayCopy3CloneOps
import Derived.Maps.AppendAt
/- What the walks of the laws over stores share. No program here. -/
namespace Go.Proofs.YthbclkpmgcfdnaaGreatDoor
open Go.ChangeShapes Go.WideShapes Go.ChangeAt Go.RowKit Go.Shelf
set_option linter.unusedVariables false
end Go.Proofs.YthbclkpmgcfdnaaGreatDoor
/- The contracts of the laws' own helpers over ways, sets and stores: marks, and whether they are held. Conditions: lengths that a machine can hold. -/
namespace Go.Proofs.YthbclkpmgcfdnaaGreatDoor
open Go.ChangeShapes Go.WideShapes Go.ChangeAt Go.RowKit
set_option linter.unusedVariables false
theorem in64_w {k : Int} (h0 : 0 ≤ k) (h1 : k ≤ 1152921504606846976) : In64 k := by constructor <;> omega
theorem cnt_len (xs : List (Int × Int × List Int)) : xs.length ≤ slcnt wayM xs := by
  induction xs with
  | nil => exact Nat.zero_le _
  | cons x xs ih =>
    simp only [slcnt, List.map_cons, List.sum_cons, List.length_cons] at ih ⊢
    have : 1 ≤ wayM.cE x := by show 1 ≤ 1 + _; omega
    omega
set_option maxHeartbeats 400000 in
theorem markWayS_nil (k : Int) (w : World) :
    Calls Tryz.prog 184 #[.slice none 0 0, .int .i64 k] w fun e' w' => e' = .returned (.int .i64 k) ∧ w' = w := by
  go_enter Tryz.func184, Tryz.ntmps184
  go_wp2
  refine wp_loop_rounds 1 ?_
  rw [rounds_succ]
  go_wp2
  go_ret
  exact ⟨rfl, rfl⟩
set_option maxHeartbeats 2000000 in
theorem markWayS_rep (S : Foot) (v : Value) (k : Int) (xs : List (Int × Int × List Int)) (w : World) (h0 : 0 ≤ k) (h1 : k ≤ 288230376151711744) (hm : slcnt wayM xs ≤ 288230376151711744) (h : waysR.own w S [v] xs) :
    Calls Tryz.prog 184 #[v, .int .i64 k] w fun e' w' => e' = .returned (.int .i64 (k + slcnt wayM xs)) ∧ waysR.own w' S [v] (slmark wayM k xs) ∧ Chg S w w' := by
  have hln := cnt_len xs
  rcases slown_form h with ⟨rfl, rfl⟩ | ⟨G, cap, rfl, hG⟩
  · exact (markWayS_nil k w).mono fun e w' ⟨e1, e2⟩ => ⟨by simpa [slcnt] using e1, by rw [e2]; exact h, by rw [e2]; exact Chg.refl _ _⟩
  go_enter Tryz.func184, Tryz.ntmps184
  go_wp2
  go_loopw [1, 5] (fun q i wr => ∃ j : Nat, j ≤ xs.length ∧ i = .int .i64 j ∧ q = .int .i64 (k + slcnt wayM (xs.take j)) ∧ waysR.own wr S [.slice (some ⟨G, 0, none⟩) xs.length cap] (pmark wayM k xs j) ∧ Chg S w wr)
    (fun _ i _ => xs.length - (intOf i).toNat)
  case atStart => exact ⟨0, Nat.zero_le _, rfl, by simp [slcnt], by rw [pmark_zero]; exact h, Chg.refl _ _⟩
  case round =>
    obtain ⟨j, hj, rfl, rfl, ho, hs⟩ := hrel
    by_cases hlt : j < xs.length
    · have hlt' : (j : Int) < (xs.length : Int) := by omega
      obtain ⟨x, hx⟩ : ∃ x, xs[j]? = some x := ⟨_, List.getElem?_eq_getElem hlt⟩
      have HT : Hid (slcnt wayM (xs.take (j + 1)) = slcnt wayM (xs.take j) + (1 + (1 + slcnt intM x.2.2))) := slcnt_step (M := wayM) hx
      have hT : slcnt wayM (xs.take j) + (1 + (1 + slcnt intM x.2.2)) ≤ slcnt wayM xs := slcnt_get (M := wayM) hx
      have HPS : Hid _ := pmark_step (M := wayM) (k := k) hx
      obtain ⟨g, cap', cur, Sj, T, c, hv, hSg, hblk, hcur, hcl, hown, s1, s2, s3, s4, s5, close⟩ := slown_focus ho (pmark_at hx)
      simp only [Value.slice.injEq, Option.some.injEq, Addr.mk.injEq, and_true] at hv
      obtain ⟨rfl, hvx⟩ := hv
      obtain ⟨vd, rfl, -, -, hod⟩ := way_own hown
      obtain ⟨av, cv, rfl⟩ := slown_val hod
      have q0 : wr.cell? ⟨G, j * 3, none⟩ = some (.int .i64 x.1) := by rw [cell_of_row wr G _ cur _ (0, 0) hblk]; exact hcur 0 (by decide)
      have q1 : wr.cell? ⟨G, j * 3 + 1, none⟩ = some (.int .i64 x.2.1) := by rw [cell_of_row wr G _ cur _ (0, 0) hblk]; exact hcur 1 (by decide)
      have q2 : wr.cell? ⟨G, j * 3 + 2, none⟩ = some (.slice av x.2.2.length cv) := by rw [cell_of_row wr G _ cur _ (0, 0) hblk]; exact hcur 2 (by decide)
      have f0 : wr.frozen? ⟨G, j * 3, none⟩ = false := frozen_of_row wr G _ _ _ hblk
      have f1 : wr.frozen? ⟨G, j * 3 + 1, none⟩ = false := frozen_of_row wr G _ _ _ hblk
      have hcs : j * 3 + 2 < cur.size := by
        have := hcur 2 (by decide)
        exact (Array.getElem?_eq_some_iff.1 (this.trans rfl)).1
      clear hvx hcl
      generalize hkk : k + (slcnt wayM (xs.take j) : Int) = kk at HPS ⊢
      have hk0 : 0 ≤ kk ∧ kk ≤ 576460752303423488 := by omega
      have HC : Hid (∀ w', Chg Sj ((wr.setCell ⟨G, j * 3, none⟩ (.int .i64 kk)).setCell ⟨G, j * 3 + 1, none⟩ (.int .i64 (kk + 1))) w' → intsR.own w' Sj [.slice av x.2.2.length cv] (slmark intM (kk + 1 + 1) x.2.2) → waysR.own w' S [.slice (some ⟨G, 0, none⟩) xs.length cap] (pmark wayM k xs (j + 1)) ∧ Chg S wr w') := by
        intro w' hc ho'
        have y1 := heap_setCell_same wr G (j * 3) _ _ (.int .i64 kk) hblk
        have y2 := heap_setCell_same _ G (j * 3 + 1) _ _ (.int .i64 (kk + 1)) y1
        have hlg : G < wr.heap.size := (Array.getElem?_eq_some_iff.1 hblk).1
        have c1 : Chg S wr ((wr.setCell ⟨G, j * 3, none⟩ (.int .i64 kk)).setCell ⟨G, j * 3 + 1, none⟩ (.int .i64 (kk + 1))) := ⟨rfl, rfl, rfl, by simp, fun i hi hn => by
          have : i ≠ G := fun e => hn (by rw [e]; exact hSg)
          rw [heap_setCell_other _ ⟨G, j * 3 + 1, none⟩ i _ this, heap_setCell_other _ ⟨G, j * 3, none⟩ i _ this]⟩
        refine ⟨?_, c1.trans (hc.mono s1)⟩
        rw [← HPS.out]
        refine close w' _ [.int .i64 kk, .int .i64 (kk + 1), .slice av x.2.2.length cv] _ Sj S ((hc.block G (by simpa using hlg) s4).trans y2) (by simp) ?_ ?_ ?_ (own_way (in64_w hk0.1 (by omega)) (in64_w (by omega) (by omega)) ho') s3 s4 hSg s1 s2
        · intro i hi
          rw [show wayR.size = 3 from rfl] at hi
          rw [Array.getElem?_setIfInBounds_ne (by omega), Array.getElem?_setIfInBounds_ne (by omega)]
        · intro i hi
          rw [show wayR.size = 3 from rfl] at hi
          rw [show j * wayR.size = j * 3 from rfl]
          have h3 : i = 0 ∨ i = 1 ∨ i = 2 := by omega
          rcases h3 with rfl | rfl | rfl
          · rw [Array.getElem?_setIfInBounds_ne (by omega), Nat.add_zero, Array.getElem?_setIfInBounds_self_of_lt (by omega)]
            rfl
          · rw [Array.getElem?_setIfInBounds_self_of_lt (by simp; omega)]
            rfl
          · rw [Array.getElem?_setIfInBounds_ne (by omega), Array.getElem?_setIfInBounds_ne (by omega)]
            exact hcur 2 (by decide)
        · intro i hi hil
          have hne : i ≠ G := fun e => s5 (by rw [← e]; exact hi)
          rw [hc.block i (by simpa using hil) (fun hx => s3 i hx hi), heap_setCell_other _ ⟨G, j * 3 + 1, none⟩ i _ hne, heap_setCell_other _ ⟨G, j * 3, none⟩ i _ hne]
      have HO : Hid (intsR.own ((wr.setCell ⟨G, j * 3, none⟩ (.int .i64 kk)).setCell ⟨G, j * 3 + 1, none⟩ (.int .i64 (kk + 1))) Sj [.slice av x.2.2.length cv] x.2.2) := own_setC (own_setC hod s4) s4
      clear hx ho hown close hcur hblk s1 s2 s3 s4 s5 HPS h hod hcs
      generalize slcnt wayM (xs.take j) = TT at HT hT hkk
      go_wp2_with fail
      refine (markInt64S_rep Sj _ _ x.2.2 _ (by omega) (by omega) (by omega) HO.out).mono ?_
      rintro e w' ⟨rfl, own2, gr⟩
      obtain ⟨ho2, gr2⟩ := HC.out w' gr own2
      have hs2 := hs.trans gr2
      clear own2 gr gr2 HC HO q0 q1 q2 f0 f1
      go_wp2
      go_roundw
      case rel => exact ⟨j + 1, by omega, by go_num, by rw [HT.out]; congr 1; omega, ho2, hs2⟩
      case measure => simp [intOf]; omega
    · have hjn : j = xs.length := by omega
      subst hjn
      rw [List.take_length]
      rw [pmark_all] at ho
      go_wp2
      go_ret
      exact ⟨rfl, ho, hs⟩

set_option maxHeartbeats 1000000 in
theorem heldWayS_rep (a : Option Addr) (cap : Nat) (k : Int) (xs : List (Int × Int × List Int)) (w : World) (h0 : 0 ≤ k) (h1 : k ≤ 288230376151711744) (hm : slcnt wayM xs ≤ 288230376151711744) (h : SlRd wayR w a (slmark wayM k xs)) :
    Calls Tryz.prog 185 #[.slice a xs.length cap, .int .i64 k] w fun e' w' => e' = .returned (.int .i64 (k + slcnt wayM xs)) ∧ w' = w := by
  have hln := cnt_len xs
  go_enter Tryz.func185, Tryz.ntmps185
  go_wp2
  go_loop [1, 5] (fun q i => ∃ j : Nat, j ≤ xs.length ∧ i = .int .i64 j ∧ q = .int .i64 (k + slcnt wayM (xs.take j))) (fun _ i => xs.length - (intOf i).toNat)
  case atStart => exact ⟨0, Nat.zero_le _, rfl, by simp [slcnt]⟩
  case round =>
    obtain ⟨j, hj, rfl, rfl⟩ := hrel
    by_cases hlt : j < xs.length
    · have hlt' : (j : Int) < (xs.length : Int) := by omega
      obtain ⟨x, hx⟩ : ∃ x, xs[j]? = some x := ⟨_, List.getElem?_eq_getElem hlt⟩
      obtain ⟨b, off, cs, rfl, hrd, hcell⟩ := slrd_at h (slmark_at (M := wayM) (k := k) hx)
      obtain ⟨ad, cpw, rfl, -, -, -, -, hd3⟩ := way_rd hrd
      have x0 := hcell 0 _ rfl
      have x1 := hcell 1 _ rfl
      have x2 := hcell 2 _ rfl
      rw [show off + (j * wayR.size + 0) = off + j * 3 from rfl] at x0
      rw [show off + (j * wayR.size + 1) = off + j * 3 + 1 from rfl] at x1
      rw [show off + (j * wayR.size + 2) = off + j * 3 + 2 from rfl] at x2
      have hml : (wayM.mE (k + slcnt wayM (xs.take j)) x).2.2.length = x.2.2.length := slmark_len _ _ _
      rw [hml] at x2
      have HR : Hid (SlRd intR w ad (slmark intM (k + slcnt wayM (xs.take j) + 1 + 1) x.2.2)) := hd3
      have y0 : w.cell? ⟨b, off + j * 3, none⟩ = some (.int .i64 (k + slcnt wayM (xs.take j))) := x0
      have y1 : w.cell? ⟨b, off + j * 3 + 1, none⟩ = some (.int .i64 (k + slcnt wayM (xs.take j) + 1)) := x1
      have HT : Hid (slcnt wayM (xs.take (j + 1)) = slcnt wayM (xs.take j) + (1 + (1 + slcnt intM x.2.2))) := slcnt_step (M := wayM) hx
      have hT : slcnt wayM (xs.take j) + (1 + (1 + slcnt intM x.2.2)) ≤ slcnt wayM xs := slcnt_get (M := wayM) hx
      clear hx hrd hcell h hml hd3 x0 x1
      generalize hkk : k + (slcnt wayM (xs.take j) : Int) = kk at HR y0 y1 ⊢
      generalize slcnt wayM (xs.take j) = TT at HT hT hkk
      have hk0 : 0 ≤ kk ∧ kk ≤ 576460752303423488 := by omega
      have hn : ¬ (kk + 1 + 1 + ((slcnt intM x.2.2 : Nat) : Int) < 0) := by omega
      go_wp2_with (go_at_call 100; refine (heldInt64S_rep _ _ _ x.2.2 _ (by omega) (by omega) (by omega) HR.out).mono ?_; rintro e w' ⟨rfl, rfl⟩)
      go_round
      case rel => exact ⟨j + 1, by omega, by go_num, by rw [HT.out]; congr 1; omega⟩
      case measure => simp [intOf]; omega
    · have hjn : j = xs.length := by omega
      subst hjn
      rw [List.take_length]
      go_wp2
      go_ret
      exact ⟨rfl, rfl⟩

set_option maxHeartbeats 400000 in
theorem markWaySS_nil (k : Int) (w : World) :
    Calls Tryz.prog 148 #[.slice none 0 0, .int .i64 k] w fun e' w' => e' = .returned (.int .i64 k) ∧ w' = w := by
  go_enter Tryz.func148, Tryz.ntmps148
  go_wp2
  refine wp_loop_rounds 1 ?_
  rw [rounds_succ]
  go_wp2
  go_ret
  exact ⟨rfl, rfl⟩
set_option maxHeartbeats 1000000 in
theorem markWaySS_rep (S : Foot) (v : Value) (k : Int) (xs : List (List (Int × Int × List Int))) (w : World) (h0 : 0 ≤ k) (h1 : k ≤ 144115188075855872) (hm : slcnt waysM xs ≤ 144115188075855872) (hln : xs.length ≤ 144115188075855872) (h : (slR 107 waysR).own w S [v] xs) :
    Calls Tryz.prog 148 #[v, .int .i64 k] w fun e' w' => e' = .returned (.int .i64 (k + slcnt waysM xs)) ∧ (slR 107 waysR).own w' S [v] (slmark waysM k xs) ∧ Chg S w w' := by
  rcases slown_form h with ⟨rfl, rfl⟩ | ⟨G, cap, rfl, hG⟩
  · exact (markWaySS_nil k w).mono fun e w' ⟨e1, e2⟩ => ⟨by simpa [slcnt] using e1, by rw [e2]; exact h, by rw [e2]; exact Chg.refl _ _⟩
  go_enter Tryz.func148, Tryz.ntmps148
  go_wp2
  go_loopw [1, 5] (fun q i wr => ∃ j : Nat, j ≤ xs.length ∧ i = .int .i64 j ∧ q = .int .i64 (k + slcnt waysM (xs.take j)) ∧ (slR 107 waysR).own wr S [.slice (some ⟨G, 0, none⟩) xs.length cap] (pmark waysM k xs j) ∧ Chg S w wr)
    (fun _ i _ => xs.length - (intOf i).toNat)
  case atStart => exact ⟨0, Nat.zero_le _, rfl, by simp [slcnt], by rw [pmark_zero]; exact h, Chg.refl _ _⟩
  case round =>
    obtain ⟨j, hj, rfl, rfl, ho, hs⟩ := hrel
    by_cases hlt : j < xs.length
    · have hlt' : (j : Int) < (xs.length : Int) := by omega
      obtain ⟨x, hx⟩ : ∃ x, xs[j]? = some x := ⟨_, List.getElem?_eq_getElem hlt⟩
      have HT : Hid (slcnt waysM (xs.take (j + 1)) = slcnt waysM (xs.take j) + slcnt wayM x) := slcnt_step (M := waysM) hx
      have hT : slcnt waysM (xs.take j) + slcnt wayM x ≤ slcnt waysM xs := slcnt_get (M := waysM) hx
      have HPS : Hid _ := pmark_step (M := waysM) (k := k) hx
      obtain ⟨g, cap', cur, Sj, T, c, hv, hSg, hblk, hcur, hcl, hown, s1, s2, s3, s4, s5, close⟩ := slown_focus ho (pmark_at hx)
      obtain ⟨vj, rfl⟩ : ∃ vj, c = [vj] := List.length_eq_one_iff.1 hcl
      obtain ⟨av, cv, rfl⟩ := slown_val hown
      simp only [Value.slice.injEq, Option.some.injEq, Addr.mk.injEq, and_true] at hv
      obtain ⟨rfl, hvx⟩ := hv
      clear hvx hcl
      have q1 : wr.cell? ⟨G, j, none⟩ = some (.slice av x.length cv) := by
        rw [cell_of_row wr G j cur _ (0, 0) hblk]
        have := hcur 0 Nat.zero_lt_one
        rwa [show j * (waysR).size + 0 = j from Nat.mul_one j] at this
      have HO : Hid _ := hown
      have HC : Hid (∀ w', Chg Sj wr w' → (waysR).own w' Sj [.slice av x.length cv] (slmark wayM (k + slcnt waysM (xs.take j)) x) → (slR 107 waysR).own w' S [.slice (some ⟨G, 0, none⟩) xs.length cap] (pmark waysM k xs (j + 1))) := by
        intro w' hc ho'
        rw [← HPS.out]
        have hlg : G < wr.heap.size := (Array.getElem?_eq_some_iff.1 hblk).1
        exact close w' cur [.slice av x.length cv] _ Sj S (by rw [hc.block G hlg s4]; exact hblk) rfl (fun _ _ => rfl) hcur (hc.keeps s3.symm) ho' s3 s4 hSg s1 s2
      have HS1 : Hid _ := s1
      clear hx ho hown close hcur hblk s2 s3 s4 s5 s1 HPS h
      generalize slcnt waysM (xs.take j) = T at HT hT HC ⊢
      go_wp2_with (go_at_call 184; refine (markWayS_rep Sj _ _ x _ (by omega) (by omega) (by omega) HO.out).mono ?_; rintro e w' ⟨rfl, own2, gr⟩)
      have ho2 := HC.out w' gr own2
      have hs2 := hs.trans (gr.mono HS1.out)
      clear own2 gr
      go_roundw
      case rel => exact ⟨j + 1, by omega, by go_num, by rw [HT.out]; go_num, ho2, hs2⟩
      case measure => simp [intOf]; omega
    · have hjn : j = xs.length := by omega
      subst hjn
      rw [List.take_length]
      rw [pmark_all] at ho
      go_wp2
      go_ret
      exact ⟨rfl, ho, hs⟩

set_option maxHeartbeats 1000000 in
theorem heldWaySS_rep (a : Option Addr) (cap : Nat) (k : Int) (xs : List (List (Int × Int × List Int))) (w : World) (h0 : 0 ≤ k) (h1 : k ≤ 144115188075855872) (hm : slcnt waysM xs ≤ 144115188075855872) (hln : xs.length ≤ 144115188075855872) (h : SlRd waysR w a (slmark waysM k xs)) :
    Calls Tryz.prog 149 #[.slice a xs.length cap, .int .i64 k] w fun e' w' => e' = .returned (.int .i64 (k + slcnt waysM xs)) ∧ w' = w := by
  go_enter Tryz.func149, Tryz.ntmps149
  go_wp2
  go_loop [1, 5] (fun q i => ∃ j : Nat, j ≤ xs.length ∧ i = .int .i64 j ∧ q = .int .i64 (k + slcnt waysM (xs.take j))) (fun _ i => xs.length - (intOf i).toNat)
  case atStart => exact ⟨0, Nat.zero_le _, rfl, by simp [slcnt]⟩
  case round =>
    obtain ⟨j, hj, rfl, rfl⟩ := hrel
    by_cases hlt : j < xs.length
    · have hlt' : (j : Int) < (xs.length : Int) := by omega
      obtain ⟨x, hx⟩ : ∃ x, xs[j]? = some x := ⟨_, List.getElem?_eq_getElem hlt⟩
      obtain ⟨b, off, c, rfl, ⟨aj, cj, rfl, hc1, hc2, hrd⟩, hcell⟩ := slrd_at h (slmark_at (M := waysM) (k := k) hx)
      have g1 := hcell 0 _ rfl
      rw [show j * (waysR).size + 0 = j from Nat.mul_one j] at g1
      have hml : ((waysM).mE (k + slcnt waysM (xs.take j)) x).length = x.length := slmark_len _ _ _
      rw [hml] at g1
      have HR : Hid (SlRd _ w aj (slmark wayM (k + slcnt waysM (xs.take j)) x)) := hrd
      have HT : Hid (slcnt waysM (xs.take (j + 1)) = slcnt waysM (xs.take j) + slcnt wayM x) := slcnt_step (M := waysM) hx
      have hT : slcnt waysM (xs.take j) + slcnt wayM x ≤ slcnt waysM xs := slcnt_get (M := waysM) hx
      clear hx hrd hcell h hml hc1
      generalize slcnt waysM (xs.take j) = T at HT hT HR ⊢
      have hn : ¬ (k + (T : Int) + ((slcnt wayM x : Nat) : Int) < 0) := by omega
      go_wp2_with (go_at_call 185; refine (heldWayS_rep _ _ _ x _ (by omega) (by omega) (by omega) HR.out).mono ?_; rintro e w' ⟨rfl, rfl⟩)
      go_round
      case rel => exact ⟨j + 1, by omega, by go_num, by rw [HT.out]; go_num⟩
      case measure => simp [intOf]; omega
    · have hjn : j = xs.length := by omega
      subst hjn
      rw [List.take_length]
      go_wp2
      go_ret
      exact ⟨rfl, rfl⟩
end Go.Proofs.YthbclkpmgcfdnaaGreatDoor
/- The contracts of the laws' own helpers: marks of a store and of a way that come by value, and whether they are held. Conditions: lengths that a machine can hold. -/
namespace Go.Proofs.YthbclkpmgcfdnaaGreatDoor
open Go.ChangeShapes Go.WideShapes Go.ChangeAt Go.RowKit
set_option linter.unusedVariables false
def markC (k : Int) (c : List (List (Int × Int × List Int)) × List Int) : List (List (Int × Int × List Int)) × List Int := (slmark waysM k c.1, slmark intM (k + slcnt waysM c.1) c.2)
def cntC (c : List (List (Int × Int × List Int)) × List Int) : Nat := slcnt waysM c.1 + slcnt intM c.2

set_option maxHeartbeats 1000000 in
theorem markCache_rep (S : Foot) (u v : Value) (k : Int) (c : List (List (Int × Int × List Int)) × List Int) (w : World) (h0 : 0 ≤ k) (h1 : k ≤ 72057594037927936) (hm : cntC c ≤ 72057594037927936) (hln : c.1.length ≤ 72057594037927936) (h : cacheR.own w S [u, v] c) :
    Calls Tryz.prog 93 #[.agg #[u, v], .int .i64 k] w fun e' w' => e' = .returned (.int .i64 (k + cntC c)) ∧ cacheR.own w' S [u, v] (markC k c) ∧ Chg S w w' := by
  obtain ⟨u', v', S1, S2, e, o1, o2, a1, a2, d⟩ := cache_own h
  simp only [List.cons.injEq, and_true] at e
  obtain ⟨rfl, rfl⟩ := e
  obtain ⟨a, ca, rfl⟩ := slown_val o1
  obtain ⟨b, cb, rfl⟩ := slown_val o2
  have hcnt : cntC c = slcnt waysM c.1 + slcnt intM c.2 := rfl
  have X := heap_at w (.cells #[.slice a c.1.length ca, .slice b c.2.length cb] 27)
  have HA := own_box (.cells #[.slice a c.1.length ca, .slice b c.2.length cb] 27) (own_old o1)
  have HB := own_box (.cells #[.slice a c.1.length ca, .slice b c.2.length cb] 27) (own_old o2)
  have dd : Dis (Old w S1) (Old w S2) := d.sub old_sub old_sub
  have hn1 : ¬ Old w S1 w.heap.size := fun h => by have := h.2; omega
  clear h o1 o2 d
  have C1 := markWaySS_rep (Old w S1) _ k c.1 _ h0 (by omega) (by omega) (by omega) HA
  have HB' : Hid _ := HB
  have HX : Hid _ := X
  have HD : Hid _ := And.intro dd (And.intro hn1 (And.intro a1 a2))
  clear X HA HB dd hn1 a1 a2
  generalize hT : slcnt waysM c.1 = T at C1 hcnt
  go_enter Tryz.func93, Tryz.ntmps93
  go_wp2_with fail
  refine C1.mono ?_
  rintro e w1 ⟨rfl, p1, p2⟩
  obtain ⟨dd, hn1, a1, a2⟩ := HD.out
  have X1 := (p2.block w.heap.size (by simp) hn1).trans HX.out
  have B1 := own_chg HB'.out p2 dd.symm
  obtain ⟨x0, x1⟩ := cell_two X1
  have HP : Hid _ := And.intro p1 p2
  have HB1 : Hid _ := B1
  clear p1 p2 B1 C1 X1 HB' HX
  go_wp2_with fail
  refine (markInt64S_rep (Old w S2) _ _ c.2 _ (by omega) (by omega) (by omega) HB1.out).mono ?_
  rintro e w2 ⟨rfl, q1, q2⟩
  obtain ⟨p1, p2⟩ := HP.out
  have HF : Hid _ := And.intro (own_chg p1 q2 dd) (And.intro q1 (chg_from_box ((p2.mono (old_sub.trans a1)).trans (q2.mono (old_sub.trans a2)))))
  clear p1 p2 q1 q2 x0 x1 HP HB1
  go_wp2
  go_ret
  obtain ⟨r1, r2, r3⟩ := HF.out
  have hE : (k : Int) + (T : Int) + (slcnt intM c.2 : Int) = k + (cntC c : Int) := by omega
  refine ⟨ret_int hE, ⟨[_], [_], Old w S1, Old w S2, rfl, ?_, ?_, old_sub.trans a1, old_sub.trans a2, dd⟩, r3⟩
  · have : (markC k c).1.length = c.1.length := slmark_len _ _ _
    exact r1
  · have e2 : (markC k c).2 = slmark intM (k + (T : Int)) c.2 := by rw [← hT]; rfl
    rw [e2]
    exact r2

set_option maxHeartbeats 1000000 in
theorem markWay_rep (S : Foot) (l s : Int) (v : Value) (k : Int) (d : List Int) (w : World) (h0 : 0 ≤ k) (h1 : k ≤ 72057594037927936) (hm : slcnt intM d ≤ 72057594037927936) (h : intsR.own w S [v] d) :
    Calls Tryz.prog 95 #[.agg #[.int .i64 l, .int .i64 s, v], .int .i64 k] w fun e' w' => e' = .returned (.int .i64 (k + slcnt intM d)) ∧ intsR.own w' S [v] (slmark intM k d) ∧ Chg S w w' := by
  obtain ⟨a, ca, rfl⟩ := slown_val h
  have HA := own_box (.cells #[.int .i64 l, .int .i64 s, .slice a d.length ca] 30) h
  have C1 := markInt64S_rep S _ k d _ h0 (by omega) (by omega) HA
  clear h HA
  go_enter Tryz.func95, Tryz.ntmps95
  go_wp2_with fail
  refine C1.mono ?_
  rintro e w1 ⟨rfl, p1, p2⟩
  have p3 := chg_from_box p2
  clear p2 C1
  go_wp2
  go_ret
  exact ⟨rfl, p1, p3⟩

set_option maxHeartbeats 1000000 in
theorem heldCache_rep (a b : Option Addr) (ca cb : Nat) (k : Int) (c : List (List (Int × Int × List Int)) × List Int) (w : World) (h0 : 0 ≤ k) (h1 : k ≤ 72057594037927936) (hm : cntC c ≤ 72057594037927936) (hln : c.1.length ≤ 72057594037927936) (r1 : SlRd waysR w a (markC k c).1) (r2 : SlRd intR w b (markC k c).2) :
    Calls Tryz.prog 97 #[.agg #[.slice a c.1.length ca, .slice b c.2.length cb], .int .i64 k] w fun e' w' => e' = .returned (.int .i64 (k + cntC c)) ∧ Below w.heap.size w w' := by
  have hcnt : cntC c = slcnt waysM c.1 + slcnt intM c.2 := rfl
  have B := box_below w (.cells #[.slice a c.1.length ca, .slice b c.2.length cb] 27)
  have X := heap_at w (.cells #[.slice a c.1.length ca, .slice b c.2.length cb] 27)
  have C1 := heldWaySS_rep a ca k c.1 _ h0 (by omega) (by omega) (by omega) (slrd_next r1 B)
  have R2 : Hid (SlRd intR (w.alloc (.cells #[.slice a c.1.length ca, .slice b c.2.length cb] 27)) b (slmark intM (k + slcnt waysM c.1) c.2)) := slrd_next r2 B
  clear r1 r2
  generalize hT : slcnt waysM c.1 = T at C1 hcnt R2
  have n1 : ¬ (k + (T : Int) < 0) := by omega
  have n2 : ¬ (k + (T : Int) + (slcnt intM c.2 : Int) < 0) := by omega
  have hE : Hid ((k : Int) + (T : Int) + (slcnt intM c.2 : Int) = k + (cntC c : Int)) := by unfold Hid; omega
  obtain ⟨x0, x1⟩ := cell_two X
  go_enter Tryz.func97, Tryz.ntmps97
  go_wp2_with fail
  refine C1.mono ?_
  rintro e w1 ⟨rfl, hw1⟩
  rw [hw1]
  clear hw1 w1
  go_wp2_with fail
  refine (heldInt64S_rep b cb _ c.2 _ (by omega) (by omega) (by omega) R2.out).mono ?_
  rintro e w2 ⟨rfl, hw2⟩
  rw [hw2]
  clear hw2 w2
  go_wp2
  go_ret
  exact ⟨ret_int hE.out, B⟩

set_option maxHeartbeats 1000000 in
theorem heldWay_rep (l s : Int) (a : Option Addr) (ca : Nat) (k : Int) (d : List Int) (w : World) (h0 : 0 ≤ k) (h1 : k ≤ 72057594037927936) (hm : slcnt intM d ≤ 72057594037927936) (r : SlRd intR w a (slmark intM k d)) :
    Calls Tryz.prog 99 #[.agg #[.int .i64 l, .int .i64 s, .slice a d.length ca], .int .i64 k] w fun e' w' => e' = .returned (.int .i64 (k + slcnt intM d)) ∧ Below w.heap.size w w' := by
  have B := box_below w (.cells #[.int .i64 l, .int .i64 s, .slice a d.length ca] 30)
  have C1 := heldInt64S_rep a ca k d _ h0 (by omega) (by omega) (slrd_next r B)
  have n2 : ¬ (k + (slcnt intM d : Int) < 0) := by omega
  clear r
  go_enter Tryz.func99, Tryz.ntmps99
  go_wp2_with fail
  refine C1.mono ?_
  rintro e w1 ⟨rfl, hw1⟩
  rw [hw1]
  clear hw1 w1
  go_wp2
  go_ret
  exact ⟨rfl, B⟩
end Go.Proofs.YthbclkpmgcfdnaaGreatDoor
/- What a walk of a law owns, range by range. No program here. -/
namespace Go.Proofs.YthbclkpmgcfdnaaGreatDoor
open Go.ChangeShapes Go.WideShapes Go.ChangeAt Go.RowKit
set_option linter.unusedVariables false
section
variable {α : Type}
end
theorem way_ints {S : Foot} {w : World} {l s : Int} {v : Value} {u : WayD} (h : wayR.own w S [.int .i64 l, .int .i64 s, v] u) : intsR.own w S [v] u.2.2 := by
  obtain ⟨v', e, _, _, ho⟩ := way_own h
  simp only [List.cons.injEq, and_true] at e
  rw [e.2.2]
  exact ho
theorem bd_way : Bd wayM 3 := bd_prod bd_int (bd_prod bd_int (bd_sl bd_int))
end Go.Proofs.YthbclkpmgcfdnaaGreatDoor
/- A row that is owned among others, appended to; a row of rows that is made at once. No program here. -/
namespace Go.Proofs.YthbclkpmgcfdnaaGreatDoor
open Go.ChangeShapes Go.WideShapes Go.ChangeAt Go.RowKit
set_option linter.unusedVariables false
section
variable {α : Type}
theorem lown_nils {e : TypeId} {R : Rep α} {w : World} {S : Foot} : ∀ n, lown (slR e R) w S (List.replicate n (.slice none 0 0)) (List.replicate n ([] : List α))
  | 0 => rfl
  | n + 1 => ⟨[_], List.replicate n (.slice none 0 0), fun _ => False, S, rfl, ⟨_, [], fun _ => False, rfl, World.ownsRow_nil _ _ _ _, fun g hg => by simp [Value.ownBlock] at hg, fun _ h => h.elim, rfl⟩, lown_nils n, fun _ h => h.elim, Sub.refl _, fun _ h _ => h⟩
theorem made_one (n : Nat) (z : Value) : (madeCells #[z] n).toList = List.replicate n z := by
  apply List.ext_getElem?
  intro i
  rw [List.getElem?_replicate]
  unfold madeCells
  by_cases h : i < n
  · simp [h, Nat.mod_one]
  · simp [h]
end
end Go.Proofs.YthbclkpmgcfdnaaGreatDoor
/- A new store, of the specification. No condition. -/
namespace Go.Proofs.YthbclkpmgcfdnaaGreatDoor
open Go.ChangeShapes Go.WideShapes Go.ChangeAt Go.RowKit
set_option linter.unusedVariables false
theorem cells_new3 (w : World) (a b c : Value) (t : TypeId) : ∀ j u, [a, b, c][j]? = some u → (w.alloc (.cells #[a, b, c] t)).cell? ((⟨w.heap.size, 0, none⟩ : Addr).add j) = some u := by
  intro j u hu
  have X := heap_at w (.cells #[a, b, c] t)
  have hj := (List.getElem?_eq_some_iff.1 hu).1
  rw [show (⟨w.heap.size, 0, none⟩ : Addr).add j = ⟨w.heap.size, j, none⟩ from by simp [Addr.add] <;> omega, cell_of_row _ _ j _ _ (0, 0) X]
  simpa using hu
theorem cells_new1 (w : World) (a : Value) (t : TypeId) : ∀ j u, [a][j]? = some u → (w.alloc (.cells #[a] t)).cell? ((⟨w.heap.size, 0, none⟩ : Addr).add j) = some u := by
  intro j u hu
  have X := heap_at w (.cells #[a] t)
  rw [show (⟨w.heap.size, 0, none⟩ : Addr).add j = ⟨w.heap.size, j, none⟩ from by simp [Addr.add] <;> omega, cell_of_row _ _ j _ _ (0, 0) X]
  simpa using hu
section
variable {α : Type}
end
theorem own_two_nils (w : World) (S : Foot) : cacheR.own w S [.slice none 0 0, .slice none 0 0] (([], []) : CacheD) :=
  own_cache (S1 := fun _ => False) (S2 := fun _ => False) ⟨_, [], fun _ => False, rfl, World.ownsRow_nil _ _ _ _, fun g hg => by simp [Value.ownBlock] at hg, fun _ h => h.elim, rfl⟩ (own_nothing w _) (fun _ h => h.elim) (fun _ h => h.elim) (fun _ h _ => h)
theorem Tryz.infoT : (Tryz.prog.info? 2).map (fun i => (i.zero, i.size, i.bytes)) = some (some (.int .i64 0), 1, 8) := by kernel_rfl

end Go.Proofs.YthbclkpmgcfdnaaGreatDoor
/- The laws' helpers in the one form: ops, ways, stores. -/
namespace Go.Proofs.YthbclkpmgcfdnaaGreatDoor
open Go.ChangeShapes Go.WideShapes Go.ChangeAt Go.RowKit
set_option linter.unusedVariables false
theorem szOps_u : SzC 82 opsR opsM cell1 := by
  rintro cs x left w ⟨a, cap, rfl, l1, l2, l3⟩ h0 h1
  exact (szOpS_rep a x cap left w h0 h1 (Nat.le_trans l1 l2)).mono fun e w' ⟨q, r⟩ => ⟨q, be_eq r⟩
theorem toOps_u : ToC 86 opsR opsM cell1 := by
  rintro cs x w ⟨a, cap, rfl, l1, l2, l3⟩ hm
  refine (toOpS_rep a x cap w l3 hm).mono ?_
  rintro e w' ⟨v, rfl, mm⟩
  exact ⟨[v], rfl, mm⟩
theorem eqOps_u : EqC 90 opsR opsM cell1 := by
  rintro cs ds x w ⟨a, cap, rfl, l1, l2, l3⟩ ⟨b, cp, rfl, k1, k2, k3⟩ hm
  exact eqOpS_rep a b x cap cp w l3 k3 (by have : lot = 4398046511104 := rfl; omega)
theorem mkOps_u : MkC 94 opsR opsM cell1 := by
  intro S cs x k w h h0 hm hb
  obtain ⟨v, rfl⟩ := own_cell h
  have e : lot = 4398046511104 := rfl
  have e2 : opsM.cV x = slcnt opM x := rfl
  exact markOpS_rep S v k x w h0 (by omega) (by omega) h
theorem hdOps_u : HdC 98 opsR opsM cell1 := by
  rintro cs x k w ⟨a, cap, rfl, l1, l2, l3⟩ h0 hm hb
  have e : lot = 4398046511104 := rfl
  have e2 : opsM.cV x = slcnt opM x := rfl
  have := heldOpS_rep a cap k x w h0 (by omega) (by omega) l3
  rw [show x.length = (opsM.mV k x).length from (slmark_len _ _ _).symm] at this
  exact this.mono fun e w' ⟨q, r⟩ => ⟨q, be_eq r⟩
theorem szWay_u : SzC 83 wayR wayM aggV := by
  intro cs x left w h h0 h1
  obtain ⟨a, cap, rfl, i1, i2, l1, l2, l3⟩ := way_rd h
  exact szWay_rep x.1 x.2.1 x.2.2 a cap left w h0 h1 (Nat.le_trans l1 l2)
theorem toWay_u : ToC 87 wayR wayM aggV := by
  intro cs x w h hm
  obtain ⟨a, cap, rfl, i1, i2, l1, l2, l3⟩ := way_rd h
  refine (toWay_rep x.1 x.2.1 x.2.2 a cap w i1 i2 l3 (by have : wayM.bk x = 0 + (0 + intsM.bk x.2.2) := rfl; omega)).mono ?_
  rintro e w' ⟨av, cv, rfl, mm⟩
  exact ⟨_, rfl, mm⟩
theorem eqWay_u : EqC 91 wayR wayM aggV := by
  intro cs ds x w h k hm
  obtain ⟨a, cap, rfl, i1, i2, l1, l2, l3⟩ := way_rd h
  obtain ⟨b, cp, rfl, _, _, k1, k2, k3⟩ := way_rd k
  exact eqWay_rep x.1 x.2.1 x.2.2 a b cap cp w l3 k3 (by have : wayM.bk x = 0 + (0 + intsM.bk x.2.2) := rfl; have : lot = 4398046511104 := rfl; omega)
theorem way_cV (x : WayD) : wayM.cV x = slcnt intM x.2.2 := by show 0 + (0 + slcnt intM x.2.2) = _; omega
theorem way_mV (k : Int) (x : WayD) : wayM.mV k x = (x.1, x.2.1, slmark intM k x.2.2) := by
  show (x.1, x.2.1, slmark intM (k + 0 + 0) x.2.2) = _
  rw [Int.add_zero, Int.add_zero]
theorem mkWay_u : MkC 95 wayR wayM aggV := by
  intro S cs x k w h h0 hm hb
  obtain ⟨v, rfl, i1, i2, o⟩ := way_own h
  have e : lot = 4398046511104 := rfl
  rw [way_cV] at hm ⊢
  rw [way_mV]
  refine (markWay_rep S x.1 x.2.1 v k x.2.2 w h0 (by omega) (by omega) o).mono ?_
  rintro e w' ⟨q, r, s⟩
  exact ⟨q, own_way i1 i2 r, s⟩
theorem hdWay_u : HdC 99 wayR wayM aggV := by
  intro cs x k w h h0 hm hb
  have e : lot = 4398046511104 := rfl
  rw [way_mV] at h
  rw [way_cV] at hm ⊢
  obtain ⟨a, cap, rfl, i1, i2, l1, l2, l3⟩ := way_rd h
  have := heldWay_rep x.1 x.2.1 a cap k x.2.2 w h0 (by omega) (by omega) l3
  rw [show x.2.2.length = (slmark intM k x.2.2).length from (slmark_len _ _ _).symm] at this
  exact this
theorem szCache_u : SzC 81 cacheR cacheM aggV := by
  intro cs x left w h h0 h1
  obtain ⟨a, cap, b, cp, rfl, l1, l2, m1, m2, r1, r2⟩ := cache_rd h
  exact szCache_rep a b x cap cp left w r1 h0 h1 (Nat.le_trans l1 l2) (Nat.le_trans m1 m2)
theorem toCache_u : ToC 85 cacheR cacheM aggV := by
  intro cs x w h hm
  obtain ⟨a, cap, b, cp, rfl, l1, l2, m1, m2, r1, r2⟩ := cache_rd h
  refine (toCache_rep a b x cap cp w r1 r2 hm).mono ?_
  rintro e w' ⟨av, cv, bv, dv, rfl, mm⟩
  exact ⟨_, rfl, mm⟩
theorem eqCache_u : EqC 89 cacheR cacheM aggV := by
  intro cs ds x w h k hm
  obtain ⟨a, cap, b, cp, rfl, l1, l2, m1, m2, r1, r2⟩ := cache_rd h
  obtain ⟨a', cap', b', cp', rfl, _, _, _, _, t1, t2⟩ := cache_rd k
  exact eqCache_rep x a b a' b' cap cp cap' cp' w r1 r2 t1 t2 (by have : lot = 4398046511104 := rfl; omega)
theorem mkCache_u : MkC 93 cacheR cacheM aggV := by
  intro S cs x k w h h0 hm hb
  obtain ⟨u, v, S1, S2, rfl, _⟩ := cache_own h
  have e : lot = 4398046511104 := rfl
  have hbk : cacheM.bk x = setsM.bk x.1 + intsM.bk x.2 := rfl
  have hb1 : setsM.bk x.1 = x.1.length + sumbk waysM x.1 := rfl
  have e2 : cacheM.cV x = cntC x := rfl
  exact markCache_rep S u v k x w h0 (by omega) (by omega) (by omega) h
theorem hdCache_u : HdC 97 cacheR cacheM aggV := by
  intro cs x k w h h0 hm hb
  have e : lot = 4398046511104 := rfl
  have hbk : cacheM.bk x = setsM.bk x.1 + intsM.bk x.2 := rfl
  have hb1 : setsM.bk x.1 = x.1.length + sumbk waysM x.1 := rfl
  obtain ⟨a, cap, b, cp, rfl, l1, l2, m1, m2, r1, r2⟩ := cache_rd h
  have e2 : cacheM.cV x = cntC x := rfl
  have := heldCache_rep a b cap cp k x w h0 (by omega) (by omega) (by omega) r1 r2
  rw [show x.1.length = (cacheM.mV k x).1.length from (slmark_len _ _ _).symm, show x.2.length = (cacheM.mV k x).2.length from (slmark_len _ _ _).symm] at this
  exact this
end Go.Proofs.YthbclkpmgcfdnaaGreatDoor
