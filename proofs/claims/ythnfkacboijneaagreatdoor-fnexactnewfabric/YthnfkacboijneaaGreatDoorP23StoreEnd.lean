import Derived.Test.YthnfkacboijneaaGreatDoorP20Ways2
import Derived.Test.YthnfkacboijneaaGreatDoorP22OkLink
import Derived.Deep.DeepCutAuto
import Derived.BigRegion
import Derived.Test.YthnfkacboijneaaGreatDoorP05Boxes
import Derived.Test.YthnfkacboijneaaGreatDoorP19Iters
namespace Go.Proofs.YthnfkacboijneaaGreatDoor
set_option maxHeartbeats 2000000
open Go.ChangeShapes Go.WideShapes Go.ChangeAt Go.RowKit Go.Shelf
set_option linter.unusedVariables false
open Go.ChangeShapes Go.WideShapes Go.ChangeAt Go.RowKit
theorem in64_w {k : Int} (h0 : 0 ≤ k) (h1 : k ≤ 1152921504606846976) : In64 k := by constructor <;> omega
theorem cnt_len (xs : List (Int × Int × List Int)) : xs.length ≤ slcnt wayM xs := by
 induction xs with
 | nil => exact Nat.zero_le _
 | cons x xs ih =>
  simp only [slcnt, List.map_cons, List.sum_cons, List.length_cons] at ih ⊢
  have : 1 ≤ wayM.cE x := by show 1 ≤ 1 + _; omega
  omega
theorem markWayS_nil (k : Int) (w : World) :
    Calls Tryz.prog 209 #[.slice none 0 0, .int .i64 k] w fun e' w' => e' = .returned (.int .i64 k) ∧ w' = w := by
 go_enter Tryz.func209, Tryz.ntmps209
 go_wp2
 refine wp_loop_rounds 1 ?_
 rw [rounds_succ]
 go_wp2
 go_ret
 exact ⟨rfl, rfl⟩
theorem markWayS_rep (S : Foot) (v : Value) (k : Int) (xs : List (Int × Int × List Int)) (w : World) (h0 : 0 ≤ k) (h1 : k ≤ 288230376151711744) (hm : slcnt wayM xs ≤ 288230376151711744) (h : waysR.own w S [v] xs) :
    Calls Tryz.prog 209 #[v, .int .i64 k] w fun e' w' => e' = .returned (.int .i64 (k + slcnt wayM xs)) ∧ waysR.own w' S [v] (slmark wayM k xs) ∧ Chg S w w' := by
 have hln := cnt_len xs
 rcases slown_form h with ⟨rfl, rfl⟩ | ⟨G, cap, rfl, hG⟩
 ·exact (markWayS_nil k w).mono fun e w' ⟨e1, e2⟩ => ⟨by simpa [slcnt] using e1, by rw [e2]; exact h, by rw [e2]; exact Chg.refl _ _⟩
 go_enter Tryz.func209, Tryz.ntmps209
 go_wp2
 go_loopw [1, 5] (fun q i wr => ∃ j : Nat, j ≤ xs.length ∧ i = .int .i64 j ∧ q = .int .i64 (k + slcnt wayM (xs.take j)) ∧ waysR.own wr S [.slice (some ⟨G, 0, none⟩) xs.length cap] (pmark wayM k xs j) ∧ Chg S w wr)
  (fun _ i _ => xs.length - (intOf i).toNat)
 case atStart => exact ⟨0, Nat.zero_le _, rfl, by simp [slcnt], by rw [pmark_zero]; exact h, Chg.refl _ _⟩
 case round =>
  obtain ⟨j, hj, rfl, rfl, ho, hs⟩ := hrel
  by_cases hlt : j < xs.length
  ·have hlt' : (j : Int) < (xs.length : Int) := by omega
   obtain ⟨x, hx⟩ : ∃ x, xs[j]? = some x := ⟨_, List.getElem?_eq_getElem hlt⟩
   have HT : Hid (slcnt wayM (xs.take (j + 1)) = slcnt wayM (xs.take j) + (1 + (1 + slcnt intM x.2.2))) := slcnt_step (M := wayM) hx
   have hT : slcnt wayM (xs.take j) + (1 + (1 + slcnt intM x.2.2)) ≤ slcnt wayM xs := slcnt_get (M := wayM) hx
   have HPS : Hid _ := pmark_step (M := wayM) (k := k) hx
   obtain ⟨g, cap', cur, Sj, T, c, hv, hSg, hblk, hcur, hcl, hown, s1, s2, s3, s4, s5, close⟩ := slown_focus ho (pmark_at hx)
   simp only [Value.slice.injEq, Option.some.injEq, Addr.mk.injEq, and_true] at hv
   obtain ⟨rfl, hvx⟩ := hv
   obtain ⟨vd, rfl, -, -, hod⟩ := way_own hown
   obtain ⟨av, cv, rfl⟩ := slown_val hod
   have q0 : wr.cell? ⟨G, j * 3, none⟩ = some (.int .i64 x.1) := by rw [cell_of_row wr G _ cur _ (0, 0) hblk]; exact hcur 0 (by decide)
   have q1 : wr.cell? ⟨G, j * 3 + 1, none⟩ = some (.int .i64 x.2.1) := by rw [cell_of_row wr G _ cur _ (0, 0) hblk]; exact hcur 1 (by decide)
   have q2 : wr.cell? ⟨G, j * 3 + 2, none⟩ = some (.slice av x.2.2.length cv) := by rw [cell_of_row wr G _ cur _ (0, 0) hblk]; exact hcur 2 (by decide)
   have f0 : wr.frozen? ⟨G, j * 3, none⟩ = false := frozen_of_row wr G _ _ _ hblk
   have f1 : wr.frozen? ⟨G, j * 3 + 1, none⟩ = false := frozen_of_row wr G _ _ _ hblk
   have hcs : j * 3 + 2 < cur.size := by
    have := hcur 2 (by decide)
    exact (Array.getElem?_eq_some_iff.1 (this.trans rfl)).1
   clear hvx hcl
   generalize hkk : k + (slcnt wayM (xs.take j) : Int) = kk at HPS ⊢
   have hk0 : 0 ≤ kk ∧ kk ≤ 576460752303423488 := by omega
   have HC : Hid (∀ w', Chg Sj ((wr.setCell ⟨G, j * 3, none⟩ (.int .i64 kk)).setCell ⟨G, j * 3 + 1, none⟩ (.int .i64 (kk + 1))) w' → intsR.own w' Sj [.slice av x.2.2.length cv] (slmark intM (kk + 1 + 1) x.2.2) → waysR.own w' S [.slice (some ⟨G, 0, none⟩) xs.length cap] (pmark wayM k xs (j + 1)) ∧ Chg S wr w') := by
    intro w' hc ho'
    have y1 := heap_setCell_same wr G (j * 3) _ _ (.int .i64 kk) hblk
    have y2 := heap_setCell_same _ G (j * 3 + 1) _ _ (.int .i64 (kk + 1)) y1
    have hlg : G < wr.heap.size := (Array.getElem?_eq_some_iff.1 hblk).1
    have c1 : Chg S wr ((wr.setCell ⟨G, j * 3, none⟩ (.int .i64 kk)).setCell ⟨G, j * 3 + 1, none⟩ (.int .i64 (kk + 1))) := ⟨rfl, rfl, rfl, by simp, fun i hi hn => by
     have : i ≠ G := fun e => hn (by rw [e]; exact hSg)
     rw [heap_setCell_other _ ⟨G, j * 3 + 1, none⟩ i _ this, heap_setCell_other _ ⟨G, j * 3, none⟩ i _ this]⟩
    refine ⟨?_, c1.trans (hc.mono s1)⟩
    rw [← HPS.out]
    refine close w' _ [.int .i64 kk, .int .i64 (kk + 1), .slice av x.2.2.length cv] _ Sj S ((hc.block G (by simpa using hlg) s4).trans y2) (by simp) ?_ ?_ ?_ (own_way (in64_w hk0.1 (by omega)) (in64_w (by omega) (by omega)) ho') s3 s4 hSg s1 s2
    ·intro i hi
     rw [show wayR.size = 3 from rfl] at hi
     rw [Array.getElem?_setIfInBounds_ne (by omega), Array.getElem?_setIfInBounds_ne (by omega)]
    ·intro i hi
     rw [show wayR.size = 3 from rfl] at hi
     rw [show j * wayR.size = j * 3 from rfl]
     have h3 : i = 0 ∨ i = 1 ∨ i = 2 := by omega
     rcases h3 with rfl | rfl | rfl
     ·rw [Array.getElem?_setIfInBounds_ne (by omega), Nat.add_zero, Array.getElem?_setIfInBounds_self_of_lt (by omega)]
      rfl
     ·rw [Array.getElem?_setIfInBounds_self_of_lt (by simp; omega)]
      rfl
     ·rw [Array.getElem?_setIfInBounds_ne (by omega), Array.getElem?_setIfInBounds_ne (by omega)]
      exact hcur 2 (by decide)
    ·intro i hi hil
     have hne : i ≠ G := fun e => s5 (by rw [← e]; exact hi)
     rw [hc.block i (by simpa using hil) (fun hx => s3 i hx hi), heap_setCell_other _ ⟨G, j * 3 + 1, none⟩ i _ hne, heap_setCell_other _ ⟨G, j * 3, none⟩ i _ hne]
   have HO : Hid (intsR.own ((wr.setCell ⟨G, j * 3, none⟩ (.int .i64 kk)).setCell ⟨G, j * 3 + 1, none⟩ (.int .i64 (kk + 1))) Sj [.slice av x.2.2.length cv] x.2.2) := own_setC (own_setC hod s4) s4
   clear hx ho hown close hcur hblk s1 s2 s3 s4 s5 HPS h hod hcs
   generalize slcnt wayM (xs.take j) = TT at HT hT hkk
   go_wp2_with fail
   refine (markInt64S_rep Sj _ _ x.2.2 _ (by omega) (by omega) (by omega) HO.out).mono ?_
   rintro e w' ⟨rfl, own2, gr⟩
   obtain ⟨ho2, gr2⟩ := HC.out w' gr own2
   have hs2 := hs.trans gr2
   clear own2 gr gr2 HC HO q0 q1 q2 f0 f1
   go_wp2
   go_roundw
   case rel => exact ⟨j + 1, by omega, by go_num, by rw [HT.out]; congr 1; omega, ho2, hs2⟩
   case measure => simp [intOf]; omega
  ·have hjn : j = xs.length := by omega
   subst hjn
   rw [List.take_length]
   rw [pmark_all] at ho
   go_wp2
   go_ret
   exact ⟨rfl, ho, hs⟩
theorem heldWayS_rep (a : Option Addr) (cap : Nat) (k : Int) (xs : List (Int × Int × List Int)) (w : World) (h0 : 0 ≤ k) (h1 : k ≤ 288230376151711744) (hm : slcnt wayM xs ≤ 288230376151711744) (h : SlRd wayR w a (slmark wayM k xs)) :
    Calls Tryz.prog 210 #[.slice a xs.length cap, .int .i64 k] w fun e' w' => e' = .returned (.int .i64 (k + slcnt wayM xs)) ∧ w' = w := by
 have hln := cnt_len xs
 go_enter Tryz.func210, Tryz.ntmps210
 go_wp2
 go_loop [1, 5] (fun q i => ∃ j : Nat, j ≤ xs.length ∧ i = .int .i64 j ∧ q = .int .i64 (k + slcnt wayM (xs.take j))) (fun _ i => xs.length - (intOf i).toNat)
 case atStart => exact ⟨0, Nat.zero_le _, rfl, by simp [slcnt]⟩
 case round =>
  obtain ⟨j, hj, rfl, rfl⟩ := hrel
  by_cases hlt : j < xs.length
  ·have hlt' : (j : Int) < (xs.length : Int) := by omega
   obtain ⟨x, hx⟩ : ∃ x, xs[j]? = some x := ⟨_, List.getElem?_eq_getElem hlt⟩
   obtain ⟨b, off, cs, rfl, hrd, hcell⟩ := slrd_at h (slmark_at (M := wayM) (k := k) hx)
   obtain ⟨ad, cpw, rfl, -, -, -, -, hd3⟩ := way_rd hrd
   have x0 := hcell 0 _ rfl
   have x1 := hcell 1 _ rfl
   have x2 := hcell 2 _ rfl
   rw [show off + (j * wayR.size + 0) = off + j * 3 from rfl] at x0
   rw [show off + (j * wayR.size + 1) = off + j * 3 + 1 from rfl] at x1
   rw [show off + (j * wayR.size + 2) = off + j * 3 + 2 from rfl] at x2
   have hml : (wayM.mE (k + slcnt wayM (xs.take j)) x).2.2.length = x.2.2.length := slmark_len _ _ _
   rw [hml] at x2
   have HR : Hid (SlRd intR w ad (slmark intM (k + slcnt wayM (xs.take j) + 1 + 1) x.2.2)) := hd3
   have y0 : w.cell? ⟨b, off + j * 3, none⟩ = some (.int .i64 (k + slcnt wayM (xs.take j))) := x0
   have y1 : w.cell? ⟨b, off + j * 3 + 1, none⟩ = some (.int .i64 (k + slcnt wayM (xs.take j) + 1)) := x1
   have HT : Hid (slcnt wayM (xs.take (j + 1)) = slcnt wayM (xs.take j) + (1 + (1 + slcnt intM x.2.2))) := slcnt_step (M := wayM) hx
   have hT : slcnt wayM (xs.take j) + (1 + (1 + slcnt intM x.2.2)) ≤ slcnt wayM xs := slcnt_get (M := wayM) hx
   clear hx hrd hcell h hml hd3 x0 x1
   generalize hkk : k + (slcnt wayM (xs.take j) : Int) = kk at HR y0 y1 ⊢
   generalize slcnt wayM (xs.take j) = TT at HT hT hkk
   have hk0 : 0 ≤ kk ∧ kk ≤ 576460752303423488 := by omega
   have hn : ¬ (kk + 1 + 1 + ((slcnt intM x.2.2 : Nat) : Int) < 0) := by omega
   go_wp2_with (go_at_call 146; refine (heldInt64S_rep _ _ _ x.2.2 _ (by omega) (by omega) (by omega) HR.out).mono ?_; rintro e w' ⟨rfl, rfl⟩)
   go_round
   case rel => exact ⟨j + 1, by omega, by go_num, by rw [HT.out]; congr 1; omega⟩
   case measure => simp [intOf]; omega
  ·have hjn : j = xs.length := by omega
   subst hjn
   rw [List.take_length]
   go_wp2
   go_ret
   exact ⟨rfl, rfl⟩
theorem markWaySS_nil (k : Int) (w : World) :
    Calls Tryz.prog 142 #[.slice none 0 0, .int .i64 k] w fun e' w' => e' = .returned (.int .i64 k) ∧ w' = w := by
 go_enter Tryz.func142, Tryz.ntmps142
 go_wp2
 refine wp_loop_rounds 1 ?_
 rw [rounds_succ]
 go_wp2
 go_ret
 exact ⟨rfl, rfl⟩
theorem markWaySS_rep (S : Foot) (v : Value) (k : Int) (xs : List (List (Int × Int × List Int))) (w : World) (h0 : 0 ≤ k) (h1 : k ≤ 144115188075855872) (hm : slcnt waysM xs ≤ 144115188075855872) (hln : xs.length ≤ 144115188075855872) (h : (slR 88 waysR).own w S [v] xs) :
    Calls Tryz.prog 142 #[v, .int .i64 k] w fun e' w' => e' = .returned (.int .i64 (k + slcnt waysM xs)) ∧ (slR 88 waysR).own w' S [v] (slmark waysM k xs) ∧ Chg S w w' := by
 rcases slown_form h with ⟨rfl, rfl⟩ | ⟨G, cap, rfl, hG⟩
 ·exact (markWaySS_nil k w).mono fun e w' ⟨e1, e2⟩ => ⟨by simpa [slcnt] using e1, by rw [e2]; exact h, by rw [e2]; exact Chg.refl _ _⟩
 go_enter Tryz.func142, Tryz.ntmps142
 go_wp2
 go_loopw [1, 5] (fun q i wr => ∃ j : Nat, j ≤ xs.length ∧ i = .int .i64 j ∧ q = .int .i64 (k + slcnt waysM (xs.take j)) ∧ (slR 88 waysR).own wr S [.slice (some ⟨G, 0, none⟩) xs.length cap] (pmark waysM k xs j) ∧ Chg S w wr)
  (fun _ i _ => xs.length - (intOf i).toNat)
 case atStart => exact ⟨0, Nat.zero_le _, rfl, by simp [slcnt], by rw [pmark_zero]; exact h, Chg.refl _ _⟩
 case round =>
  obtain ⟨j, hj, rfl, rfl, ho, hs⟩ := hrel
  by_cases hlt : j < xs.length
  ·have hlt' : (j : Int) < (xs.length : Int) := by omega
   obtain ⟨x, hx⟩ : ∃ x, xs[j]? = some x := ⟨_, List.getElem?_eq_getElem hlt⟩
   have HT : Hid (slcnt waysM (xs.take (j + 1)) = slcnt waysM (xs.take j) + slcnt wayM x) := slcnt_step (M := waysM) hx
   have hT : slcnt waysM (xs.take j) + slcnt wayM x ≤ slcnt waysM xs := slcnt_get (M := waysM) hx
   have HPS : Hid _ := pmark_step (M := waysM) (k := k) hx
   obtain ⟨g, cap', cur, Sj, T, c, hv, hSg, hblk, hcur, hcl, hown, s1, s2, s3, s4, s5, close⟩ := slown_focus ho (pmark_at hx)
   obtain ⟨vj, rfl⟩ : ∃ vj, c = [vj] := List.length_eq_one_iff.1 hcl
   obtain ⟨av, cv, rfl⟩ := slown_val hown
   simp only [Value.slice.injEq, Option.some.injEq, Addr.mk.injEq, and_true] at hv
   obtain ⟨rfl, hvx⟩ := hv
   clear hvx hcl
   have q1 : wr.cell? ⟨G, j, none⟩ = some (.slice av x.length cv) := by
    rw [cell_of_row wr G j cur _ (0, 0) hblk]
    have := hcur 0 Nat.zero_lt_one
    rwa [show j * (waysR).size + 0 = j from Nat.mul_one j] at this
   have HO : Hid _ := hown
   have HC : Hid (∀ w', Chg Sj wr w' → (waysR).own w' Sj [.slice av x.length cv] (slmark wayM (k + slcnt waysM (xs.take j)) x) → (slR 88 waysR).own w' S [.slice (some ⟨G, 0, none⟩) xs.length cap] (pmark waysM k xs (j + 1))) := by
    intro w' hc ho'
    rw [← HPS.out]
    have hlg : G < wr.heap.size := (Array.getElem?_eq_some_iff.1 hblk).1
    exact close w' cur [.slice av x.length cv] _ Sj S (by rw [hc.block G hlg s4]; exact hblk) rfl (fun _ _ => rfl) hcur (hc.keeps s3.symm) ho' s3 s4 hSg s1 s2
   have HS1 : Hid _ := s1
   clear hx ho hown close hcur hblk s2 s3 s4 s5 s1 HPS h
   generalize slcnt waysM (xs.take j) = T at HT hT HC ⊢
   go_wp2_with (go_at_call 209; refine (markWayS_rep Sj _ _ x _ (by omega) (by omega) (by omega) HO.out).mono ?_; rintro e w' ⟨rfl, own2, gr⟩)
   have ho2 := HC.out w' gr own2
   have hs2 := hs.trans (gr.mono HS1.out)
   clear own2 gr
   go_roundw
   case rel => exact ⟨j + 1, by omega, by go_num, by rw [HT.out]; go_num, ho2, hs2⟩
   case measure => simp [intOf]; omega
  ·have hjn : j = xs.length := by omega
   subst hjn
   rw [List.take_length]
   rw [pmark_all] at ho
   go_wp2
   go_ret
   exact ⟨rfl, ho, hs⟩
theorem heldWaySS_rep (a : Option Addr) (cap : Nat) (k : Int) (xs : List (List (Int × Int × List Int))) (w : World) (h0 : 0 ≤ k) (h1 : k ≤ 144115188075855872) (hm : slcnt waysM xs ≤ 144115188075855872) (hln : xs.length ≤ 144115188075855872) (h : SlRd waysR w a (slmark waysM k xs)) :
    Calls Tryz.prog 145 #[.slice a xs.length cap, .int .i64 k] w fun e' w' => e' = .returned (.int .i64 (k + slcnt waysM xs)) ∧ w' = w := by
 go_enter Tryz.func145, Tryz.ntmps145
 go_wp2
 go_loop [1, 5] (fun q i => ∃ j : Nat, j ≤ xs.length ∧ i = .int .i64 j ∧ q = .int .i64 (k + slcnt waysM (xs.take j))) (fun _ i => xs.length - (intOf i).toNat)
 case atStart => exact ⟨0, Nat.zero_le _, rfl, by simp [slcnt]⟩
 case round =>
  obtain ⟨j, hj, rfl, rfl⟩ := hrel
  by_cases hlt : j < xs.length
  ·have hlt' : (j : Int) < (xs.length : Int) := by omega
   obtain ⟨x, hx⟩ : ∃ x, xs[j]? = some x := ⟨_, List.getElem?_eq_getElem hlt⟩
   obtain ⟨b, off, c, rfl, ⟨aj, cj, rfl, hc1, hc2, hrd⟩, hcell⟩ := slrd_at h (slmark_at (M := waysM) (k := k) hx)
   have g1 := hcell 0 _ rfl
   rw [show j * (waysR).size + 0 = j from Nat.mul_one j] at g1
   have hml : ((waysM).mE (k + slcnt waysM (xs.take j)) x).length = x.length := slmark_len _ _ _
   rw [hml] at g1
   have HR : Hid (SlRd _ w aj (slmark wayM (k + slcnt waysM (xs.take j)) x)) := hrd
   have HT : Hid (slcnt waysM (xs.take (j + 1)) = slcnt waysM (xs.take j) + slcnt wayM x) := slcnt_step (M := waysM) hx
   have hT : slcnt waysM (xs.take j) + slcnt wayM x ≤ slcnt waysM xs := slcnt_get (M := waysM) hx
   clear hx hrd hcell h hml hc1
   generalize slcnt waysM (xs.take j) = T at HT hT HR ⊢
   have hn : ¬ (k + (T : Int) + ((slcnt wayM x : Nat) : Int) < 0) := by omega
   go_wp2_with (go_at_call 210; refine (heldWayS_rep _ _ _ x _ (by omega) (by omega) (by omega) HR.out).mono ?_; rintro e w' ⟨rfl, rfl⟩)
   go_round
   case rel => exact ⟨j + 1, by omega, by go_num, by rw [HT.out]; go_num⟩
   case measure => simp [intOf]; omega
  ·have hjn : j = xs.length := by omega
   subst hjn
   rw [List.take_length]
   go_wp2
   go_ret
   exact ⟨rfl, rfl⟩
section
variable {α : Type}
end
theorem bd_way : Bd wayM 3 := bd_prod bd_int (bd_prod bd_int (bd_sl bd_int))
end Go.Proofs.YthnfkacboijneaaGreatDoor
