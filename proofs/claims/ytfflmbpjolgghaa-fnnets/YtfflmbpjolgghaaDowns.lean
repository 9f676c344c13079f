/- A letter goes down in a heap until none below it is less. Conditions: an owned row of letters, of a length that a machine can hold. -/
import Derived.Test.YtfflmbpjolgghaaSwaps
namespace Go.Proofs.Ytfflmbpjolgghaa
open Go.ChangeShapes Go.WideShapes Go.ChangeAt Go.RowKit
set_option linter.unusedVariables false

/-- What holds between two rounds of 'down': it stands at k. -/
structure DownI (pb g cap i0 n : Nat) (S : Foot) (ls : List LetD) (w wr : World) (k : Nat) (ms : List LetD) : Prop where
  lo : i0 ≤ k
  hi : k = i0 ∨ k < n
  row : wr.heap[pb]? = some (.cells #[.slice (some ⟨g, 0, none⟩) ms.length cap] 83 (0, 0))
  own : postR.own wr S [.slice (some ⟨g, 0, none⟩) ms.length cap] ms
  perm : ms.Perm ls
  heap : HeapX (keyAt ms) n k
  rest : ∀ c, n ≤ c → ms[c]? = ls[c]?
  same : k = i0 → ms = ls
  chg : Chg (fun b => b = g) w wr
theorem downI_next {pb g cap i0 n k : Nat} {S : Foot} {ls ms : List LetD} {w wr w' : World} (h : DownI pb g cap i0 n S ls w wr k ms) (hb : Below wr.heap.size wr w') : DownI pb g cap i0 n S ls w w' k ms :=
  ⟨h.lo, h.hi, row_keep hb h.row, postR.own_keep h.own (keeps_below hb), h.perm, h.heap, h.rest, h.same, h.chg.trans (chg_below hb)⟩
theorem downI_swap {pb g cap i0 n k j : Nat} {S : Foot} {ls ms : List LetD} {w wr w' : World} {x y : LetD} (h : DownI pb g cap i0 n S ls w wr k ms) (hx : ms[k]? = some x) (hy : ms[j]? = some y) (hj : 0 < j) (hjn : j < n) (hp : (j - 1) / 2 = k)
    (hlt : y.1 < x.1) (hmin : ∀ c u, 0 < c → c < n → (c - 1) / 2 = k → ms[c]? = some u → y.1 ≤ u.1) (hnl : n ≤ ms.length) (hg : g ≠ pb) (ho : postR.own w' S [.slice (some ⟨g, 0, none⟩) ms.length cap] (swapL ms k j x y)) (hc : Chg (fun b => b = g) wr w') :
    DownI pb g cap i0 n S ls w w' j (swapL ms k j x y) := by
  have hlo := h.lo
  have kx := key_of hx
  have ky := key_of hy
  refine ⟨by omega, .inr hjn, ?_, by rw [swap_len]; exact ho, (swap_perm hx hy).trans h.perm, ?_, fun c hcn => ?_, fun e => by omega, h.chg.trans hc⟩
  · rw [swap_len]
    exact (hc.block pb (Array.getElem?_eq_some_iff.1 h.row).1 (fun e => hg e.symm)).trans h.row
  · refine heap_down h.heap hj hjn hp (by rw [kx, ky]; exact hlt) (fun c h0 hcn hpc => ?_) ?_ ?_ (fun c h1 h2 => key_congr (swap_else h1 h2))
    · have hu : ms[c]? = some (ms[c]'(by omega)) := List.getElem?_eq_getElem (by omega)
      rw [ky, key_of hu]
      exact hmin c _ h0 hcn hpc hu
    · rw [key_of (swap_i hx hy), ky]
    · rw [key_of (swap_j hy), kx]
  · rw [swap_else (by have := h.hi; omega) (by omega)]
    exact h.rest c hcn

/-- What 'down' leaves. -/
def DownP (pb g cap n : Nat) (S : Foot) (ls : List LetD) (w : World) (e : Ending) (w' : World) : Prop :=
  ∃ (ms : List LetD) (b : Bool), e = .returned (.bool b) ∧ w'.heap[pb]? = some (.cells #[.slice (some ⟨g, 0, none⟩) ms.length cap] 83 (0, 0)) ∧
      postR.own w' S [.slice (some ⟨g, 0, none⟩) ms.length cap] ms ∧ ms.Perm ls ∧ HeapL ms n ∧ (∀ c, n ≤ c → ms[c]? = ls[c]?) ∧ (b = false → ms = ls) ∧ Chg (fun b => b = g) w w'
set_option maxRecDepth 20000 in
set_option maxHeartbeats 8000000 in
theorem down_any (pb : Nat) (S : Foot) (g cap i0 n : Nat) (ls : List LetD) (w : World) (hp : w.heap[pb]? = some (.cells #[.slice (some ⟨g, 0, none⟩) ls.length cap] 83 (0, 0))) (hg : g ≠ pb) (h : postR.own w S [.slice (some ⟨g, 0, none⟩) ls.length cap] ls)
    (hi0 : i0 ≤ n) (hn : n ≤ ls.length) (hm : ls.length ≤ 1000) (hsh : ∀ u ∈ ls, MsgC u.2) (hx : HeapX (keyAt ls) n i0) :
    Calls Try.prog 80 #[.iface 57 (.pointer (some ⟨pb, 0, none⟩)), .int .i64 (i0 : Int), .int .i64 (n : Int)] w fun e w' => DownP pb g cap n S ls w e w' := by
  have I0 : DownI pb g cap i0 n S ls w w i0 ls := ⟨Nat.le_refl _, .inl rfl, hp, h, List.Perm.refl _, hx, fun _ _ => rfl, fun _ => rfl, Chg.refl _ _⟩
  have HH : Hid _ := And.intro hg hsh
  clear hp h hx hg hsh
  go_enter Try.func80, Try.ntmps80
  go_wp2
  go_loopw [7] (fun i wr => ∃ (k : Nat) (ms : List LetD), i = .int .i64 k ∧ DownI pb g cap i0 n S ls w wr k ms) (fun i _ => 2 * ls.length + 2 - (intOf i).toNat)
  case atStart => exact ⟨i0, ls, rfl, I0⟩
  case round =>
    clear I0
    obtain ⟨k, ms, rfl, I⟩ := hrel
    have hlo := I.lo
    have hhi := I.hi
    have hml : ms.length = ls.length := I.perm.length_eq
    obtain ⟨j1, hj1⟩ : ∃ j1 : Nat, j1 = 2 * k + 1 := ⟨_, rfl⟩
    have hq1 : 2 * (k : Int) + 1 = (j1 : Int) := by omega
    have hk1000 : k ≤ 1000 := by omega
    have HM : Hid _ := hml
    obtain ⟨nl, hnl⟩ : ∃ nl, nl = ms.length := ⟨_, rfl⟩
    have hnn : n ≤ nl := by omega
    have hnk : nl ≤ 1000 := by omega
    have hn1 : nl ≤ ms.length := by omega
    have hn2 : ms.length ≤ nl := by omega
    have HN : Hid (nl = ms.length) := hnl
    have hj1a : 2 * k + 1 ≤ j1 := by omega
    have hj1b : j1 ≤ 2 * k + 1 := by omega
    clear hnl hj1
    by_cases hA : n ≤ j1
    · have hA' : (n : Int) ≤ (j1 : Int) := by omega
      have HI : Hid _ := I
      have hlo' : (i0 : Int) ≤ (k : Int) := by omega
      clear I hml hhi
      go_wp2
      all_goals
        go_ret
        obtain ⟨c1, c2, c3, c4, c5, c6, c7, c8, c9⟩ := HI.out
        refine ⟨ms, _, rfl, c3, c4, c5, heap_stop c6 (fun c h0 hcn hpc => by omega), c7, fun hb => c8 ?_, c9⟩
        simp at hb
        omega
    · have hA' : ¬ (n : Int) ≤ (j1 : Int) := by omega
      obtain ⟨x, hx⟩ : ∃ x, ms[k]? = some x := ⟨_, List.getElem?_eq_getElem (by omega)⟩
      obtain ⟨y, hy⟩ : ∃ y, ms[j1]? = some y := ⟨_, List.getElem?_eq_getElem (by omega)⟩
      obtain ⟨j2, hj2⟩ : ∃ j2 : Nat, j2 = j1 + 1 := ⟨_, rfl⟩
      have hq2 : (j1 : Int) + 1 = (j2 : Int) := by omega
      have hj2a : j1 + 1 ≤ j2 := by omega
      have hj2b : j2 ≤ j1 + 1 := by omega
      clear hj2
      have HX : Hid _ := hx
      have hlo' : (i0 : Int) ≤ (k : Int) := by omega
      by_cases hB : j2 < n
      · have hB' : (j2 : Int) < (n : Int) := by omega
        obtain ⟨z, hz⟩ : ∃ z, ms[j2]? = some z := ⟨_, List.getElem?_eq_getElem (by omega)⟩
        have q9 : wr.cell? ⟨pb, 0, none⟩ = some (.slice (some ⟨g, 0, none⟩) ms.length cap) := by rw [cell_of_row wr pb 0 _ _ (0, 0) I.row]; rfl
        have hme := m_less pb wr _ q9
        obtain ⟨av, cv, ev, _, _, hsl⟩ := postR.own_rd I.own
        simp only [List.cons.injEq, Value.slice.injEq, and_true, true_and] at ev
        obtain ⟨rfl, rfl⟩ := ev
        have HL := postLess_any (some ⟨g, 0, none⟩) ms cap j2 j1 z y wr hsl hz hy (by unfold maxLen; omega)
        have HY1 : Hid _ := hy
        have HZ1 : Hid _ := hz
        have HIa : Hid _ := I
        rw [← HN.out] at HL hme q9
        clear hsl hy hz hx I hml hhi
        by_cases hzy : z.1 < y.1
        · rw [decide_eq_true hzy] at HL
          go_wp2_with fail
          refine HL.mono ?_
          rintro e wa ⟨rfl, ba⟩
          have HI : Hid _ := downI_next HIa.out ba
          have HY : Hid (ms[j2]? = some z) := HZ1.out
          clear HIa HL hme q9 ba
          have q9 : wa.cell? ⟨pb, 0, none⟩ = some (.slice (some ⟨g, 0, none⟩) ms.length cap) := by rw [cell_of_row wa pb 0 _ _ (0, 0) HI.out.row]; rfl
          have hme := m_less pb wa _ q9
          obtain ⟨av, cv, ev, _, _, hsl⟩ := postR.own_rd HI.out.own
          simp only [List.cons.injEq, Value.slice.injEq, and_true, true_and] at ev
          obtain ⟨rfl, rfl⟩ := ev
          have HL := postLess_any (some ⟨g, 0, none⟩) ms cap j2 k z x wa hsl HY.out HX.out (by unfold maxLen; omega)
          clear hsl
          rw [← HN.out] at HL hme q9
          by_cases hlt : z.1 < x.1
          · rw [decide_eq_true hlt] at HL
            go_wp2_with fail
            refine HL.mono ?_
            rintro e wb ⟨rfl, bb⟩
            have HJ : Hid _ := downI_next HI.out bb
            clear HI HL hme q9 bb
            have q9 : wb.cell? ⟨pb, 0, none⟩ = some (.slice (some ⟨g, 0, none⟩) ms.length cap) := by rw [cell_of_row wb pb 0 _ _ (0, 0) HJ.out.row]; rfl
            have hme := m_swap pb wb _ q9
            have HL := postSwap_any S g cap k j2 ms x z wb HJ.out.own HX.out HY.out (by omega) (fun u hu => HH.out.2 u (HJ.out.perm.mem_iff.1 hu))
            rw [← HN.out] at HL hme q9
            go_wp2_with fail
            refine HL.mono ?_
            rintro e wc ⟨rfl, ow, ch⟩
            rw [HN.out] at ow
            have HK : Hid (DownI pb g cap i0 n S ls w wc j2 (swapL ms k j2 x z)) := downI_swap HJ.out HX.out HY.out (by omega) (by omega) (by omega) hlt (fun c u h0 hcn hpc hu => by rcases (by omega : c = j1 ∨ c = j2) with e | e; (· subst e; have e2 := HY1.out.symm.trans hu; cases e2; omega); (· subst e; have e2 := HZ1.out.symm.trans hu; cases e2; omega)) (by omega) HH.out.1 ow ch
            clear HJ HL hme q9 ow ch
            go_wp2
            go_roundw
            case rel => exact ⟨j2, _, rfl, HK.out⟩
            case measure => simp [intOf]; omega
          · rw [decide_eq_false hlt] at HL
            go_wp2_with fail
            refine HL.mono ?_
            rintro e wb ⟨rfl, bb⟩
            have HJ : Hid _ := downI_next HI.out bb
            clear HI HL hme q9 bb
            go_wp2
            all_goals
              go_ret
              obtain ⟨c1, c2, c3, c4, c5, c6, c7, c8, c9⟩ := HJ.out
              have hmin : ∀ c u, 0 < c → c < n → (c - 1) / 2 = k → ms[c]? = some u → z.1 ≤ u.1 := fun c u h0 hcn hpc hu => by rcases (by omega : c = j1 ∨ c = j2) with e | e; (· subst e; have e2 := HY1.out.symm.trans hu; cases e2; omega); (· subst e; have e2 := HZ1.out.symm.trans hu; cases e2; omega)
              refine ⟨ms, _, rfl, c3, c4, c5, heap_stop c6 (fun c h0 hcn hpc => ?_), c7, fun hb => c8 ?_, c9⟩
              · have hu : ms[c]? = some (ms[c]'(by omega)) := List.getElem?_eq_getElem (by omega)
                have := hmin c _ h0 hcn hpc hu
                rw [key_of HX.out, key_of hu]
                omega
              · simp at hb
                omega
        · rw [decide_eq_false hzy] at HL
          go_wp2_with fail
          refine HL.mono ?_
          rintro e wa ⟨rfl, ba⟩
          have HI : Hid _ := downI_next HIa.out ba
          have HY : Hid (ms[j1]? = some y) := HY1.out
          clear HIa HL hme q9 ba
          have q9 : wa.cell? ⟨pb, 0, none⟩ = some (.slice (some ⟨g, 0, none⟩) ms.length cap) := by rw [cell_of_row wa pb 0 _ _ (0, 0) HI.out.row]; rfl
          have hme := m_less pb wa _ q9
          obtain ⟨av, cv, ev, _, _, hsl⟩ := postR.own_rd HI.out.own
          simp only [List.cons.injEq, Value.slice.injEq, and_true, true_and] at ev
          obtain ⟨rfl, rfl⟩ := ev
          have HL := postLess_any (some ⟨g, 0, none⟩) ms cap j1 k y x wa hsl HY.out HX.out (by unfold maxLen; omega)
          clear hsl
          rw [← HN.out] at HL hme q9
          by_cases hlt : y.1 < x.1
          · rw [decide_eq_true hlt] at HL
            go_wp2_with fail
            refine HL.mono ?_
            rintro e wb ⟨rfl, bb⟩
            have HJ : Hid _ := downI_next HI.out bb
            clear HI HL hme q9 bb
            have q9 : wb.cell? ⟨pb, 0, none⟩ = some (.slice (some ⟨g, 0, none⟩) ms.length cap) := by rw [cell_of_row wb pb 0 _ _ (0, 0) HJ.out.row]; rfl
            have hme := m_swap pb wb _ q9
            have HL := postSwap_any S g cap k j1 ms x y wb HJ.out.own HX.out HY.out (by omega) (fun u hu => HH.out.2 u (HJ.out.perm.mem_iff.1 hu))
            rw [← HN.out] at HL hme q9
            go_wp2_with fail
            refine HL.mono ?_
            rintro e wc ⟨rfl, ow, ch⟩
            rw [HN.out] at ow
            have HK : Hid (DownI pb g cap i0 n S ls w wc j1 (swapL ms k j1 x y)) := downI_swap HJ.out HX.out HY.out (by omega) (by omega) (by omega) hlt (fun c u h0 hcn hpc hu => by rcases (by omega : c = j1 ∨ c = j2) with e | e; (· subst e; have e2 := HY1.out.symm.trans hu; cases e2; omega); (· subst e; have e2 := HZ1.out.symm.trans hu; cases e2; omega)) (by omega) HH.out.1 ow ch
            clear HJ HL hme q9 ow ch
            go_wp2
            go_roundw
            case rel => exact ⟨j1, _, rfl, HK.out⟩
            case measure => simp [intOf]; omega
          · rw [decide_eq_false hlt] at HL
            go_wp2_with fail
            refine HL.mono ?_
            rintro e wb ⟨rfl, bb⟩
            have HJ : Hid _ := downI_next HI.out bb
            clear HI HL hme q9 bb
            go_wp2
            all_goals
              go_ret
              obtain ⟨c1, c2, c3, c4, c5, c6, c7, c8, c9⟩ := HJ.out
              have hmin : ∀ c u, 0 < c → c < n → (c - 1) / 2 = k → ms[c]? = some u → y.1 ≤ u.1 := fun c u h0 hcn hpc hu => by rcases (by omega : c = j1 ∨ c = j2) with e | e; (· subst e; have e2 := HY1.out.symm.trans hu; cases e2; omega); (· subst e; have e2 := HZ1.out.symm.trans hu; cases e2; omega)
              refine ⟨ms, _, rfl, c3, c4, c5, heap_stop c6 (fun c h0 hcn hpc => ?_), c7, fun hb => c8 ?_, c9⟩
              · have hu : ms[c]? = some (ms[c]'(by omega)) := List.getElem?_eq_getElem (by omega)
                have := hmin c _ h0 hcn hpc hu
                rw [key_of HX.out, key_of hu]
                omega
              · simp at hb
                omega
      · have hB' : ¬ (j2 : Int) < (n : Int) := by omega
        have HY : Hid _ := hy
        have HI : Hid _ := I
        clear hx hy I hml hhi
        have q9 : wr.cell? ⟨pb, 0, none⟩ = some (.slice (some ⟨g, 0, none⟩) ms.length cap) := by rw [cell_of_row wr pb 0 _ _ (0, 0) HI.out.row]; rfl
        have hme := m_less pb wr _ q9
        obtain ⟨av, cv, ev, _, _, hsl⟩ := postR.own_rd HI.out.own
        simp only [List.cons.injEq, Value.slice.injEq, and_true, true_and] at ev
        obtain ⟨rfl, rfl⟩ := ev
        have HL := postLess_any (some ⟨g, 0, none⟩) ms cap j1 k y x wr hsl HY.out HX.out (by unfold maxLen; omega)
        clear hsl
        rw [← HN.out] at HL hme q9
        by_cases hlt : y.1 < x.1
        · rw [decide_eq_true hlt] at HL
          go_wp2_with fail
          refine HL.mono ?_
          rintro e wb ⟨rfl, bb⟩
          have HJ : Hid _ := downI_next HI.out bb
          clear HI HL hme q9 bb
          have q9 : wb.cell? ⟨pb, 0, none⟩ = some (.slice (some ⟨g, 0, none⟩) ms.length cap) := by rw [cell_of_row wb pb 0 _ _ (0, 0) HJ.out.row]; rfl
          have hme := m_swap pb wb _ q9
          have HL := postSwap_any S g cap k j1 ms x y wb HJ.out.own HX.out HY.out (by omega) (fun u hu => HH.out.2 u (HJ.out.perm.mem_iff.1 hu))
          rw [← HN.out] at HL hme q9
          go_wp2_with fail
          refine HL.mono ?_
          rintro e wc ⟨rfl, ow, ch⟩
          rw [HN.out] at ow
          have HK : Hid (DownI pb g cap i0 n S ls w wc j1 (swapL ms k j1 x y)) := downI_swap HJ.out HX.out HY.out (by omega) (by omega) (by omega) hlt (fun c u h0 hcn hpc hu => by have e : c = j1 := (by omega); subst e; have e2 := HY.out.symm.trans hu; cases e2; exact Int.le_refl _) (by omega) HH.out.1 ow ch
          clear HJ HL hme q9 ow ch
          go_wp2
          go_roundw
          case rel => exact ⟨j1, _, rfl, HK.out⟩
          case measure => simp [intOf]; omega
        · rw [decide_eq_false hlt] at HL
          go_wp2_with fail
          refine HL.mono ?_
          rintro e wb ⟨rfl, bb⟩
          have HJ : Hid _ := downI_next HI.out bb
          clear HI HL hme q9 bb
          go_wp2
          all_goals
            go_ret
            obtain ⟨c1, c2, c3, c4, c5, c6, c7, c8, c9⟩ := HJ.out
            have hmin : ∀ c u, 0 < c → c < n → (c - 1) / 2 = k → ms[c]? = some u → y.1 ≤ u.1 := fun c u h0 hcn hpc hu => by have e : c = j1 := (by omega); subst e; have e2 := HY.out.symm.trans hu; cases e2; exact Int.le_refl _
            refine ⟨ms, _, rfl, c3, c4, c5, heap_stop c6 (fun c h0 hcn hpc => ?_), c7, fun hb => c8 ?_, c9⟩
            · have hu : ms[c]? = some (ms[c]'(by omega)) := List.getElem?_eq_getElem (by omega)
              have := hmin c _ h0 hcn hpc hu
              rw [key_of HX.out, key_of hu]
              omega
            · simp at hb
              omega
end Go.Proofs.Ytfflmbpjolgghaa
