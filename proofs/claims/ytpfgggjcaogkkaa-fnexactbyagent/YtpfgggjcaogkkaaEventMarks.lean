
/- The contracts of the laws' own helpers over Events: marks, and whether they are held. Conditions: lengths that a machine can hold. -/
import Derived.Test.YtpfgggjcaogkkaaAppGen
import Derived.Test.YtpfgggjcaogkkaaEvFlat
namespace Go.Proofs.Ytpfgggjcaogkkaa
open Go.ChangeShapes Go.WideShapes Go.ChangeAt Go.RowKit
set_option linter.unusedVariables false

theorem chg_cellfev {S : Foot} {w W : World} {g o : Nat} {v : Value} (h : Chg S w W) (hg : S g) : Chg S w (W.setCell ⟨g, o, none⟩ v) :=
  ⟨h.os, h.tape, h.output, by have := h.size; simpa using this, fun k hk hn => by rw [heap_setCell_other _ ⟨g, o, none⟩ k _ (fun e => hn (by rw [e]; exact hg))]; exact h.block k hk hn⟩
theorem in64_fev {k : Int} (h0 : 0 ≤ k) (h1 : k ≤ 1152921504606846976) : In64 k := by constructor <;> omega
theorem cnt_fev (x : FevD) : fevM.cE x = (1 + (1 + (1 + (1 + (1 + (1 + (1 + (slcnt intM x.2.2.2.2.2.2.2.1 + 1)))))))) := rfl
theorem cnt_fevs (xs : List FevD) : xs.length ≤ slcnt fevM xs := by
  induction xs with
  | nil => exact Nat.zero_le _
  | cons x xs ih =>
    simp only [slcnt, List.map_cons, List.sum_cons, List.length_cons] at ih ⊢
    have := cnt_fev x
    omega

set_option maxHeartbeats 400000 in
theorem markEventS_nil (k : Int) (w : World) :
    Calls Try.prog 9 #[.slice none 0 0, .int .i64 k] w fun e' w' => e' = .returned (.int .i64 k) ∧ w' = w := by
  go_enter Try.func9, Try.ntmps9
  go_wp2
  refine wp_loop_rounds 1 ?_
  rw [rounds_succ]
  go_wp2
  go_ret
  exact ⟨rfl, rfl⟩

set_option maxHeartbeats 4000000 in
theorem markEventS_rep (S : Foot) (v : Value) (k : Int) (xs : List FevD) (w : World) (h0 : 0 ≤ k) (h1 : k ≤ 288230376151711744) (hm : slcnt fevM xs ≤ 288230376151711744) (h : fevsR.own w S [v] xs) :
    Calls Try.prog 9 #[v, .int .i64 k] w fun e' w' => e' = .returned (.int .i64 (k + slcnt fevM xs)) ∧ fevsR.own w' S [v] (slmark fevM k xs) ∧ Chg S w w' := by
  have hln := cnt_fevs xs
  rcases slown_form h with ⟨rfl, rfl⟩ | ⟨G, cap, rfl, hG⟩
  · exact (markEventS_nil k w).mono fun e w' ⟨e1, e2⟩ => ⟨by simpa [slcnt] using e1, by rw [e2]; exact h, by rw [e2]; exact Chg.refl _ _⟩
  go_enter Try.func9, Try.ntmps9
  go_wp2
  go_loopw [1, 5] (fun q i wr => ∃ j : Nat, j ≤ xs.length ∧ i = .int .i64 j ∧ q = .int .i64 (k + slcnt fevM (xs.take j)) ∧ fevsR.own wr S [.slice (some ⟨G, 0, none⟩) xs.length cap] (pmark fevM k xs j) ∧ Chg S w wr)
    (fun _ i _ => xs.length - (intOf i).toNat)
  case atStart => exact ⟨0, Nat.zero_le _, rfl, by simp [slcnt], by rw [pmark_zero]; exact h, Chg.refl _ _⟩
  case round =>
    obtain ⟨j, hj, rfl, rfl, ho, hs⟩ := hrel
    by_cases hlt : j < xs.length
    · have hlt' : (j : Int) < (xs.length : Int) := by omega
      obtain ⟨x, hx⟩ : ∃ x, xs[j]? = some x := ⟨_, List.getElem?_eq_getElem hlt⟩
      have HT : Hid (slcnt fevM (xs.take (j + 1)) = slcnt fevM (xs.take j) + (1 + (1 + (1 + (1 + (1 + (1 + (1 + (slcnt intM x.2.2.2.2.2.2.2.1 + 1))))))))) := slcnt_step (M := fevM) hx
      have hT : slcnt fevM (xs.take j) + (1 + (1 + (1 + (1 + (1 + (1 + (1 + (slcnt intM x.2.2.2.2.2.2.2.1 + 1)))))))) ≤ slcnt fevM xs := slcnt_get (M := fevM) hx
      have HPS : Hid _ := pmark_step (M := fevM) (k := k) hx
      obtain ⟨g, cap', cur, Sj, T, c, hv, hSg, hblk, hcur, hcl, hown, s1, s2, s3, s4, s5, close⟩ := slown_focus ho (pmark_at hx)
      simp only [Value.slice.injEq, Option.some.injEq, Addr.mk.injEq, and_true] at hv
      obtain ⟨rfl, hvx⟩ := hv
      obtain ⟨vd, rfl, -, -, -, -, -, -, -, -, hod⟩ := fev_own hown
      obtain ⟨av, cv, rfl⟩ := slown_val hod
      have q0 : wr.cell? ⟨G, j * 9, none⟩ = some (.int .i64 x.1) := by rw [cell_of_row wr G _ cur _ (0, 0) hblk]; exact hcur 0 (by decide)
      have q1 : wr.cell? ⟨G, j * 9 + 1, none⟩ = some (.int .i64 x.2.1) := by rw [cell_of_row wr G _ cur _ (0, 0) hblk]; exact hcur 1 (by decide)
      have q2 : wr.cell? ⟨G, j * 9 + 2, none⟩ = some (.int .i64 x.2.2.1) := by rw [cell_of_row wr G _ cur _ (0, 0) hblk]; exact hcur 2 (by decide)
      have q3 : wr.cell? ⟨G, j * 9 + 3, none⟩ = some (.int .i64 x.2.2.2.1) := by rw [cell_of_row wr G _ cur _ (0, 0) hblk]; exact hcur 3 (by decide)
      have q4 : wr.cell? ⟨G, j * 9 + 4, none⟩ = some (.int .i64 x.2.2.2.2.1) := by rw [cell_of_row wr G _ cur _ (0, 0) hblk]; exact hcur 4 (by decide)
      have q5 : wr.cell? ⟨G, j * 9 + 5, none⟩ = some (.int .i64 x.2.2.2.2.2.1) := by rw [cell_of_row wr G _ cur _ (0, 0) hblk]; exact hcur 5 (by decide)
      have q6 : wr.cell? ⟨G, j * 9 + 6, none⟩ = some (.int .i64 x.2.2.2.2.2.2.1) := by rw [cell_of_row wr G _ cur _ (0, 0) hblk]; exact hcur 6 (by decide)
      have q7 : wr.cell? ⟨G, j * 9 + 7, none⟩ = some (.slice av x.2.2.2.2.2.2.2.1.length cv) := by rw [cell_of_row wr G _ cur _ (0, 0) hblk]; exact hcur 7 (by decide)
      have q8 : wr.cell? ⟨G, j * 9 + 8, none⟩ = some (.int .i64 x.2.2.2.2.2.2.2.2) := by rw [cell_of_row wr G _ cur _ (0, 0) hblk]; exact hcur 8 (by decide)
      have r0 : wr.frozen? ⟨G, j * 9, none⟩ = false := frozen_of_row wr G _ _ _ hblk
      have r1 : wr.frozen? ⟨G, j * 9 + 1, none⟩ = false := frozen_of_row wr G _ _ _ hblk
      have r2 : wr.frozen? ⟨G, j * 9 + 2, none⟩ = false := frozen_of_row wr G _ _ _ hblk
      have r3 : wr.frozen? ⟨G, j * 9 + 3, none⟩ = false := frozen_of_row wr G _ _ _ hblk
      have r4 : wr.frozen? ⟨G, j * 9 + 4, none⟩ = false := frozen_of_row wr G _ _ _ hblk
      have r5 : wr.frozen? ⟨G, j * 9 + 5, none⟩ = false := frozen_of_row wr G _ _ _ hblk
      have r6 : wr.frozen? ⟨G, j * 9 + 6, none⟩ = false := frozen_of_row wr G _ _ _ hblk
      have r8 : wr.frozen? ⟨G, j * 9 + 8, none⟩ = false := frozen_of_row wr G _ _ _ hblk
      have hcs : j * 9 + 8 < cur.size := by
        have := hcur 8 (by decide)
        exact (Array.getElem?_eq_some_iff.1 (this.trans rfl)).1
      clear hvx hcl
      generalize hkk : k + (slcnt fevM (xs.take j) : Int) = kk at HPS ⊢
      have hk0 : 0 ≤ kk ∧ kk ≤ 576460752303423488 := by omega
      have hlg : G < wr.heap.size := (Array.getElem?_eq_some_iff.1 hblk).1
      have y0 := hblk
      have y1 := heap_setCell_same _ G (j * 9) _ _ (.int .i64 (kk)) y0
      have y2 := heap_setCell_same _ G (j * 9 + 1) _ _ (.int .i64 (kk + 1)) y1
      have y3 := heap_setCell_same _ G (j * 9 + 2) _ _ (.int .i64 (kk + 1 + 1)) y2
      have y4 := heap_setCell_same _ G (j * 9 + 3) _ _ (.int .i64 (kk + 1 + 1 + 1)) y3
      have y5 := heap_setCell_same _ G (j * 9 + 4) _ _ (.int .i64 (kk + 1 + 1 + 1 + 1)) y4
      have y6 := heap_setCell_same _ G (j * 9 + 5) _ _ (.int .i64 (kk + 1 + 1 + 1 + 1 + 1)) y5
      have y7 := heap_setCell_same _ G (j * 9 + 6) _ _ (.int .i64 (kk + 1 + 1 + 1 + 1 + 1 + 1)) y6
      have HX8 : Hid (∀ w' : World, w'.heap[G]? = some (.cells (((((((cur.setIfInBounds (j * 9) (.int .i64 (kk))).setIfInBounds (j * 9 + 1) (.int .i64 (kk + 1))).setIfInBounds (j * 9 + 2) (.int .i64 (kk + 1 + 1))).setIfInBounds (j * 9 + 3) (.int .i64 (kk + 1 + 1 + 1))).setIfInBounds (j * 9 + 4) (.int .i64 (kk + 1 + 1 + 1 + 1))).setIfInBounds (j * 9 + 5) (.int .i64 (kk + 1 + 1 + 1 + 1 + 1))).setIfInBounds (j * 9 + 6) (.int .i64 (kk + 1 + 1 + 1 + 1 + 1 + 1))) 38 (0, 0)) → ∃ t, w'.cell? ⟨G, j * 9 + 8, none⟩ = some t) := fun w' hb => ⟨.int .i64 x.2.2.2.2.2.2.2.2, by
        rw [cell_of_row w' G _ _ _ (0, 0) hb, Array.getElem?_setIfInBounds_ne (by omega), Array.getElem?_setIfInBounds_ne (by omega), Array.getElem?_setIfInBounds_ne (by omega), Array.getElem?_setIfInBounds_ne (by omega), Array.getElem?_setIfInBounds_ne (by omega), Array.getElem?_setIfInBounds_ne (by omega), Array.getElem?_setIfInBounds_ne (by omega)]
        exact hcur 8 (by decide)⟩
      have HB : Hid (∀ w', Chg Sj (((((((wr.setCell ⟨G, j * 9, none⟩ (.int .i64 (kk))).setCell ⟨G, j * 9 + 1, none⟩ (.int .i64 (kk + 1))).setCell ⟨G, j * 9 + 2, none⟩ (.int .i64 (kk + 1 + 1))).setCell ⟨G, j * 9 + 3, none⟩ (.int .i64 (kk + 1 + 1 + 1))).setCell ⟨G, j * 9 + 4, none⟩ (.int .i64 (kk + 1 + 1 + 1 + 1))).setCell ⟨G, j * 9 + 5, none⟩ (.int .i64 (kk + 1 + 1 + 1 + 1 + 1))).setCell ⟨G, j * 9 + 6, none⟩ (.int .i64 (kk + 1 + 1 + 1 + 1 + 1 + 1))) w' → w'.heap[G]? = some (.cells (((((((cur.setIfInBounds (j * 9) (.int .i64 (kk))).setIfInBounds (j * 9 + 1) (.int .i64 (kk + 1))).setIfInBounds (j * 9 + 2) (.int .i64 (kk + 1 + 1))).setIfInBounds (j * 9 + 3) (.int .i64 (kk + 1 + 1 + 1))).setIfInBounds (j * 9 + 4) (.int .i64 (kk + 1 + 1 + 1 + 1))).setIfInBounds (j * 9 + 5) (.int .i64 (kk + 1 + 1 + 1 + 1 + 1))).setIfInBounds (j * 9 + 6) (.int .i64 (kk + 1 + 1 + 1 + 1 + 1 + 1))) 38 (0, 0))) := fun w' hc => (hc.block G (by simpa using hlg) s4).trans y7
      have HC : Hid (∀ w', Chg Sj (((((((wr.setCell ⟨G, j * 9, none⟩ (.int .i64 (kk))).setCell ⟨G, j * 9 + 1, none⟩ (.int .i64 (kk + 1))).setCell ⟨G, j * 9 + 2, none⟩ (.int .i64 (kk + 1 + 1))).setCell ⟨G, j * 9 + 3, none⟩ (.int .i64 (kk + 1 + 1 + 1))).setCell ⟨G, j * 9 + 4, none⟩ (.int .i64 (kk + 1 + 1 + 1 + 1))).setCell ⟨G, j * 9 + 5, none⟩ (.int .i64 (kk + 1 + 1 + 1 + 1 + 1))).setCell ⟨G, j * 9 + 6, none⟩ (.int .i64 (kk + 1 + 1 + 1 + 1 + 1 + 1))) w' → intsR.own w' Sj [.slice av x.2.2.2.2.2.2.2.1.length cv] (slmark intM (kk + 1 + 1 + 1 + 1 + 1 + 1 + 1) x.2.2.2.2.2.2.2.1) → fevsR.own (w'.setCell ⟨G, j * 9 + 8, none⟩ (.int .i64 (kk + 1 + 1 + 1 + 1 + 1 + 1 + 1 + (slcnt intM x.2.2.2.2.2.2.2.1 : Int)))) S [.slice (some ⟨G, 0, none⟩) xs.length cap] (pmark fevM k xs (j + 1)) ∧ Chg S wr (w'.setCell ⟨G, j * 9 + 8, none⟩ (.int .i64 (kk + 1 + 1 + 1 + 1 + 1 + 1 + 1 + (slcnt intM x.2.2.2.2.2.2.2.1 : Int))))) := by
        intro w' hc ho'
        have z0 := HB.out w' hc
        have z1 := heap_setCell_same _ G (j * 9 + 8) _ _ (.int .i64 (kk + 1 + 1 + 1 + 1 + 1 + 1 + 1 + (slcnt intM x.2.2.2.2.2.2.2.1 : Int))) z0
        have c1 : Chg S wr (((((((wr.setCell ⟨G, j * 9, none⟩ (.int .i64 (kk))).setCell ⟨G, j * 9 + 1, none⟩ (.int .i64 (kk + 1))).setCell ⟨G, j * 9 + 2, none⟩ (.int .i64 (kk + 1 + 1))).setCell ⟨G, j * 9 + 3, none⟩ (.int .i64 (kk + 1 + 1 + 1))).setCell ⟨G, j * 9 + 4, none⟩ (.int .i64 (kk + 1 + 1 + 1 + 1))).setCell ⟨G, j * 9 + 5, none⟩ (.int .i64 (kk + 1 + 1 + 1 + 1 + 1))).setCell ⟨G, j * 9 + 6, none⟩ (.int .i64 (kk + 1 + 1 + 1 + 1 + 1 + 1))) := chg_cellfev (chg_cellfev (chg_cellfev (chg_cellfev (chg_cellfev (chg_cellfev (chg_cellfev (Chg.refl S wr) hSg) hSg) hSg) hSg) hSg) hSg) hSg
        have c2 := c1.trans (hc.mono s1)
        have c3 : Chg S w' (w'.setCell ⟨G, j * 9 + 8, none⟩ (.int .i64 (kk + 1 + 1 + 1 + 1 + 1 + 1 + 1 + (slcnt intM x.2.2.2.2.2.2.2.1 : Int)))) := chg_cellfev (Chg.refl S w') hSg
        refine ⟨?_, c2.trans c3⟩
        rw [← HPS.out]
        have ho2 : intsR.own (w'.setCell ⟨G, j * 9 + 8, none⟩ (.int .i64 (kk + 1 + 1 + 1 + 1 + 1 + 1 + 1 + (slcnt intM x.2.2.2.2.2.2.2.1 : Int)))) Sj [.slice av x.2.2.2.2.2.2.2.1.length cv] (slmark intM (kk + 1 + 1 + 1 + 1 + 1 + 1 + 1) x.2.2.2.2.2.2.2.1) := own_setC (ho') s4
        refine close (w'.setCell ⟨G, j * 9 + 8, none⟩ (.int .i64 (kk + 1 + 1 + 1 + 1 + 1 + 1 + 1 + (slcnt intM x.2.2.2.2.2.2.2.1 : Int)))) _ [.int .i64 (kk), .int .i64 (kk + 1), .int .i64 (kk + 1 + 1), .int .i64 (kk + 1 + 1 + 1), .int .i64 (kk + 1 + 1 + 1 + 1), .int .i64 (kk + 1 + 1 + 1 + 1 + 1), .int .i64 (kk + 1 + 1 + 1 + 1 + 1 + 1), .slice av x.2.2.2.2.2.2.2.1.length cv, .int .i64 (kk + 1 + 1 + 1 + 1 + 1 + 1 + 1 + (slcnt intM x.2.2.2.2.2.2.2.1 : Int))] _ Sj S z1 (by simp) ?_ ?_ ?_ (own_fev (in64_fev (by omega) (by omega)) (in64_fev (by omega) (by omega)) (in64_fev (by omega) (by omega)) (in64_fev (by omega) (by omega)) (in64_fev (by omega) (by omega)) (in64_fev (by omega) (by omega)) (in64_fev (by omega) (by omega)) (in64_fev (by omega) (by omega)) ho2) s3 s4 hSg s1 s2
        · intro i hi
          rw [show fevR.size = 9 from rfl] at hi
          rw [Array.getElem?_setIfInBounds_ne (by omega), Array.getElem?_setIfInBounds_ne (by omega), Array.getElem?_setIfInBounds_ne (by omega), Array.getElem?_setIfInBounds_ne (by omega), Array.getElem?_setIfInBounds_ne (by omega), Array.getElem?_setIfInBounds_ne (by omega), Array.getElem?_setIfInBounds_ne (by omega), Array.getElem?_setIfInBounds_ne (by omega)]
        · intro i hi
          rw [show fevR.size = 9 from rfl] at hi
          rw [show j * fevR.size = j * 9 from rfl]
          have h3 : i = 0 ∨ i = 1 ∨ i = 2 ∨ i = 3 ∨ i = 4 ∨ i = 5 ∨ i = 6 ∨ i = 7 ∨ i = 8 := by omega
          rcases h3 with rfl | rfl | rfl | rfl | rfl | rfl | rfl | rfl | rfl
          · rw [Array.getElem?_setIfInBounds_ne (by omega), Array.getElem?_setIfInBounds_ne (by omega), Array.getElem?_setIfInBounds_ne (by omega), Array.getElem?_setIfInBounds_ne (by omega), Array.getElem?_setIfInBounds_ne (by omega), Array.getElem?_setIfInBounds_ne (by omega), Array.getElem?_setIfInBounds_ne (by omega)]
            rw [Nat.add_zero]
            rw [Array.getElem?_setIfInBounds_self_of_lt (by first | omega | (simp; omega))]
            rfl
          · rw [Array.getElem?_setIfInBounds_ne (by omega), Array.getElem?_setIfInBounds_ne (by omega), Array.getElem?_setIfInBounds_ne (by omega), Array.getElem?_setIfInBounds_ne (by omega), Array.getElem?_setIfInBounds_ne (by omega), Array.getElem?_setIfInBounds_ne (by omega)]
            skip
            rw [Array.getElem?_setIfInBounds_self_of_lt (by first | omega | (simp; omega))]
            rfl
          · rw [Array.getElem?_setIfInBounds_ne (by omega), Array.getElem?_setIfInBounds_ne (by omega), Array.getElem?_setIfInBounds_ne (by omega), Array.getElem?_setIfInBounds_ne (by omega), Array.getElem?_setIfInBounds_ne (by omega)]
            skip
            rw [Array.getElem?_setIfInBounds_self_of_lt (by first | omega | (simp; omega))]
            rfl
          · rw [Array.getElem?_setIfInBounds_ne (by omega), Array.getElem?_setIfInBounds_ne (by omega), Array.getElem?_setIfInBounds_ne (by omega), Array.getElem?_setIfInBounds_ne (by omega)]
            skip
            rw [Array.getElem?_setIfInBounds_self_of_lt (by first | omega | (simp; omega))]
            rfl
          · rw [Array.getElem?_setIfInBounds_ne (by omega), Array.getElem?_setIfInBounds_ne (by omega), Array.getElem?_setIfInBounds_ne (by omega)]
            skip
            rw [Array.getElem?_setIfInBounds_self_of_lt (by first | omega | (simp; omega))]
            rfl
          · rw [Array.getElem?_setIfInBounds_ne (by omega), Array.getElem?_setIfInBounds_ne (by omega)]
            skip
            rw [Array.getElem?_setIfInBounds_self_of_lt (by first | omega | (simp; omega))]
            rfl
          · rw [Array.getElem?_setIfInBounds_ne (by omega)]
            skip
            rw [Array.getElem?_setIfInBounds_self_of_lt (by first | omega | (simp; omega))]
            rfl
          · rw [Array.getElem?_setIfInBounds_ne (by omega), Array.getElem?_setIfInBounds_ne (by omega), Array.getElem?_setIfInBounds_ne (by omega), Array.getElem?_setIfInBounds_ne (by omega), Array.getElem?_setIfInBounds_ne (by omega), Array.getElem?_setIfInBounds_ne (by omega), Array.getElem?_setIfInBounds_ne (by omega), Array.getElem?_setIfInBounds_ne (by omega)]
            exact hcur 7 (by decide)
          · skip
            skip
            rw [Array.getElem?_setIfInBounds_self_of_lt (by first | omega | (simp; omega))]
            rfl
        · intro i hi hil
          have hne : i ≠ G := fun e => s5 (by rw [← e]; exact hi)
          rw [heap_setCell_other _ ⟨G, j * 9 + 8, none⟩ i _ hne, hc.block i (by simpa using hil) (fun hx => s3 i hx hi), heap_setCell_other _ ⟨G, j * 9 + 6, none⟩ i _ hne, heap_setCell_other _ ⟨G, j * 9 + 5, none⟩ i _ hne, heap_setCell_other _ ⟨G, j * 9 + 4, none⟩ i _ hne, heap_setCell_other _ ⟨G, j * 9 + 3, none⟩ i _ hne, heap_setCell_other _ ⟨G, j * 9 + 2, none⟩ i _ hne, heap_setCell_other _ ⟨G, j * 9 + 1, none⟩ i _ hne, heap_setCell_other _ ⟨G, j * 9, none⟩ i _ hne]
      have HO : Hid (intsR.own (((((((wr.setCell ⟨G, j * 9, none⟩ (.int .i64 (kk))).setCell ⟨G, j * 9 + 1, none⟩ (.int .i64 (kk + 1))).setCell ⟨G, j * 9 + 2, none⟩ (.int .i64 (kk + 1 + 1))).setCell ⟨G, j * 9 + 3, none⟩ (.int .i64 (kk + 1 + 1 + 1))).setCell ⟨G, j * 9 + 4, none⟩ (.int .i64 (kk + 1 + 1 + 1 + 1))).setCell ⟨G, j * 9 + 5, none⟩ (.int .i64 (kk + 1 + 1 + 1 + 1 + 1))).setCell ⟨G, j * 9 + 6, none⟩ (.int .i64 (kk + 1 + 1 + 1 + 1 + 1 + 1))) Sj [.slice av x.2.2.2.2.2.2.2.1.length cv] x.2.2.2.2.2.2.2.1) := own_setC (own_setC (own_setC (own_setC (own_setC (own_setC (own_setC (hod) s4) s4) s4) s4) s4) s4) s4
      clear hx ho hown close hcur hblk s1 s2 s3 s4 s5 HPS h hod hcs hlg y0 y1 y2 y3 y4 y5 y6 y7
      generalize slcnt fevM (xs.take j) = TT at HT hT hkk
      go_wp2_with fail
      refine (markInt64S_rep Sj _ _ x.2.2.2.2.2.2.2.1 _ (by omega) (by omega) (by omega) HO.out).mono ?_
      rintro e w' ⟨rfl, own2, gr⟩
      have b9 := HB.out w' gr
      obtain ⟨ho2, gr2⟩ := HC.out w' gr own2
      have hs2 := hs.trans gr2
      have HF : Hid _ := And.intro ho2 hs2
      clear own2 gr gr2 HC HO ho2 hs2 HB q0 q1 q2 q3 q4 q5 q6 q7 q8 r0 r1 r2 r3 r4 r5 r6 r8
      obtain ⟨t8, ht8⟩ : ∃ t, w'.cell? ⟨G, j * 9 + 8, none⟩ = some t := HX8.out w' b9
      have r8 : w'.frozen? ⟨G, j * 9 + 8, none⟩ = false := frozen_of_row w' G _ _ _ b9
      clear b9
      go_wp2
      go_roundw
      case rel => exact ⟨j + 1, by omega, by go_num, by rw [HT.out]; congr 1; omega, HF.out.1, HF.out.2⟩
      case measure => simp [intOf]; omega
    · have hjn : j = xs.length := by omega
      subst hjn
      rw [List.take_length]
      rw [pmark_all] at ho
      go_wp2
      go_ret
      exact ⟨rfl, ho, hs⟩

set_option maxHeartbeats 2000000 in
set_option maxRecDepth 20000 in
theorem heldEventS_rep (a : Option Addr) (cap : Nat) (k : Int) (xs : List FevD) (w : World) (h0 : 0 ≤ k) (h1 : k ≤ 288230376151711744) (hm : slcnt fevM xs ≤ 288230376151711744) (h : SlRd fevR w a (slmark fevM k xs)) :
    Calls Try.prog 10 #[.slice a xs.length cap, .int .i64 k] w fun e' w' => e' = .returned (.int .i64 (k + slcnt fevM xs)) ∧ w' = w := by
  have hln := cnt_fevs xs
  go_enter Try.func10, Try.ntmps10
  go_wp2
  go_loop [1, 5] (fun q i => ∃ j : Nat, j ≤ xs.length ∧ i = .int .i64 j ∧ q = .int .i64 (k + slcnt fevM (xs.take j))) (fun _ i => xs.length - (intOf i).toNat)
  case atStart => exact ⟨0, Nat.zero_le _, rfl, by simp [slcnt]⟩
  case round =>
    obtain ⟨j, hj, rfl, rfl⟩ := hrel
    by_cases hlt : j < xs.length
    · have hlt' : (j : Int) < (xs.length : Int) := by omega
      obtain ⟨x, hx⟩ : ∃ x, xs[j]? = some x := ⟨_, List.getElem?_eq_getElem hlt⟩
      obtain ⟨b, off, cs, rfl, hrd, hcell⟩ := slrd_at h (slmark_at (M := fevM) (k := k) hx)
      obtain ⟨ad, cpw, rfl, -, -, -, -, -, -, -, -, -, -, hd3⟩ := fev_rd hrd
      have x0 := hcell 0 _ rfl
      rw [show off + (j * fevR.size + 0) = off + j * 9 from rfl] at x0
      have x1 := hcell 1 _ rfl
      rw [show off + (j * fevR.size + 1) = off + j * 9 + 1 from rfl] at x1
      have x2 := hcell 2 _ rfl
      rw [show off + (j * fevR.size + 2) = off + j * 9 + 2 from rfl] at x2
      have x3 := hcell 3 _ rfl
      rw [show off + (j * fevR.size + 3) = off + j * 9 + 3 from rfl] at x3
      have x4 := hcell 4 _ rfl
      rw [show off + (j * fevR.size + 4) = off + j * 9 + 4 from rfl] at x4
      have x5 := hcell 5 _ rfl
      rw [show off + (j * fevR.size + 5) = off + j * 9 + 5 from rfl] at x5
      have x6 := hcell 6 _ rfl
      rw [show off + (j * fevR.size + 6) = off + j * 9 + 6 from rfl] at x6
      have x7 := hcell 7 _ rfl
      rw [show off + (j * fevR.size + 7) = off + j * 9 + 7 from rfl] at x7
      have x8 := hcell 8 _ rfl
      rw [show off + (j * fevR.size + 8) = off + j * 9 + 8 from rfl] at x8
      have hml : (fevM.mE (k + slcnt fevM (xs.take j)) x).2.2.2.2.2.2.2.1.length = x.2.2.2.2.2.2.2.1.length := slmark_len _ _ _
      rw [hml] at x7
      have HR : Hid (SlRd intR w ad (slmark intM (k + slcnt fevM (xs.take j) + 1 + 1 + 1 + 1 + 1 + 1 + 1) x.2.2.2.2.2.2.2.1)) := hd3
      have y0 : w.cell? ⟨b, off + j * 9, none⟩ = some (.int .i64 (k + slcnt fevM (xs.take j))) := x0
      have y1 : w.cell? ⟨b, off + j * 9 + 1, none⟩ = some (.int .i64 (k + slcnt fevM (xs.take j) + 1)) := x1
      have y2 : w.cell? ⟨b, off + j * 9 + 2, none⟩ = some (.int .i64 (k + slcnt fevM (xs.take j) + 1 + 1)) := x2
      have y3 : w.cell? ⟨b, off + j * 9 + 3, none⟩ = some (.int .i64 (k + slcnt fevM (xs.take j) + 1 + 1 + 1)) := x3
      have y4 : w.cell? ⟨b, off + j * 9 + 4, none⟩ = some (.int .i64 (k + slcnt fevM (xs.take j) + 1 + 1 + 1 + 1)) := x4
      have y5 : w.cell? ⟨b, off + j * 9 + 5, none⟩ = some (.int .i64 (k + slcnt fevM (xs.take j) + 1 + 1 + 1 + 1 + 1)) := x5
      have y6 : w.cell? ⟨b, off + j * 9 + 6, none⟩ = some (.int .i64 (k + slcnt fevM (xs.take j) + 1 + 1 + 1 + 1 + 1 + 1)) := x6
      have y8 : w.cell? ⟨b, off + j * 9 + 8, none⟩ = some (.int .i64 (k + slcnt fevM (xs.take j) + 1 + 1 + 1 + 1 + 1 + 1 + 1 + (slcnt intM x.2.2.2.2.2.2.2.1 : Int))) := x8
      have HT : Hid (slcnt fevM (xs.take (j + 1)) = slcnt fevM (xs.take j) + (1 + (1 + (1 + (1 + (1 + (1 + (1 + (slcnt intM x.2.2.2.2.2.2.2.1 + 1))))))))) := slcnt_step (M := fevM) hx
      have hT : slcnt fevM (xs.take j) + (1 + (1 + (1 + (1 + (1 + (1 + (1 + (slcnt intM x.2.2.2.2.2.2.2.1 + 1)))))))) ≤ slcnt fevM xs := slcnt_get (M := fevM) hx
      clear hx hrd hcell h hml hd3 x0 x1 x2 x3 x4 x5 x6 x8
      generalize hkk : k + (slcnt fevM (xs.take j) : Int) = kk at HR y0 y1 y2 y3 y4 y5 y6 y8 ⊢
      generalize slcnt fevM (xs.take j) = TT at HT hT hkk
      have hk0 : 0 ≤ kk ∧ kk ≤ 576460752303423488 := by omega
      have hn : ¬ (kk + 1 + 1 + 1 + 1 + 1 + 1 + 1 + ((slcnt intM x.2.2.2.2.2.2.2.1 : Nat) : Int) < 0) := by omega
      skip
      skip
      all_goals
        go_wp2_with (go_at_call 17; refine (heldInt64S_rep _ _ _ x.2.2.2.2.2.2.2.1 _ (by omega) (by omega) (by omega) HR.out).mono ?_; rintro e w' ⟨rfl, rfl⟩)
        go_round
        case rel => exact ⟨j + 1, by omega, by go_num, by rw [HT.out]; congr 1; omega⟩
        case measure => simp [intOf]; omega
    · have hjn : j = xs.length := by omega
      subst hjn
      rw [List.take_length]
      go_wp2
      go_ret
      exact ⟨rfl, rfl⟩

end Go.Proofs.Ytpfgggjcaogkkaa
