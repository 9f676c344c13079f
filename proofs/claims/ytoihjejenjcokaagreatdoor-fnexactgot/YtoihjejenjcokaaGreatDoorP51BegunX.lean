import Derived.Test.YtoihjejenjcokaaGreatDoorP00Box
import Derived.Test.YtoihjejenjcokaaGreatDoorP49NewCore
import Derived.Test.YtoihjejenjcokaaGreatDoorP03OpensBase
import Derived.Test.YtoihjejenjcokaaGreatDoorP23OkSmall
import Derived.Test.YtoihjejenjcokaaGreatDoorP18SpecCopy
import Derived.Test.YtoihjejenjcokaaGreatDoorP25Impl12
namespace Go.Proofs.YtoihjejenjcokaaGreatDoor
set_option maxHeartbeats 4000000
open Go.ChangeShapes Go.WideShapes Go.ChangeAt Go.RowKit
set_option linter.unusedVariables false
theorem bd_op : Bd opM 4 := zDi zDh (zDi zDh (zDi zDh zDh))
theorem bd_msg : Bd zCD 7 := zDi zDh (zDi zDh (zDi zDh (zDi zDh (zDi zDh (zDi (bd_sl zDh) zDh)))))
theorem bv_msgs : Bv zHt 7 := bv_sl bd_msg
theorem bv_core : Bv zEe 10 := zEk (zEk (bv_sl (bd_sl bd_way)) zHV) (zEk (bv_sl bd_op) (zEk zKW (zEk zKW (zEk (zEk zKW (zEk zKW zHV)) zHV))))
theorem zMv {y : zAE} (h : zAZ y = true) : zEe.bk y ≤ 8388608 := by
 have hP := zB4 h
 have e : zEe.bk y = zBb.bk y.1 + (zDl.bk y.2.1 + (0 + (0 + ((0 + (0 + zBn.bk y.2.2.2.2.1.2.2)) + zBn.bk y.2.2.2.2.2)))) := rfl
 rw [e, zLi, zGj, zGj]
 have h1 : zBb.bk y.1 ≤ 1000 := ok_bk hP.ok
 have h2 : y.2.1.length ≤ 30 := hP.len
 have h3 := zDX h
 have h4 := zF0 h
 omega
theorem data_len {d : List Int} (h : zLW d = true) : d.length ≤ 2 := by
 unfold zLW at h
 rw [Bool.or_eq_true] at h
 rcases h with h | h
 ·rw [List.isEmpty_iff.1 h]; decide
 ·exact Nat.le_of_eq (zD4 h)
theorem zMw {l : List zB5} (h : zJv l) : zHt.bk l ≤ 8388608 := by
 obtain ⟨h1, h2⟩ := h
 match l, h1, h2 with
 | [], _, _ => decide
 | [m], _, h2 =>
  have hm := h2 m (List.mem_singleton.2 rfl)
  have e : zHt.bk [m] = 1 + (zCD.bk m + 0) := rfl
  rw [e, zGK, zGj]
  have hd : m.2.2.2.2.2.1.length ≤ 2 := by
   simp only [msgB, Bool.and_eq_true] at hm
   exact data_len hm.2.2.2.1
  omega
 | _ :: _ :: _, h1, _ => simp at h1
theorem zEH {k : Int} (h0 : 0 ≤ k) (h1 : k ≤ 1152921504606846976) : zBk k := by constructor <;> omega
theorem cnt_msg (x : zB5) : zCD.cE x = (1 + (1 + (1 + (1 + (1 + (zA1 zBx x.2.2.2.2.2.1 + 1)))))) := rfl
theorem zLy (xs : List zB5) : xs.length ≤ zA1 zCD xs := by
 induction xs with
 | nil => exact Nat.zero_le _
 | cons x xs ih =>
  simp only [zA1, List.map_cons, List.sum_cons, List.length_cons] at ih ⊢
  have := cnt_msg x
  omega
theorem zJF (k : Int) (w : World) :
    Calls Tryz.prog 15 #[.slice none 0 0, .int .i64 k] w fun e' w' => e' = .returned (.int .i64 k) ∧ w' = w := by
 go_enter Tryz.func15, Tryz.ntmps15
 go_wp2
 refine wp_loop_rounds 1 ?_
 rw [rounds_succ]
 go_wp2
 go_ret
 exact ⟨rfl, rfl⟩
theorem zJG (S : zAX) (v : Value) (k : Int) (xs : List zB5) (w : World) (h0 : 0 ≤ k) (h1 : k ≤ 288230376151711744) (hm : zA1 zCD xs ≤ 288230376151711744) (h : zBp.own w S [v] xs) :
    Calls Tryz.prog 15 #[v, .int .i64 k] w fun e' w' => e' = .returned (.int .i64 (k + zA1 zCD xs)) ∧ zBp.own w' S [v] (zBw zCD k xs) ∧ Chg S w w' := by
 have hln := zLy xs
 rcases zD9 h with ⟨rfl, rfl⟩ | ⟨G, cap, rfl, hG⟩
 ·exact (zJF k w).mono fun e w' ⟨e1, e2⟩ => ⟨by simpa [zA1] using e1, by rw [e2]; exact h, by rw [e2]; exact Chg.refl _ _⟩
 go_enter Tryz.func15, Tryz.ntmps15
 go_wp2
 go_loopw [1, 5] (fun q i wr => ∃ j : Nat, j ≤ xs.length ∧ i = .int .i64 j ∧ q = .int .i64 (k + zA1 zCD (xs.take j)) ∧ zBp.own wr S [.slice (some ⟨G, 0, none⟩) xs.length cap] (zEh zCD k xs j) ∧ Chg S w wr)
  (fun _ i _ => xs.length - (intOf i).toNat)
 case atStart => exact ⟨0, Nat.zero_le _, rfl, by simp [zA1], by rw [zE0]; exact h, Chg.refl _ _⟩
 case round =>
  obtain ⟨j, hj, rfl, rfl, ho, hs⟩ := hrel
  by_cases hlt : j < xs.length
  ·have hlt' : (j : Int) < (xs.length : Int) := by omega
   obtain ⟨x, hx⟩ : ∃ x, xs[j]? = some x := ⟨_, List.getElem?_eq_getElem hlt⟩
   have HT : Hid (zA1 zCD (xs.take (j + 1)) = zA1 zCD (xs.take j) + (1 + (1 + (1 + (1 + (1 + (zA1 zBx x.2.2.2.2.2.1 + 1))))))) := zCv (M := zCD) hx
   have hT : zA1 zCD (xs.take j) + (1 + (1 + (1 + (1 + (1 + (zA1 zBx x.2.2.2.2.2.1 + 1)))))) ≤ zA1 zCD xs := zCT (M := zCD) hx
   have HPS : Hid _ := zE1 (M := zCD) (k := k) hx
   obtain ⟨g, cap', cur, Sj, T, c, hv, hSg, hblk, hcur, hcl, hown, s1, s2, s3, s4, s5, close⟩ := zBH ho (zFg hx)
   simp only [Value.slice.injEq, Option.some.injEq, Addr.mk.injEq, and_true] at hv
   obtain ⟨rfl, hvx⟩ := hv
   obtain ⟨vd, rfl, -, -, -, -, -, -, hod⟩ := zKu hown
   obtain ⟨av, cv, rfl⟩ := zBD hod
   have q0 : wr.cell? ⟨G, j * 7, none⟩ = some (.int .i64 x.1) := by rw [cell_of_row wr G _ cur _ (0, 0) hblk]; exact hcur 0 (by decide)
   have q1 : wr.cell? ⟨G, j * 7 + 1, none⟩ = some (.int .i64 x.2.1) := by rw [cell_of_row wr G _ cur _ (0, 0) hblk]; exact hcur 1 (by decide)
   have q2 : wr.cell? ⟨G, j * 7 + 2, none⟩ = some (.int .i64 x.2.2.1) := by rw [cell_of_row wr G _ cur _ (0, 0) hblk]; exact hcur 2 (by decide)
   have q3 : wr.cell? ⟨G, j * 7 + 3, none⟩ = some (.int .i64 x.2.2.2.1) := by rw [cell_of_row wr G _ cur _ (0, 0) hblk]; exact hcur 3 (by decide)
   have q4 : wr.cell? ⟨G, j * 7 + 4, none⟩ = some (.int .i64 x.2.2.2.2.1) := by rw [cell_of_row wr G _ cur _ (0, 0) hblk]; exact hcur 4 (by decide)
   have q5 : wr.cell? ⟨G, j * 7 + 5, none⟩ = some (.slice av x.2.2.2.2.2.1.length cv) := by rw [cell_of_row wr G _ cur _ (0, 0) hblk]; exact hcur 5 (by decide)
   have q6 : wr.cell? ⟨G, j * 7 + 6, none⟩ = some (.int .i64 x.2.2.2.2.2.2) := by rw [cell_of_row wr G _ cur _ (0, 0) hblk]; exact hcur 6 (by decide)
   have r0 : wr.frozen? ⟨G, j * 7, none⟩ = false := frozen_of_row wr G _ _ _ hblk
   have r1 : wr.frozen? ⟨G, j * 7 + 1, none⟩ = false := frozen_of_row wr G _ _ _ hblk
   have r2 : wr.frozen? ⟨G, j * 7 + 2, none⟩ = false := frozen_of_row wr G _ _ _ hblk
   have r3 : wr.frozen? ⟨G, j * 7 + 3, none⟩ = false := frozen_of_row wr G _ _ _ hblk
   have r4 : wr.frozen? ⟨G, j * 7 + 4, none⟩ = false := frozen_of_row wr G _ _ _ hblk
   have r6 : wr.frozen? ⟨G, j * 7 + 6, none⟩ = false := frozen_of_row wr G _ _ _ hblk
   have hcs : j * 7 + 6 < cur.size := by
    have := hcur 6 (by decide)
    exact (Array.getElem?_eq_some_iff.1 (this.trans rfl)).1
   clear hvx hcl
   generalize hkk : k + (zA1 zCD (xs.take j) : Int) = kk at HPS ⊢
   have hk0 : 0 ≤ kk ∧ kk ≤ 576460752303423488 := by omega
   have hlg : G < wr.heap.size := (Array.getElem?_eq_some_iff.1 hblk).1
   have y0 := hblk
   have y1 := heap_setCell_same _ G (j * 7) _ _ (.int .i64 (kk)) y0
   have y2 := heap_setCell_same _ G (j * 7 + 1) _ _ (.int .i64 (kk + 1)) y1
   have y3 := heap_setCell_same _ G (j * 7 + 2) _ _ (.int .i64 (kk + 1 + 1)) y2
   have y4 := heap_setCell_same _ G (j * 7 + 3) _ _ (.int .i64 (kk + 1 + 1 + 1)) y3
   have y5 := heap_setCell_same _ G (j * 7 + 4) _ _ (.int .i64 (kk + 1 + 1 + 1 + 1)) y4
   have HX6 : Hid (∀ w' : World, w'.heap[G]? = some (.cells (((((cur.setIfInBounds (j * 7) (.int .i64 (kk))).setIfInBounds (j * 7 + 1) (.int .i64 (kk + 1))).setIfInBounds (j * 7 + 2) (.int .i64 (kk + 1 + 1))).setIfInBounds (j * 7 + 3) (.int .i64 (kk + 1 + 1 + 1))).setIfInBounds (j * 7 + 4) (.int .i64 (kk + 1 + 1 + 1 + 1))) 46 (0, 0)) → ∃ t, w'.cell? ⟨G, j * 7 + 6, none⟩ = some t) := fun w' hb => ⟨.int .i64 x.2.2.2.2.2.2, by
    rw [cell_of_row w' G _ _ _ (0, 0) hb, Array.getElem?_setIfInBounds_ne (by omega), Array.getElem?_setIfInBounds_ne (by omega), Array.getElem?_setIfInBounds_ne (by omega), Array.getElem?_setIfInBounds_ne (by omega), Array.getElem?_setIfInBounds_ne (by omega)]
    exact hcur 6 (by decide)⟩
   have HB : Hid (∀ w', Chg Sj (((((wr.setCell ⟨G, j * 7, none⟩ (.int .i64 (kk))).setCell ⟨G, j * 7 + 1, none⟩ (.int .i64 (kk + 1))).setCell ⟨G, j * 7 + 2, none⟩ (.int .i64 (kk + 1 + 1))).setCell ⟨G, j * 7 + 3, none⟩ (.int .i64 (kk + 1 + 1 + 1))).setCell ⟨G, j * 7 + 4, none⟩ (.int .i64 (kk + 1 + 1 + 1 + 1))) w' → w'.heap[G]? = some (.cells (((((cur.setIfInBounds (j * 7) (.int .i64 (kk))).setIfInBounds (j * 7 + 1) (.int .i64 (kk + 1))).setIfInBounds (j * 7 + 2) (.int .i64 (kk + 1 + 1))).setIfInBounds (j * 7 + 3) (.int .i64 (kk + 1 + 1 + 1))).setIfInBounds (j * 7 + 4) (.int .i64 (kk + 1 + 1 + 1 + 1))) 46 (0, 0))) := fun w' hc => (hc.block G (by simpa using hlg) s4).trans y5
   have HC : Hid (∀ w', Chg Sj (((((wr.setCell ⟨G, j * 7, none⟩ (.int .i64 (kk))).setCell ⟨G, j * 7 + 1, none⟩ (.int .i64 (kk + 1))).setCell ⟨G, j * 7 + 2, none⟩ (.int .i64 (kk + 1 + 1))).setCell ⟨G, j * 7 + 3, none⟩ (.int .i64 (kk + 1 + 1 + 1))).setCell ⟨G, j * 7 + 4, none⟩ (.int .i64 (kk + 1 + 1 + 1 + 1))) w' → zA5.own w' Sj [.slice av x.2.2.2.2.2.1.length cv] (zBw zBx (kk + 1 + 1 + 1 + 1 + 1) x.2.2.2.2.2.1) → zBp.own (w'.setCell ⟨G, j * 7 + 6, none⟩ (.int .i64 (kk + 1 + 1 + 1 + 1 + 1 + (zA1 zBx x.2.2.2.2.2.1 : Int)))) S [.slice (some ⟨G, 0, none⟩) xs.length cap] (zEh zCD k xs (j + 1)) ∧ Chg S wr (w'.setCell ⟨G, j * 7 + 6, none⟩ (.int .i64 (kk + 1 + 1 + 1 + 1 + 1 + (zA1 zBx x.2.2.2.2.2.1 : Int))))) := by
    intro w' hc ho'
    have z0 := HB.out w' hc
    have z1 := heap_setCell_same _ G (j * 7 + 6) _ _ (.int .i64 (kk + 1 + 1 + 1 + 1 + 1 + (zA1 zBx x.2.2.2.2.2.1 : Int))) z0
    have c1 : Chg S wr (((((wr.setCell ⟨G, j * 7, none⟩ (.int .i64 (kk))).setCell ⟨G, j * 7 + 1, none⟩ (.int .i64 (kk + 1))).setCell ⟨G, j * 7 + 2, none⟩ (.int .i64 (kk + 1 + 1))).setCell ⟨G, j * 7 + 3, none⟩ (.int .i64 (kk + 1 + 1 + 1))).setCell ⟨G, j * 7 + 4, none⟩ (.int .i64 (kk + 1 + 1 + 1 + 1))) := ⟨rfl, rfl, rfl, by simp, fun i hi hn => by
     have hne : i ≠ G := fun e => hn (by rw [e]; exact hSg)
     rw [heap_setCell_other _ ⟨G, j * 7 + 4, none⟩ i _ hne, heap_setCell_other _ ⟨G, j * 7 + 3, none⟩ i _ hne, heap_setCell_other _ ⟨G, j * 7 + 2, none⟩ i _ hne, heap_setCell_other _ ⟨G, j * 7 + 1, none⟩ i _ hne, heap_setCell_other _ ⟨G, j * 7, none⟩ i _ hne]⟩
    have c2 := c1.trans (hc.mono s1)
    have c3 : Chg S w' (w'.setCell ⟨G, j * 7 + 6, none⟩ (.int .i64 (kk + 1 + 1 + 1 + 1 + 1 + (zA1 zBx x.2.2.2.2.2.1 : Int)))) := ⟨rfl, rfl, rfl, by simp, fun i hi hn => by
     have hne : i ≠ G := fun e => hn (by rw [e]; exact hSg)
     rw [heap_setCell_other _ ⟨G, j * 7 + 6, none⟩ i _ hne]⟩
    refine ⟨?_, c2.trans c3⟩
    rw [← HPS.out]
    have ho2 : zA5.own (w'.setCell ⟨G, j * 7 + 6, none⟩ (.int .i64 (kk + 1 + 1 + 1 + 1 + 1 + (zA1 zBx x.2.2.2.2.2.1 : Int)))) Sj [.slice av x.2.2.2.2.2.1.length cv] (zBw zBx (kk + 1 + 1 + 1 + 1 + 1) x.2.2.2.2.2.1) := zAl (ho') s4
    refine close (w'.setCell ⟨G, j * 7 + 6, none⟩ (.int .i64 (kk + 1 + 1 + 1 + 1 + 1 + (zA1 zBx x.2.2.2.2.2.1 : Int)))) _ [.int .i64 (kk), .int .i64 (kk + 1), .int .i64 (kk + 1 + 1), .int .i64 (kk + 1 + 1 + 1), .int .i64 (kk + 1 + 1 + 1 + 1), .slice av x.2.2.2.2.2.1.length cv, .int .i64 (kk + 1 + 1 + 1 + 1 + 1 + (zA1 zBx x.2.2.2.2.2.1 : Int))] _ Sj S z1 (by simp) ?_ ?_ ?_ (zBR (zEH (by omega) (by omega)) (zEH (by omega) (by omega)) (zEH (by omega) (by omega)) (zEH (by omega) (by omega)) (zEH (by omega) (by omega)) (zEH (by omega) (by omega)) ho2) s3 s4 hSg s1 s2
    ·intro i hi
     rw [show zBy.size = 7 from rfl] at hi
     rw [Array.getElem?_setIfInBounds_ne (by omega), Array.getElem?_setIfInBounds_ne (by omega), Array.getElem?_setIfInBounds_ne (by omega), Array.getElem?_setIfInBounds_ne (by omega), Array.getElem?_setIfInBounds_ne (by omega), Array.getElem?_setIfInBounds_ne (by omega)]
    ·intro i hi
     rw [show zBy.size = 7 from rfl] at hi
     rw [show j * zBy.size = j * 7 from rfl]
     have h3 : i = 0 ∨ i = 1 ∨ i = 2 ∨ i = 3 ∨ i = 4 ∨ i = 5 ∨ i = 6 := by omega
     rcases h3 with rfl | rfl | rfl | rfl | rfl | rfl | rfl
     ·rw [Array.getElem?_setIfInBounds_ne (by omega), Array.getElem?_setIfInBounds_ne (by omega), Array.getElem?_setIfInBounds_ne (by omega), Array.getElem?_setIfInBounds_ne (by omega), Array.getElem?_setIfInBounds_ne (by omega)]
      rw [Nat.add_zero]
      rw [Array.getElem?_setIfInBounds_self_of_lt (by first | omega | (simp; omega))]
      rfl
     ·rw [Array.getElem?_setIfInBounds_ne (by omega), Array.getElem?_setIfInBounds_ne (by omega), Array.getElem?_setIfInBounds_ne (by omega), Array.getElem?_setIfInBounds_ne (by omega)]
      skip
      rw [Array.getElem?_setIfInBounds_self_of_lt (by first | omega | (simp; omega))]
      rfl
     ·rw [Array.getElem?_setIfInBounds_ne (by omega), Array.getElem?_setIfInBounds_ne (by omega), Array.getElem?_setIfInBounds_ne (by omega)]
      skip
      rw [Array.getElem?_setIfInBounds_self_of_lt (by first | omega | (simp; omega))]
      rfl
     ·rw [Array.getElem?_setIfInBounds_ne (by omega), Array.getElem?_setIfInBounds_ne (by omega)]
      skip
      rw [Array.getElem?_setIfInBounds_self_of_lt (by first | omega | (simp; omega))]
      rfl
     ·rw [Array.getElem?_setIfInBounds_ne (by omega)]
      skip
      rw [Array.getElem?_setIfInBounds_self_of_lt (by first | omega | (simp; omega))]
      rfl
     ·rw [Array.getElem?_setIfInBounds_ne (by omega), Array.getElem?_setIfInBounds_ne (by omega), Array.getElem?_setIfInBounds_ne (by omega), Array.getElem?_setIfInBounds_ne (by omega), Array.getElem?_setIfInBounds_ne (by omega), Array.getElem?_setIfInBounds_ne (by omega)]
      exact hcur 5 (by decide)
     ·skip
      skip
      rw [Array.getElem?_setIfInBounds_self_of_lt (by first | omega | (simp; omega))]
      rfl
    ·intro i hi hil
     have hne : i ≠ G := fun e => s5 (by rw [← e]; exact hi)
     rw [heap_setCell_other _ ⟨G, j * 7 + 6, none⟩ i _ hne, hc.block i (by simpa using hil) (fun hx => s3 i hx hi), heap_setCell_other _ ⟨G, j * 7 + 4, none⟩ i _ hne, heap_setCell_other _ ⟨G, j * 7 + 3, none⟩ i _ hne, heap_setCell_other _ ⟨G, j * 7 + 2, none⟩ i _ hne, heap_setCell_other _ ⟨G, j * 7 + 1, none⟩ i _ hne, heap_setCell_other _ ⟨G, j * 7, none⟩ i _ hne]
   have HO : Hid (zA5.own (((((wr.setCell ⟨G, j * 7, none⟩ (.int .i64 (kk))).setCell ⟨G, j * 7 + 1, none⟩ (.int .i64 (kk + 1))).setCell ⟨G, j * 7 + 2, none⟩ (.int .i64 (kk + 1 + 1))).setCell ⟨G, j * 7 + 3, none⟩ (.int .i64 (kk + 1 + 1 + 1))).setCell ⟨G, j * 7 + 4, none⟩ (.int .i64 (kk + 1 + 1 + 1 + 1))) Sj [.slice av x.2.2.2.2.2.1.length cv] x.2.2.2.2.2.1) := zAl (zAl (zAl (zAl (zAl (hod) s4) s4) s4) s4) s4
   clear hx ho hown close hcur hblk s1 s2 s3 s4 s5 HPS h hod hcs hlg y0 y1 y2 y3 y4 y5
   generalize zA1 zCD (xs.take j) = TT at HT hT hkk
   go_wp2_with fail
   refine (zCi Sj _ _ x.2.2.2.2.2.1 _ (by omega) (by omega) (by omega) HO.out).mono ?_
   rintro e w' ⟨rfl, own2, gr⟩
   have b9 := HB.out w' gr
   obtain ⟨ho2, gr2⟩ := HC.out w' gr own2
   have hs2 := hs.trans gr2
   have HF : Hid _ := And.intro ho2 hs2
   clear own2 gr gr2 HC HO ho2 hs2 HB q0 q1 q2 q3 q4 q5 q6 r0 r1 r2 r3 r4 r6
   obtain ⟨t6, ht6⟩ : ∃ t, w'.cell? ⟨G, j * 7 + 6, none⟩ = some t := HX6.out w' b9
   have r6 : w'.frozen? ⟨G, j * 7 + 6, none⟩ = false := frozen_of_row w' G _ _ _ b9
   clear b9
   go_wp2
   go_roundw
   case rel => exact ⟨j + 1, by omega, by go_num, by rw [HT.out]; congr 1; omega, HF.out.1, HF.out.2⟩
   case measure => simp [intOf]; omega
  ·have hjn : j = xs.length := by omega
   subst hjn
   rw [List.take_length]
   rw [zFf] at ho
   go_wp2
   go_ret
   exact ⟨rfl, ho, hs⟩
theorem zJH (a : Option Addr) (cap : Nat) (k : Int) (xs : List zB5) (w : World) (h0 : 0 ≤ k) (h1 : k ≤ 288230376151711744) (hm : zA1 zCD xs ≤ 288230376151711744) (h : zBh zBy w a (zBw zCD k xs)) :
    Calls Tryz.prog 17 #[.slice a xs.length cap, .int .i64 k] w fun e' w' => e' = .returned (.int .i64 (k + zA1 zCD xs)) ∧ w' = w := by
 have hln := zLy xs
 go_enter Tryz.func17, Tryz.ntmps17
 go_wp2
 go_loop [1, 5] (fun q i => ∃ j : Nat, j ≤ xs.length ∧ i = .int .i64 j ∧ q = .int .i64 (k + zA1 zCD (xs.take j))) (fun _ i => xs.length - (intOf i).toNat)
 case atStart => exact ⟨0, Nat.zero_le _, rfl, by simp [zA1]⟩
 case round =>
  obtain ⟨j, hj, rfl, rfl⟩ := hrel
  by_cases hlt : j < xs.length
  ·have hlt' : (j : Int) < (xs.length : Int) := by omega
   obtain ⟨x, hx⟩ : ∃ x, xs[j]? = some x := ⟨_, List.getElem?_eq_getElem hlt⟩
   obtain ⟨b, off, cs, rfl, hrd, hcell⟩ := zBG h (zD7 (M := zCD) (k := k) hx)
   obtain ⟨ad, cpw, rfl, -, -, -, -, -, -, -, -, hd3⟩ := zBB hrd
   obtain ⟨x0, x1, x2, x3, x4, x5, x6⟩ := cellsAt7 hcell rfl
   have hml : (zCD.mE (k + zA1 zCD (xs.take j)) x).2.2.2.2.2.1.length = x.2.2.2.2.2.1.length := zBF _ _ _
   rw [hml] at x5
   have HR : Hid (zBh zBC w ad (zBw zBx (k + zA1 zCD (xs.take j) + 1 + 1 + 1 + 1 + 1) x.2.2.2.2.2.1)) := hd3
   have y0 : w.cell? ⟨b, off + j * 7, none⟩ = some (.int .i64 (k + zA1 zCD (xs.take j))) := x0
   have y1 : w.cell? ⟨b, off + j * 7 + 1, none⟩ = some (.int .i64 (k + zA1 zCD (xs.take j) + 1)) := x1
   have y2 : w.cell? ⟨b, off + j * 7 + 2, none⟩ = some (.int .i64 (k + zA1 zCD (xs.take j) + 1 + 1)) := x2
   have y3 : w.cell? ⟨b, off + j * 7 + 3, none⟩ = some (.int .i64 (k + zA1 zCD (xs.take j) + 1 + 1 + 1)) := x3
   have y4 : w.cell? ⟨b, off + j * 7 + 4, none⟩ = some (.int .i64 (k + zA1 zCD (xs.take j) + 1 + 1 + 1 + 1)) := x4
   have y6 : w.cell? ⟨b, off + j * 7 + 6, none⟩ = some (.int .i64 (k + zA1 zCD (xs.take j) + 1 + 1 + 1 + 1 + 1 + (zA1 zBx x.2.2.2.2.2.1 : Int))) := x6
   have HT : Hid (zA1 zCD (xs.take (j + 1)) = zA1 zCD (xs.take j) + (1 + (1 + (1 + (1 + (1 + (zA1 zBx x.2.2.2.2.2.1 + 1))))))) := zCv (M := zCD) hx
   have hT : zA1 zCD (xs.take j) + (1 + (1 + (1 + (1 + (1 + (zA1 zBx x.2.2.2.2.2.1 + 1)))))) ≤ zA1 zCD xs := zCT (M := zCD) hx
   clear hx hrd hcell h hml hd3 x0 x1 x2 x3 x4 x6
   generalize hkk : k + (zA1 zCD (xs.take j) : Int) = kk at HR y0 y1 y2 y3 y4 y6 ⊢
   generalize zA1 zCD (xs.take j) = TT at HT hT hkk
   have hk0 : 0 ≤ kk ∧ kk ≤ 576460752303423488 := by omega
   have hn : ¬ (kk + 1 + 1 + 1 + 1 + 1 + ((zA1 zBx x.2.2.2.2.2.1 : Nat) : Int) < 0) := by omega
   go_wp2_with (go_at_call 48; refine (zC6 _ _ _ x.2.2.2.2.2.1 _ (by omega) (by omega) (by omega) HR.out).mono ?_; rintro e w' ⟨rfl, rfl⟩)
   go_round
   case rel => exact ⟨j + 1, by omega, by go_num, by rw [HT.out]; congr 1; omega⟩
   case measure => simp [intOf]; omega
  ·have hjn : j = xs.length := by omega
   subst hjn
   rw [List.take_length]
   go_wp2
   go_ret
   exact ⟨rfl, rfl⟩
theorem zKM (S : zAX) (f0 f1 f2 f3 f4 f6 : Int) (v : Value) (k : Int) (d : List Int) (w : World) (h0 : 0 ≤ k) (h1 : k ≤ 288230376151711744) (hm : zA1 zBx d ≤ 288230376151711744) (h : zA5.own w S [v] d) :
    Calls Tryz.prog 14 #[.agg #[.int .i64 f0, .int .i64 f1, .int .i64 f2, .int .i64 f3, .int .i64 f4, v, .int .i64 f6], .int .i64 k] w fun e' w' => e' = .returned (.int .i64 (k + zA1 zBx d)) ∧ zA5.own w' S [v] (zBw zBx k d) ∧ Chg S w w' := by
 obtain ⟨av, cv, rfl⟩ := zBD h
 have h' := zBQ (.cells #[.int .i64 f0, .int .i64 f1, .int .i64 f2, .int .i64 f3, .int .i64 f4, .slice av d.length cv, .int .i64 f6] 46) (zBM h)
 have B0 := zAf w (.cells #[.int .i64 f0, .int .i64 f1, .int .i64 f2, .int .i64 f3, .int .i64 f4, .slice av d.length cv, .int .i64 f6] 46)
 have HC := zCi (Old w S) (.slice av d.length cv) k d _ h0 (by omega) (by omega) h'
 have HB : Hid _ := B0
 clear h h' B0
 go_enter Tryz.func14, Tryz.ntmps14
 go_wp2_with fail
 refine HC.mono ?_
 rintro e w' ⟨rfl, o2, c2⟩
 have HX : Hid _ := And.intro o2 c2
 clear o2 c2 HC
 go_wp2
 go_ret
 exact ⟨rfl, zA5.own_mono HX.out.1 zB6, ((zA9 HB.out).trans HX.out.2).mono zB6⟩
theorem msg_shape {w : World} {cs : List Value} {x : zB5} (h : zBy.rd w cs x) : ∃ (ga : Option Addr) (gc : Nat), cs = [.int .i64 x.1, .int .i64 x.2.1, .int .i64 x.2.2.1, .int .i64 x.2.2.2.1, .int .i64 x.2.2.2.2.1, .slice ga x.2.2.2.2.2.1.length gc, .int .i64 x.2.2.2.2.2.2] := by
 obtain ⟨a, cap, e, -⟩ := zBB h
 exact ⟨a, cap, e⟩
theorem msg_cV (x : zB5) : zCD.cV x = zA1 zBx x.2.2.2.2.2.1 := by show 0 + (0 + (0 + (0 + (0 + (zA1 zBx x.2.2.2.2.2.1 + 0))))) = _; omega
theorem msg_mV (k : Int) (x : zB5) : zCD.mV k x = (x.1, x.2.1, x.2.2.1, x.2.2.2.1, x.2.2.2.2.1, zBw zBx k x.2.2.2.2.2.1, x.2.2.2.2.2.2) := by
 show (x.1, x.2.1, x.2.2.1, x.2.2.2.1, x.2.2.2.2.1, zBw zBx (k + 0 + 0 + 0 + 0 + 0) x.2.2.2.2.2.1, x.2.2.2.2.2.2) = _
 rw [Int.add_zero, Int.add_zero, Int.add_zero, Int.add_zero, Int.add_zero]
theorem szMsg_u : SzC 5 zBy zCD zAM := by
 intro cs x left w h h0 h1
 obtain ⟨a, cap, rfl, i0, i1, i2, i3, i4, i6, l1, l2, l3⟩ := zBB h
 exact zMX x.1 x.2.1 x.2.2.1 x.2.2.2.1 x.2.2.2.2.1 x.2.2.2.2.2.2 x.2.2.2.2.2.1 a cap left w h0 h1 (Nat.le_trans l1 l2)
theorem toMsg_u : ToC 8 zBy zCD zAM := by
 intro cs x w h hm
 obtain ⟨a, cap, rfl, i0, i1, i2, i3, i4, i6, l1, l2, l3⟩ := zBB h
 refine (zMY x.1 x.2.1 x.2.2.1 x.2.2.2.1 x.2.2.2.2.1 x.2.2.2.2.2.2 x.2.2.2.2.2.1 a cap w i0 i1 i2 i3 i4 i6 l3 (by rw [← zGK]; exact hm)).mono ?_
 rintro e w' ⟨av, cv, rfl, mm⟩
 exact ⟨_, rfl, mm⟩
theorem eqMsg_u : EqC 12 zBy zCD zAM := by
 intro cs ds x w h k hm
 obtain ⟨a, cap, rfl, i0, i1, i2, i3, i4, i6, l1, l2, l3⟩ := zBB h
 obtain ⟨b, cp, rfl, -, -, -, -, -, -, k1, k2, k3⟩ := zBB k
 exact zJq x.1 x.2.1 x.2.2.1 x.2.2.2.1 x.2.2.2.2.1 x.2.2.2.2.2.2 x.2.2.2.2.2.1 a b cap cp w l3 k3 (by rw [← zGK]; have : lot = 4398046511104 := rfl; omega)
theorem mkMsg_u : MkC 14 zBy zCD zAM := by
 intro S cs x k w h h0 hm hb
 obtain ⟨v, rfl, i0, i1, i2, i3, i4, i6, o⟩ := zKu h
 have e : lot = 4398046511104 := rfl
 rw [msg_cV] at hm ⊢
 rw [msg_mV]
 refine (zKM S x.1 x.2.1 x.2.2.1 x.2.2.2.1 x.2.2.2.2.1 x.2.2.2.2.2.2 v k x.2.2.2.2.2.1 w h0 (by omega) (by omega) o).mono ?_
 rintro e w' ⟨q, r, s⟩
 exact ⟨q, zBR i0 i1 i2 i3 i4 i6 r, s⟩
theorem bv_msg (x : zB5) : zCD.cV x ≤ 7 * zCD.bk x := by
 rw [msg_cV, zGK]
 have h : zA1 zBx x.2.2.2.2.2.1 ≤ 1 * zBn.bk x.2.2.2.2.2.1 := zHV x.2.2.2.2.2.1
 omega
theorem got_small (x : zAE) (id : Int) (m : zB5) : zEe.bk x ≤ 1048576 → zCD.bk m ≤ 1048576 → zEe.bk (zMu x id m).1 ≤ 8388608 ∧ zHt.bk (zMu x id m).2.1 ≤ 8388608 := by
 intro _ _
 unfold zMu
 split
 ·rename_i h
  rw [Bool.and_eq_true] at h
  have hid : 0 ≤ id ∧ id ≤ 3 := by simpa [zAQ] using h.2
  obtain ⟨q1, q2, -⟩ := zLp (zB4 h.1) hid m
  exact ⟨zMv (zI8.2 q1), zMw q2⟩
 ·exact ⟨by decide, by decide⟩
theorem msg_data {m : zB5} (h : zCD.bk m ≤ 1048576) : m.2.2.2.2.2.1.length ≤ 1048576 := by
 rw [zGK, zGj] at h
 exact h
theorem below_set9 {V w : World} {D g : Nat} {c0 c1 c2 c3 c4 c5 c6 c7 c8 : Value} (h : Below D V w) (hg : D ≤ g) : Below D V (((((((((w.setCell ⟨g, 0, none⟩ c0).setCell ⟨g, 1, none⟩ c1).setCell ⟨g, 2, none⟩ c2).setCell ⟨g, 3, none⟩ c3).setCell ⟨g, 4, none⟩ c4).setCell ⟨g, 5, none⟩ c5).setCell ⟨g, 6, none⟩ c6).setCell ⟨g, 7, none⟩ c7).setCell ⟨g, 8, none⟩ c8) :=
 zAq (zAq (zAq (zAq (zAq (zAq (zAq (zAq (zAq h hg) hg) hg) hg) hg) hg) hg) hg) hg
def RegS (V : World) (y : zAE) (l : List zB5) (k : Int) (p q r : Value) (wx : World) : Prop := ∃ (zb lo hi : Nat) (ga gb ha ia ja sa : Option Addr) (gc gd hc ic jc sc : Nat), p = .pointer (some ⟨zb, 0, none⟩) ∧ q = .slice sa l.length sc ∧ r = .int .i64 k ∧ V.heap.size ≤ zb ∧ V.heap.size ≤ lo ∧ (zb < lo ∨ hi ≤ zb) ∧ wx.heap[zb]? = some (.cells #[.slice ga y.1.1.length gc, .slice gb y.1.2.length gd, .slice ha y.2.1.length hc, .int .i64 y.2.2.1, .int .i64 y.2.2.2.1, .int .i64 y.2.2.2.2.1.1, .int .i64 y.2.2.2.2.1.2.1, .slice ia y.2.2.2.2.1.2.2.length ic, .slice ja y.2.2.2.2.2.length jc] 41 (0, 0)) ∧ zCp zAn lo hi wx [.slice ga y.1.1.length gc, .slice gb y.1.2.length gd, .slice ha y.2.1.length hc, .int .i64 y.2.2.1, .int .i64 y.2.2.2.1, .int .i64 y.2.2.2.2.1.1, .int .i64 y.2.2.2.2.1.2.1, .slice ia y.2.2.2.2.1.2.2.length ic, .slice ja y.2.2.2.2.2.length jc] y ∧ zCp zBp lo hi wx [.slice sa l.length sc] l ∧ Below V.heap.size V wx
theorem RegS_a {V cur wf : World} {y : zAE} {l : List zB5} {k : Int} {ga gb ha ia ja sa : Option Addr} {gc gd hc ic jc sc : Nat} (o0 : zAn.own wf (rng cur.heap.size wf.heap.size) [.slice ga y.1.1.length gc, .slice gb y.1.2.length gd, .slice ha y.2.1.length hc, .int .i64 y.2.2.1, .int .i64 y.2.2.2.1, .int .i64 y.2.2.2.2.1.1, .int .i64 y.2.2.2.2.1.2.1, .slice ia y.2.2.2.2.1.2.2.length ic, .slice ja y.2.2.2.2.2.length jc] y) (o1 : zBp.own wf (rng cur.heap.size wf.heap.size) [.slice sa l.length sc] l) (hcur : V.heap.size ≤ cur.heap.size) (hb : Below V.heap.size V wf) :
    RegS V y l k (.pointer (some ⟨wf.heap.size, 0, none⟩)) (.slice sa l.length sc) (.int .i64 k) (wf.alloc (.cells #[.slice ga y.1.1.length gc, .slice gb y.1.2.length gd, .slice ha y.2.1.length hc, .int .i64 y.2.2.1, .int .i64 y.2.2.2.1, .int .i64 y.2.2.2.2.1.1, .int .i64 y.2.2.2.2.1.2.1, .slice ia y.2.2.2.2.1.2.2.length ic, .slice ja y.2.2.2.2.2.length jc] 41)) := by
 have bb := zAf wf (.cells #[.slice ga y.1.1.length gc, .slice gb y.1.2.length gd, .slice ha y.2.1.length hc, .int .i64 y.2.2.1, .int .i64 y.2.2.2.1, .int .i64 y.2.2.2.2.1.1, .int .i64 y.2.2.2.2.1.2.1, .slice ia y.2.2.2.2.1.2.2.length ic, .slice ja y.2.2.2.2.2.length jc] 41)
 exact ⟨wf.heap.size, cur.heap.size, wf.heap.size, ga, gb, ha, ia, ja, sa, gc, gd, hc, ic, jc, sc, rfl, rfl, rfl, hb.size, hcur, .inr (Nat.le_refl _), zAy _ _, ⟨zAn.own_keep o0 (zAh bb), by rw [zAp]; omega⟩, ⟨zBp.own_keep o1 (zAh bb), by rw [zAp]; omega⟩, zAb hb bb⟩
theorem RegS_b {V cur wf : World} {zb : Nat} {y : zAE} {l : List zB5} {k : Int} {ga gb ha ia ja sa : Option Addr} {gc gd hc ic jc sc : Nat} {z0 z1 z2 z3 z4 z5 z6 z7 z8 : Value} (z : wf.heap[zb]? = some (.cells #[z0, z1, z2, z3, z4, z5, z6, z7, z8] 41 (0, 0))) (o0 : zAn.own wf (rng cur.heap.size wf.heap.size) [.slice ga y.1.1.length gc, .slice gb y.1.2.length gd, .slice ha y.2.1.length hc, .int .i64 y.2.2.1, .int .i64 y.2.2.2.1, .int .i64 y.2.2.2.2.1.1, .int .i64 y.2.2.2.2.1.2.1, .slice ia y.2.2.2.2.1.2.2.length ic, .slice ja y.2.2.2.2.2.length jc] y) (o1 : zBp.own wf (rng cur.heap.size wf.heap.size) [.slice sa l.length sc] l) (h1 : V.heap.size ≤ zb) (h2 : zb < cur.heap.size) (hcur : V.heap.size ≤ cur.heap.size) (hb : Below V.heap.size V wf) :
    RegS V y l k (.pointer (some ⟨zb, 0, none⟩)) (.slice sa l.length sc) (.int .i64 k) (((((((((wf.setCell ⟨zb, 0, none⟩ (.slice ga y.1.1.length gc)).setCell ⟨zb, 1, none⟩ (.slice gb y.1.2.length gd)).setCell ⟨zb, 2, none⟩ (.slice ha y.2.1.length hc)).setCell ⟨zb, 3, none⟩ (.int .i64 y.2.2.1)).setCell ⟨zb, 4, none⟩ (.int .i64 y.2.2.2.1)).setCell ⟨zb, 5, none⟩ (.int .i64 y.2.2.2.2.1.1)).setCell ⟨zb, 6, none⟩ (.int .i64 y.2.2.2.2.1.2.1)).setCell ⟨zb, 7, none⟩ (.slice ia y.2.2.2.2.1.2.2.length ic)).setCell ⟨zb, 8, none⟩ (.slice ja y.2.2.2.2.2.length jc)) := by
 have FS : (zAo wf zb 0 [.slice ga y.1.1.length gc, .slice gb y.1.2.length gd, .slice ha y.2.1.length hc, .int .i64 y.2.2.1, .int .i64 y.2.2.2.1, .int .i64 y.2.2.2.2.1.1, .int .i64 y.2.2.2.2.1.2.1, .slice ia y.2.2.2.2.1.2.2.length ic, .slice ja y.2.2.2.2.2.length jc]).heap.size = wf.heap.size := zAj _ _ _
 have FQ : RegS V y l k (.pointer (some ⟨zb, 0, none⟩)) (.slice sa l.length sc) (.int .i64 k) (zAo wf zb 0 [.slice ga y.1.1.length gc, .slice gb y.1.2.length gd, .slice ha y.2.1.length hc, .int .i64 y.2.2.1, .int .i64 y.2.2.2.1, .int .i64 y.2.2.2.2.1.1, .int .i64 y.2.2.2.2.1.2.1, .slice ia y.2.2.2.2.1.2.2.length ic, .slice ja y.2.2.2.2.2.length jc]) := ⟨zb, cur.heap.size, wf.heap.size, ga, gb, ha, ia, ja, sa, gc, gd, hc, ic, jc, sc, rfl, rfl, rfl, h1, hcur, .inl h2, zAV (y0 := .slice ga y.1.1.length gc) (y1 := .slice gb y.1.2.length gd) (y2 := .slice ha y.2.1.length hc) (y3 := .int .i64 y.2.2.1) (y4 := .int .i64 y.2.2.2.1) (y5 := .int .i64 y.2.2.2.2.1.1) (y6 := .int .i64 y.2.2.2.2.1.2.1) (y7 := .slice ia y.2.2.2.2.1.2.2.length ic) (y8 := .slice ja y.2.2.2.2.2.length jc) z, ⟨zAs (g := zb) (o := 0) (vs := [.slice ga y.1.1.length gc, .slice gb y.1.2.length gd, .slice ha y.2.1.length hc, .int .i64 y.2.2.1, .int .i64 y.2.2.2.1, .int .i64 y.2.2.2.2.1.1, .int .i64 y.2.2.2.2.1.2.1, .slice ia y.2.2.2.2.1.2.2.length ic, .slice ja y.2.2.2.2.2.length jc]) o0 (fun q => by have := q.1; omega), by rw [FS]; omega⟩, ⟨zAs (g := zb) (o := 0) (vs := [.slice ga y.1.1.length gc, .slice gb y.1.2.length gd, .slice ha y.2.1.length hc, .int .i64 y.2.2.1, .int .i64 y.2.2.2.1, .int .i64 y.2.2.2.2.1.1, .int .i64 y.2.2.2.2.1.2.1, .slice ia y.2.2.2.2.1.2.2.length ic, .slice ja y.2.2.2.2.2.length jc]) o1 (fun q => by have := q.1; omega), by rw [FS]; omega⟩, zAv (g := zb) (o := 0) (vs := [.slice ga y.1.1.length gc, .slice gb y.1.2.length gd, .slice ha y.2.1.length hc, .int .i64 y.2.2.1, .int .i64 y.2.2.2.1, .int .i64 y.2.2.2.2.1.1, .int .i64 y.2.2.2.2.1.2.1, .slice ia y.2.2.2.2.1.2.2.length ic, .slice ja y.2.2.2.2.2.length jc]) hb h1⟩
 simp only [zA0, zA3, Nat.reduceAdd] at FQ
 exact FQ
def RegI (V : World) (y : zAE) (l : List zB5) (k : Int) (p q r : Value) (wx : World) : Prop := ∃ (zb lo hi : Nat) (ga gb ha ia ja sa : Option Addr) (gc gd hc ic jc sc : Nat), p = .pointer (some ⟨zb, 0, none⟩) ∧ q = .slice sa l.length sc ∧ r = .int .i64 k ∧ V.heap.size ≤ zb ∧ V.heap.size ≤ lo ∧ (zb < lo ∨ hi ≤ zb) ∧ wx.heap[zb]? = some (.cells #[.slice ga y.1.1.length gc, .slice gb y.1.2.length gd, .slice ha y.2.1.length hc, .int .i64 y.2.2.1, .int .i64 y.2.2.2.1, .int .i64 y.2.2.2.2.1.1, .int .i64 y.2.2.2.2.1.2.1, .slice ia y.2.2.2.2.1.2.2.length ic, .slice ja y.2.2.2.2.2.length jc] 41 (0, 0)) ∧ zCp (zBP zAn zBp) lo hi wx ([.slice ga y.1.1.length gc, .slice gb y.1.2.length gd, .slice ha y.2.1.length hc, .int .i64 y.2.2.1, .int .i64 y.2.2.2.1, .int .i64 y.2.2.2.2.1.1, .int .i64 y.2.2.2.2.1.2.1, .slice ia y.2.2.2.2.1.2.2.length ic, .slice ja y.2.2.2.2.2.length jc] ++ [.slice sa l.length sc]) (y, l) ∧ Below V.heap.size V wx
theorem RegI_a {V cur wf : World} {y : zAE} {l : List zB5} {k : Int} {ga gb ha ia ja sa : Option Addr} {gc gd hc ic jc sc : Nat} (o0 : (zBP zAn zBp).own wf (rng cur.heap.size wf.heap.size) ([.slice ga y.1.1.length gc, .slice gb y.1.2.length gd, .slice ha y.2.1.length hc, .int .i64 y.2.2.1, .int .i64 y.2.2.2.1, .int .i64 y.2.2.2.2.1.1, .int .i64 y.2.2.2.2.1.2.1, .slice ia y.2.2.2.2.1.2.2.length ic, .slice ja y.2.2.2.2.2.length jc] ++ [.slice sa l.length sc]) (y, l)) (hcur : V.heap.size ≤ cur.heap.size) (hb : Below V.heap.size V wf) :
    RegI V y l k (.pointer (some ⟨wf.heap.size, 0, none⟩)) (.slice sa l.length sc) (.int .i64 k) (wf.alloc (.cells #[.slice ga y.1.1.length gc, .slice gb y.1.2.length gd, .slice ha y.2.1.length hc, .int .i64 y.2.2.1, .int .i64 y.2.2.2.1, .int .i64 y.2.2.2.2.1.1, .int .i64 y.2.2.2.2.1.2.1, .slice ia y.2.2.2.2.1.2.2.length ic, .slice ja y.2.2.2.2.2.length jc] 41)) := by
 have bb := zAf wf (.cells #[.slice ga y.1.1.length gc, .slice gb y.1.2.length gd, .slice ha y.2.1.length hc, .int .i64 y.2.2.1, .int .i64 y.2.2.2.1, .int .i64 y.2.2.2.2.1.1, .int .i64 y.2.2.2.2.1.2.1, .slice ia y.2.2.2.2.1.2.2.length ic, .slice ja y.2.2.2.2.2.length jc] 41)
 exact ⟨wf.heap.size, cur.heap.size, wf.heap.size, ga, gb, ha, ia, ja, sa, gc, gd, hc, ic, jc, sc, rfl, rfl, rfl, hb.size, hcur, .inr (Nat.le_refl _), zAy _ _, ⟨(zBP zAn zBp).own_keep o0 (zAh bb), by rw [zAp]; omega⟩, zAb hb bb⟩
theorem RegI_b {V cur wf : World} {zb : Nat} {y : zAE} {l : List zB5} {k : Int} {ga gb ha ia ja sa : Option Addr} {gc gd hc ic jc sc : Nat} {z0 z1 z2 z3 z4 z5 z6 z7 z8 : Value} (z : wf.heap[zb]? = some (.cells #[z0, z1, z2, z3, z4, z5, z6, z7, z8] 41 (0, 0))) (o0 : (zBP zAn zBp).own wf (rng cur.heap.size wf.heap.size) ([.slice ga y.1.1.length gc, .slice gb y.1.2.length gd, .slice ha y.2.1.length hc, .int .i64 y.2.2.1, .int .i64 y.2.2.2.1, .int .i64 y.2.2.2.2.1.1, .int .i64 y.2.2.2.2.1.2.1, .slice ia y.2.2.2.2.1.2.2.length ic, .slice ja y.2.2.2.2.2.length jc] ++ [.slice sa l.length sc]) (y, l)) (h1 : V.heap.size ≤ zb) (h2 : zb < cur.heap.size) (hcur : V.heap.size ≤ cur.heap.size) (hb : Below V.heap.size V wf) :
    RegI V y l k (.pointer (some ⟨zb, 0, none⟩)) (.slice sa l.length sc) (.int .i64 k) (((((((((wf.setCell ⟨zb, 0, none⟩ (.slice ga y.1.1.length gc)).setCell ⟨zb, 1, none⟩ (.slice gb y.1.2.length gd)).setCell ⟨zb, 2, none⟩ (.slice ha y.2.1.length hc)).setCell ⟨zb, 3, none⟩ (.int .i64 y.2.2.1)).setCell ⟨zb, 4, none⟩ (.int .i64 y.2.2.2.1)).setCell ⟨zb, 5, none⟩ (.int .i64 y.2.2.2.2.1.1)).setCell ⟨zb, 6, none⟩ (.int .i64 y.2.2.2.2.1.2.1)).setCell ⟨zb, 7, none⟩ (.slice ia y.2.2.2.2.1.2.2.length ic)).setCell ⟨zb, 8, none⟩ (.slice ja y.2.2.2.2.2.length jc)) := by
 have FS : (zAo wf zb 0 [.slice ga y.1.1.length gc, .slice gb y.1.2.length gd, .slice ha y.2.1.length hc, .int .i64 y.2.2.1, .int .i64 y.2.2.2.1, .int .i64 y.2.2.2.2.1.1, .int .i64 y.2.2.2.2.1.2.1, .slice ia y.2.2.2.2.1.2.2.length ic, .slice ja y.2.2.2.2.2.length jc]).heap.size = wf.heap.size := zAj _ _ _
 have FQ : RegI V y l k (.pointer (some ⟨zb, 0, none⟩)) (.slice sa l.length sc) (.int .i64 k) (zAo wf zb 0 [.slice ga y.1.1.length gc, .slice gb y.1.2.length gd, .slice ha y.2.1.length hc, .int .i64 y.2.2.1, .int .i64 y.2.2.2.1, .int .i64 y.2.2.2.2.1.1, .int .i64 y.2.2.2.2.1.2.1, .slice ia y.2.2.2.2.1.2.2.length ic, .slice ja y.2.2.2.2.2.length jc]) := ⟨zb, cur.heap.size, wf.heap.size, ga, gb, ha, ia, ja, sa, gc, gd, hc, ic, jc, sc, rfl, rfl, rfl, h1, hcur, .inl h2, zAV (y0 := .slice ga y.1.1.length gc) (y1 := .slice gb y.1.2.length gd) (y2 := .slice ha y.2.1.length hc) (y3 := .int .i64 y.2.2.1) (y4 := .int .i64 y.2.2.2.1) (y5 := .int .i64 y.2.2.2.2.1.1) (y6 := .int .i64 y.2.2.2.2.1.2.1) (y7 := .slice ia y.2.2.2.2.1.2.2.length ic) (y8 := .slice ja y.2.2.2.2.2.length jc) z, ⟨zAs (g := zb) (o := 0) (vs := [.slice ga y.1.1.length gc, .slice gb y.1.2.length gd, .slice ha y.2.1.length hc, .int .i64 y.2.2.1, .int .i64 y.2.2.2.1, .int .i64 y.2.2.2.2.1.1, .int .i64 y.2.2.2.2.1.2.1, .slice ia y.2.2.2.2.1.2.2.length ic, .slice ja y.2.2.2.2.2.length jc]) o0 (fun q => by have := q.1; omega), by rw [FS]; omega⟩, zAv (g := zb) (o := 0) (vs := [.slice ga y.1.1.length gc, .slice gb y.1.2.length gd, .slice ha y.2.1.length hc, .int .i64 y.2.2.1, .int .i64 y.2.2.2.1, .int .i64 y.2.2.2.2.1.1, .int .i64 y.2.2.2.2.1.2.1, .slice ia y.2.2.2.2.1.2.2.length ic, .slice ja y.2.2.2.2.2.length jc]) hb h1⟩
 simp only [zA0, zA3, Nat.reduceAdd] at FQ
 exact FQ
theorem eqMsgs_u : EqC 11 zBp zHt zEc := by
 rintro cs ds x w ⟨a, cap, rfl, l1, l2, l3⟩ ⟨b, cp, rfl, k1, k2, k3⟩ hm
 exact zLV a b x cap cp w l3 k3 (Nat.le_trans hm (by decide))
theorem mkMsgs_u : MkC 15 zBp zHt zEc := by
 intro S cs x k w h h0 hm hb
 obtain ⟨v, rfl⟩ := zHT h
 have e : lot = 4398046511104 := rfl
 have e2 : zHt.cV x = zA1 zCD x := rfl
 exact zJG S v k x w h0 (by omega) (by omega) h
theorem hdMsgs_u : HdC 17 zBp zHt zEc := by
 rintro cs x k w ⟨a, cap, rfl, l1, l2, l3⟩ h0 hm hb
 have e : lot = 4398046511104 := rfl
 have e2 : zHt.cV x = zA1 zCD x := rfl
 have := zJH a cap k x w h0 (by omega) (by omega) l3
 rw [show x.length = (zHt.mV k x).length from (zBF _ _ _).symm] at this
 exact this.mono fun e w' ⟨q, r⟩ => ⟨q, zFj r⟩
end Go.Proofs.YtoihjejenjcokaaGreatDoor
