
/- House: what it reads as, and what the laws' helpers do with it. -/
import Derived.Test.YtcnnojfkpkmdmaaUEnt
import Derived.Test.YtcnnojfkpkmdmaaStoreC
import Derived.Test.YtcnnojfkpkmdmaaUPair
namespace Go.Proofs.Ytcnnojfkpkmdmaa
open Go.ChangeShapes Go.WideShapes Go.ChangeAt Go.RowKit
set_option linter.unusedVariables false

abbrev HouseD := List (List Int) × List EntryD
abbrev houseR : Rep HouseD := prodR rowsR entsR
abbrev houseM : Mk HouseD := prodM rowsM entsM
theorem len1house {l : List Value} (h : l.length = 1) : ∃ a0, l = [a0] := by
  match l, h with
  | [a0], _ => exact ⟨a0, rfl⟩
theorem house_rd {w : World} {cs : List Value} {x : HouseD} (h : houseR.rd w cs x) : ∃ v0 v1, cs = [v0, v1] ∧ rowsR.rd w [v0] x.1 ∧ entsR.rd w [v1] x.2 := by
  obtain ⟨c0, e0, rfl, h0, h1⟩ := h
  obtain ⟨v0, rfl⟩ := len1house (rowsR.rd_len h0)
  obtain ⟨v1, rfl⟩ := len1house (entsR.rd_len h1)
  exact ⟨v0, v1, rfl, h0, h1⟩
theorem cells_house {w : World} {g : Nat} {x0 x1 : Value} {t : TypeId} (h : w.heap[g]? = some (.cells #[x0, x1] t (0, 0))) : w.cell? ⟨g, 0, none⟩ = some x0 ∧ w.cell? ⟨g, 1, none⟩ = some x1 :=
  ⟨by rw [cell_of_row w g 0 _ t (0, 0) h]; rfl, by rw [cell_of_row w g 1 _ t (0, 0) h]; rfl⟩
set_option maxHeartbeats 4000000 in
theorem szHouse_u : SzC 6 houseR houseM aggV := by
  intro cs x left w h h0 h1
  obtain ⟨v0, v1, rfl, r0, r1⟩ := house_rd h
  clear h
  rw [show houseM.bk x = rowsM.bk x.1 + entsM.bk x.2 from rfl]
  change Calls Try.prog 6 #[.agg #[v0, v1], .int .i64 left] w _
  have C0 : Hid (∀ L W, Below w.heap.size w W → 0 ≤ L → L ≤ 1048576 → Calls Try.prog 20 #[v0, .int .i64 L] W fun e w' => e = .returned (.int .i64 (szI (rowsM.bk x.1) L)) ∧ Below W.heap.size W w') := fun L W hb a b => szRows_u [v0] _ L W (rd_next r0 hb) a b
  have C1 : Hid (∀ L W, Below w.heap.size w W → 0 ≤ L → L ≤ 1048576 → Calls Try.prog 21 #[v1, .int .i64 L] W fun e w' => e = .returned (.int .i64 (szI (entsM.bk x.2) L)) ∧ Below W.heap.size W w') := fun L W hb a b => szEnts_u [v1] _ L W (rd_next r1 hb) a b
  clear r0 r1
  generalize rowsM.bk x.1 = n0 at C0 ⊢
  generalize entsM.bk x.2 = n1 at C1 ⊢
  have X := heap_at w (.cells #[v0, v1] 25)
  have B := box_below w (.cells #[v0, v1] 25)
  go_enter Try.func6, Try.ntmps6
  go_wp2_with fail
  generalize w.alloc (.cells #[v0, v1] 25) = W0 at X B ⊢
  refine (C0.out (left) _ B (by omega) (by omega)).mono ?_
  rintro e w1 ⟨rfl, bq⟩
  replace X := row_keep bq X
  replace B := below_step B bq
  clear bq C0
  by_cases l0 : (n0 : Int) ≤ left
  · rw [szI_yes l0]
    have g0 : ¬ (left - (n0 : Int) < 0) := by omega
    obtain ⟨y0, y1⟩ := cells_house X
    go_wp2_with fail
    clear y0 y1
    refine (C1.out (left - (n0 : Int)) _ B (by omega) (by omega)).mono ?_
    rintro e w2 ⟨rfl, bq⟩
    replace X := row_keep bq X
    replace B := below_step B bq
    clear bq C1
    by_cases l1 : (n1 : Int) ≤ left - (n0 : Int)
    · rw [szI_yes l1]
      have g1 : ¬ (left - (n0 : Int) - (n1 : Int) < 0) := by omega
      obtain ⟨y0, y1⟩ := cells_house X
      clear y0 y1 X
      go_wp2
      go_ret
      exact ⟨ret_int (by rw [szI_yes (by omega)]; omega), B⟩
    · rw [szI_no l1]
      clear X
      go_wp2
      go_ret
      exact ⟨ret_int (szI_no (by omega)).symm, B⟩
  · rw [szI_no l0]
    clear X
    go_wp2
    go_ret
    exact ⟨ret_int (szI_no (by omega)).symm, B⟩
set_option maxHeartbeats 4000000 in
theorem eqHouse_u : EqC 10 houseR houseM aggV := by
  intro cs ds x w h k hm
  obtain ⟨v0, v1, rfl, r0, r1⟩ := house_rd h
  obtain ⟨u0, u1, rfl, s0, s1⟩ := house_rd k
  clear h k
  rw [show houseM.bk x = rowsM.bk x.1 + entsM.bk x.2 from rfl] at hm
  change Calls Try.prog 10 #[.agg #[v0, v1], .agg #[u0, u1]] w _
  have C0 : Hid (∀ W, Below w.heap.size w W → Calls Try.prog 28 #[v0, u0] W fun e w' => e = .returned (.bool true) ∧ Below W.heap.size W w') := fun W hb => eqRows_u [v0] [u0] _ W (rd_next r0 hb) (rd_next s0 hb) (by omega)
  have C1 : Hid (∀ W, Below w.heap.size w W → Calls Try.prog 29 #[v1, u1] W fun e w' => e = .returned (.bool true) ∧ Below W.heap.size W w') := fun W hb => eqEnts_u [v1] [u1] _ W (rd_next r1 hb) (rd_next s1 hb) (by omega)
  clear hm r0 s0 r1 s1
  have X := heap_on (.cells #[u0, u1] 30) (heap_at w (.cells #[v0, v1] 30))
  have Y := heap_at (w.alloc (.cells #[v0, v1] 30)) (.cells #[u0, u1] 30)
  rw [alloc_len] at Y
  have B := below_step (box_below w (.cells #[v0, v1] 30)) (box_below _ (.cells #[u0, u1] 30))
  go_enter Try.func10, Try.ntmps10
  go_wp2_with fail
  generalize (w.alloc (.cells #[v0, v1] 30)).alloc (.cells #[u0, u1] 30) = W0 at X Y B ⊢
  refine (C0.out _ B).mono ?_
  rintro e w1 ⟨rfl, bq⟩
  replace X := row_keep bq X
  replace Y := row_keep bq Y
  replace B := below_step B bq
  clear bq C0
  obtain ⟨y0, y1⟩ := cells_house X
  obtain ⟨z0, z1⟩ := cells_house Y
  go_wp2_with fail
  clear y0 y1 z0 z1
  refine (C1.out _ B).mono ?_
  rintro e w2 ⟨rfl, bq⟩
  replace X := row_keep bq X
  replace Y := row_keep bq Y
  replace B := below_step B bq
  clear bq C1
  obtain ⟨y0, y1⟩ := cells_house X
  obtain ⟨z0, z1⟩ := cells_house Y
  clear X Y
  go_wp2
  go_ret
  exact ⟨rfl, B⟩
theorem house_cV (x : HouseD) : houseM.cV x = rowsM.cV x.1 + entsM.cV x.2 := rfl
theorem house_mV (k : Int) (x : HouseD) : houseM.mV k x = (rowsM.mV k x.1, entsM.mV (k + ((rowsM.cV x.1 : Nat) : Int)) x.2) := rfl
set_option maxHeartbeats 4000000 in
theorem hdHouse_u : HdC 14 houseR houseM aggV := by
  intro cs x k w h h0 hm hb
  rw [house_mV] at h
  obtain ⟨v0, v1, rfl, r0, r1⟩ := house_rd h
  clear h
  simp only at r0 r1
  rw [house_cV] at hm ⊢
  rw [show houseM.bk x = rowsM.bk x.1 + entsM.bk x.2 from rfl] at hb
  have el : lot = 4398046511104 := rfl
  change Calls Try.prog 14 #[.agg #[v0, v1], .int .i64 k] w _
  have C0 : Hid (∀ L W, L = k → Below w.heap.size w W → 0 ≤ L → L + (rowsM.cV x.1 : Int) ≤ (lot : Int) → Calls Try.prog 38 #[v0, .int .i64 L] W fun e w' => e = .returned (.int .i64 (L + (rowsM.cV x.1 : Int))) ∧ Below W.heap.size W w') := fun L W hL hq a b => by subst hL; exact hdRows_u [v0] _ _ W (rd_next r0 hq) a b (by omega)
  have C1 : Hid (∀ L W, L = (k + ((rowsM.cV x.1 : Nat) : Int)) → Below w.heap.size w W → 0 ≤ L → L + (entsM.cV x.2 : Int) ≤ (lot : Int) → Calls Try.prog 39 #[v1, .int .i64 L] W fun e w' => e = .returned (.int .i64 (L + (entsM.cV x.2 : Int))) ∧ Below W.heap.size W w') := fun L W hL hq a b => by subst hL; exact hdEnts_u [v1] _ _ W (rd_next r1 hq) a b (by omega)
  clear r0 r1
  generalize rowsM.cV x.1 = n0 at C0 C1 hm ⊢
  generalize entsM.cV x.2 = n1 at C1 hm ⊢
  have X := heap_at w (.cells #[v0, v1] 30)
  have B := box_below w (.cells #[v0, v1] 30)
  go_enter Try.func14, Try.ntmps14
  go_wp2_with fail
  generalize w.alloc (.cells #[v0, v1] 30) = W0 at X B ⊢
  refine (C0.out (k) _ (by omega) B (by omega) (by omega)).mono ?_
  rintro e w1 ⟨rfl, bq⟩
  replace X := row_keep bq X
  replace B := below_step B bq
  clear bq C0
  have g0 : ¬ (k + (n0 : Int) < 0) := by omega
  obtain ⟨y0, y1⟩ := cells_house X
  go_wp2_with fail
  clear y0 y1 g0
  refine (C1.out (k + (n0 : Int)) _ (by omega) B (by omega) (by omega)).mono ?_
  rintro e w2 ⟨rfl, bq⟩
  replace X := row_keep bq X
  replace B := below_step B bq
  clear bq C1
  have g1 : ¬ (k + (n0 : Int) + (n1 : Int) < 0) := by omega
  obtain ⟨y0, y1⟩ := cells_house X
  clear y0 y1 X
  go_wp2
  go_ret
  exact ⟨ret_int (by omega), B⟩
theorem house_own {w : World} {S : Foot} {cs : List Value} {x : HouseD} (h : houseR.own w S cs x) : ∃ v0 v1 S0 S1, cs = [v0, v1] ∧ rowsR.own w S0 [v0] x.1 ∧ entsR.own w S1 [v1] x.2 ∧ Sub S0 S ∧ Sub S1 S ∧ Dis S0 S1 := by
  obtain ⟨c0, e0, S0, T1, rfl, h0, h1, a0, b0, d0⟩ := h
  obtain ⟨v0, rfl⟩ := len1house (rowsR.rd_len (rowsR.own_rd h0))
  obtain ⟨v1, rfl⟩ := len1house (entsR.rd_len (entsR.own_rd h1))
  exact ⟨v0, v1, S0, T1, rfl, h0, h1, a0, (Sub.refl _).trans b0, d0.sub (Sub.refl _) (Sub.refl _)⟩
theorem own_house {w : World} {S S0 S1 : Foot} {v0 v1 : Value} {x : HouseD}  (h0 : rowsR.own w S0 [v0] x.1) (h1 : entsR.own w S1 [v1] x.2) (s0 : Sub S0 S) (s1 : Sub S1 S) (d01 : Dis S0 S1) : houseR.own w S [v0, v1] x := by
  exact ⟨[v0], [v1], S0, S1, rfl, h0, h1, s0, (fun q h => s1 q h), (fun q a h => d01 q a h)⟩
set_option maxHeartbeats 4000000 in
theorem mkHouse_u : MkC 13 houseR houseM aggV := by
  intro S cs x k w h h0 hm hb
  obtain ⟨v0, v1, S0, S1, rfl, o0, o1, s0, s1, d01⟩ := house_own h
  clear h
  rw [house_cV] at hm ⊢
  rw [show houseM.bk x = rowsM.bk x.1 + entsM.bk x.2 from rfl] at hb
  have el : lot = 4398046511104 := rfl
  change Calls Try.prog 13 #[.agg #[v0, v1], .int .i64 k] w _
  have C0 : Hid (∀ L W, L = k → rowsR.own W (Old w S0) [v0] x.1 → 0 ≤ L → L + (rowsM.cV x.1 : Int) ≤ (lot : Int) → Calls Try.prog 36 #[v0, .int .i64 L] W fun e w' => e = .returned (.int .i64 (L + (rowsM.cV x.1 : Int))) ∧ rowsR.own w' (Old w S0) [v0] (rowsM.mV k x.1) ∧ Chg (Old w S0) W w') := fun L W hL ho a b => by subst hL; exact mkRows_u (Old w S0) [v0] _ _ W ho a b (by omega)
  have C1 : Hid (∀ L W, L = (k + ((rowsM.cV x.1 : Nat) : Int)) → entsR.own W (Old w S1) [v1] x.2 → 0 ≤ L → L + (entsM.cV x.2 : Int) ≤ (lot : Int) → Calls Try.prog 37 #[v1, .int .i64 L] W fun e w' => e = .returned (.int .i64 (L + (entsM.cV x.2 : Int))) ∧ entsR.own w' (Old w S1) [v1] (entsM.mV (k + ((rowsM.cV x.1 : Nat) : Int)) x.2) ∧ Chg (Old w S1) W w') := fun L W hL ho a b => by subst hL; exact mkEnts_u (Old w S1) [v1] _ _ W ho a b (by omega)
  have X := heap_at w (.cells #[v0, v1] 30)
  have hs : w.heap.size < (w.alloc (.cells #[v0, v1] 30)).heap.size := by simp
  have CH : Chg S (w.alloc (.cells #[v0, v1] 30)) (w.alloc (.cells #[v0, v1] 30)) := Chg.refl _ _
  have FB : ∀ W, Chg S (w.alloc (.cells #[v0, v1] 30)) W → Chg S w W := fun W => chg_from_box
  have A0 := own_box (.cells #[v0, v1] 30) (own_old o0)
  have hn0 : ¬ Old w S0 w.heap.size := fun h => by have := h.2; omega
  have A1 := own_box (.cells #[v0, v1] 30) (own_old o1)
  have hn1 : ¬ Old w S1 w.heap.size := fun h => by have := h.2; omega
  have t01 : Dis (Old w S0) (Old w S1) := d01.sub old_sub old_sub
  have HD : Hid _ := And.intro t01 (And.intro hn0 (And.intro hn1 (And.intro s0 (s1))))
  have HF : Hid _ := FB
  clear FB o0 o1 t01 d01 hn0 hn1 s0 s1
  have HMV : Hid (∀ (P : HouseD → Prop), P (rowsM.mV k x.1, entsM.mV (k + ((rowsM.cV x.1 : Nat) : Int)) x.2) → P (houseM.mV k x)) := fun P hp => by rw [house_mV]; exact hp
  generalize rowsM.cV x.1 = n0 at C0 C1 HMV hm ⊢
  generalize entsM.cV x.2 = n1 at C1 HMV hm ⊢
  go_enter Try.func13, Try.ntmps13
  go_wp2_with fail
  generalize w.alloc (.cells #[v0, v1] 30) = W0 at X hs CH HF A0 A1 ⊢
  refine (C0.out (k) _ (by omega) A0 (by omega) (by omega)).mono ?_
  rintro e w1 ⟨rfl, p0, cq⟩
  obtain ⟨t01, hn0, hn1, s0, s1⟩ := HD.out
  replace X := (cq.block w.heap.size hs hn0).trans X
  replace hs := Nat.lt_of_lt_of_le hs cq.size
  replace CH := CH.trans (cq.mono (old_sub.trans s0))
  replace A1 := own_chg A1 cq (Dis.symm t01)
  clear cq C0 t01 hn0 hn1 s0 s1
  obtain ⟨y0, y1⟩ := cells_house X
  have HS : Hid _ := And.intro CH (And.intro A1 (p0))
  clear CH A1 p0
  go_wp2_with fail
  clear y0 y1
  obtain ⟨CH, A1, p0⟩ := HS.out
  clear HS
  refine (C1.out (k + (n0 : Int)) _ (by omega) A1 (by omega) (by omega)).mono ?_
  rintro e w2 ⟨rfl, p1, cq⟩
  obtain ⟨t01, hn0, hn1, s0, s1⟩ := HD.out
  replace X := (cq.block w.heap.size hs hn1).trans X
  replace hs := Nat.lt_of_lt_of_le hs cq.size
  replace CH := CH.trans (cq.mono (old_sub.trans s1))
  replace p0 := own_chg p0 cq t01
  clear cq C1 t01 hn0 hn1 s0 s1
  obtain ⟨y0, y1⟩ := cells_house X
  clear y0 y1 X
  have HS : Hid _ := And.intro CH (And.intro p0 (p1))
  clear CH p0 p1
  go_wp2
  go_ret
  obtain ⟨CH, p0, p1⟩ := HS.out
  obtain ⟨t01, hn0, hn1, s0, s1⟩ := HD.out
  exact ⟨ret_int (by omega), HMV.out (fun y => houseR.own _ S _ y) (own_house (x := (rowsM.mV k x.1, entsM.mV (k + (n0 : Int)) x.2))  p0 p1 (old_sub.trans s0) (old_sub.trans s1) t01), HF.out _ CH⟩
theorem froz_house {w : World} {g : Nat} {cs : Array Value} {t : TypeId} (h : w.heap[g]? = some (.cells cs t (0, 0))) : w.frozen? ⟨g, 0, none⟩ = false ∧ w.frozen? ⟨g, 1, none⟩ = false :=
  ⟨frozen_of_row w g 0 _ t h, frozen_of_row w g 1 _ t h⟩
theorem put_house {w : World} {g : Nat} {x0 x1 y0 y1 : Value} {t : TypeId} (h : w.heap[g]? = some (.cells #[x0, x1] t (0, 0))) : ((w.setCell ⟨g, 0, none⟩ (y0)).setCell ⟨g, 1, none⟩ (y1)).heap[g]? = some (.cells #[y0, y1] t (0, 0)) := by
  have h0 : (w.setCell ⟨g, 0, none⟩ (y0)).heap[g]? = some (.cells #[y0, x1] t (0, 0)) := heap_setCell_same _ g 0 _ t y0 h
  have h1 : ((w.setCell ⟨g, 0, none⟩ (y0)).setCell ⟨g, 1, none⟩ (y1)).heap[g]? = some (.cells #[y0, y1] t (0, 0)) := heap_setCell_same _ g 1 _ t y1 h0
  exact h1
set_option maxHeartbeats 8000000 in
set_option maxRecDepth 20000 in
theorem toHouse_u : ToC 8 houseR houseM aggV := by
  intro cs x w h hm
  obtain ⟨v0, v1, rfl, r0, r1⟩ := house_rd h
  clear h
  rw [show houseM.bk x = rowsM.bk x.1 + entsM.bk x.2 from rfl] at hm
  change Calls Try.prog 8 #[.agg #[v0, v1]] w _
  have C0 : Hid (∀ W, Below w.heap.size w W → Calls Try.prog 24 #[v0] W fun e w' => ∃ a0 c0, e = .returned (.slice a0 x.1.length c0) ∧ MadeR rowsR W w' [.slice a0 x.1.length c0] x.1) := fun W hb => (toRows_u [v0] _ W (rd_next r0 hb) (by omega)).mono (by rintro e w' ⟨ds, rfl, mm⟩; obtain ⟨a0, c0, rfl, -⟩ := rowsR.own_rd mm.1; exact ⟨a0, c0, rfl, mm⟩)
  have C1 : Hid (∀ W, Below w.heap.size w W → Calls Try.prog 25 #[v1] W fun e w' => ∃ a1 c1, e = .returned (.slice a1 x.2.length c1) ∧ MadeR entsR W w' [.slice a1 x.2.length c1] x.2) := fun W hb => (toEnts_u [v1] _ W (rd_next r1 hb) (by omega)).mono (by rintro e w' ⟨ds, rfl, mm⟩; obtain ⟨a1, c1, rfl, -⟩ := entsR.own_rd mm.1; exact ⟨a1, c1, rfl, mm⟩)
  clear hm r0 r1
  have X0 := heap_on (.cells #[.slice none 0 0, .slice none 0 0] 30) (heap_on (.cells #[.slice none 0 0, .slice none 0 0] 30) (heap_at w (.cells #[v0, v1] 25)))
  have X1 := heap_on (.cells #[.slice none 0 0, .slice none 0 0] 30) (heap_at (w.alloc (.cells #[v0, v1] 25)) (.cells #[.slice none 0 0, .slice none 0 0] 30))
  have X2 := heap_at ((w.alloc (.cells #[v0, v1] 25)).alloc (.cells #[.slice none 0 0, .slice none 0 0] 30)) (.cells #[.slice none 0 0, .slice none 0 0] 30)
  rw [alloc_len] at X1
  rw [alloc_len, alloc_len] at X2
  have B : Below w.heap.size w (((w.alloc (.cells #[v0, v1] 25)).alloc (.cells #[.slice none 0 0, .slice none 0 0] 30)).alloc (.cells #[.slice none 0 0, .slice none 0 0] 30)) := (((Below.refl _ w).alloc (Nat.le_refl _) _).alloc (by simp) _).alloc (by simp; omega) _
  have e3 : w.heap.size + 1 + 1 + 1 ≤ (((w.alloc (.cells #[v0, v1] 25)).alloc (.cells #[.slice none 0 0, .slice none 0 0] 30)).alloc (.cells #[.slice none 0 0, .slice none 0 0] 30)).heap.size := by simp
  go_enter Try.func8, Try.ntmps8
  go_wp2_with fail
  generalize ((w.alloc (.cells #[v0, v1] 25)).alloc (.cells #[.slice none 0 0, .slice none 0 0] 30)).alloc (.cells #[.slice none 0 0, .slice none 0 0] 30) = u0 at X0 X1 X2 B e3 ⊢
  refine (C0.out _ B).mono ?_
  rintro e w1 ⟨a0, c0, rfl, mm⟩
  have hs0 := mm.2.size
  replace B := below_step B mm.2
  replace X0 := row_keep mm.2 X0
  replace X1 := row_keep mm.2 X1
  replace X2 := row_keep mm.2 X2
  have O0 := mm.1
  clear mm C0
  obtain ⟨p0, p1⟩ := cells_house X0
  obtain ⟨y0, y1⟩ := cells_house X2
  obtain ⟨f0, f1⟩ := froz_house X2
  have HS : Hid _ := And.intro X0 (And.intro X1 (And.intro X2 (And.intro B (O0))))
  clear X0 X1 X2 B O0
  go_wp2_with fail
  clear p0 p1 y0 y1 f0 f1
  obtain ⟨X0, X1, X2, B, O0⟩ := HS.out
  clear HS
  have k0 : (w1.setCell ⟨w.heap.size + 1 + 1, 0, none⟩ (.slice a0 x.1.length c0)).heap[w.heap.size + 1 + 1]? = some (.cells #[.slice a0 x.1.length c0, .slice none 0 0] 30 (0, 0)) := heap_setCell_same _ (w.heap.size + 1 + 1) 0 _ _ (.slice a0 x.1.length c0) X2
  have qn0 := (heap_setC (g := w.heap.size + 1 + 1) (o := 0) (v := .slice a0 x.1.length c0) X0 (by omega))
  have qn1 := (heap_setC (g := w.heap.size + 1 + 1) (o := 0) (v := .slice a0 x.1.length c0) X1 (by omega))
  have qb1 : Below w.heap.size w (w1.setCell ⟨w.heap.size + 1 + 1, 0, none⟩ (.slice a0 x.1.length c0)) := (below_setC B (by omega))
  have qo0 : rowsR.own (w1.setCell ⟨w.heap.size + 1 + 1, 0, none⟩ (.slice a0 x.1.length c0)) _ _ _ := (own_setC O0 (fun h => by have := h.1; omega))
  have qz1 : w1.heap.size ≤ (w1.setCell ⟨w.heap.size + 1 + 1, 0, none⟩ (.slice a0 x.1.length c0)).heap.size := by simp
  have qz2 : (w1.setCell ⟨w.heap.size + 1 + 1, 0, none⟩ (.slice a0 x.1.length c0)).heap.size ≤ w1.heap.size := by simp
  clear X0 X1 X2 B O0 
  generalize (w1.setCell ⟨w.heap.size + 1 + 1, 0, none⟩ (.slice a0 x.1.length c0)) = u1 at qn0 qn1 k0 qb1 qz1 qz2 qo0 ⊢
  have X0 := qn0
  have X1 := qn1
  have X2 := k0
  have B := qb1
  have O0 := qo0
  have za0 := qz1
  have zb0 := qz2
  clear qn0 qn1 k0 qb1 qz1 qz2 qo0
  refine (C1.out _ B).mono ?_
  rintro e w2 ⟨a1, c1, rfl, mm⟩
  have hs1 := mm.2.size
  replace B := below_step B mm.2
  replace X0 := row_keep mm.2 X0
  replace X1 := row_keep mm.2 X1
  replace X2 := row_keep mm.2 X2
  replace O0 := own_stay O0 mm.2 (by omega)
  have O1 := mm.1
  clear mm C1
  obtain ⟨p0, p1⟩ := cells_house X0
  obtain ⟨y0, y1⟩ := cells_house X2
  obtain ⟨f0, f1⟩ := froz_house X2
  obtain ⟨z0, z1⟩ := cells_house X1
  obtain ⟨g0, g1⟩ := froz_house X1
  have HS : Hid _ := And.intro X0 (And.intro X1 (And.intro X2 (And.intro B (And.intro O0 (O1)))))
  clear X0 X1 X2 B O0 O1
  go_wp2
  clear p0 p1 y0 y1 f0 f1 z0 z1 g0 g1
  obtain ⟨X0, X1, X2, B, O0, O1⟩ := HS.out
  clear HS
  have k0 : (w2.setCell ⟨w.heap.size + 1 + 1, 1, none⟩ (.slice a1 x.2.length c1)).heap[w.heap.size + 1 + 1]? = some (.cells #[.slice a0 x.1.length c0, .slice a1 x.2.length c1] 30 (0, 0)) := heap_setCell_same _ (w.heap.size + 1 + 1) 1 _ _ (.slice a1 x.2.length c1) X2
  have V := put_house (y0 := .slice a0 x.1.length c0) (y1 := .slice a1 x.2.length c1) (heap_setC (g := w.heap.size + 1 + 1) (o := 1) (v := .slice a1 x.2.length c1) X1 (by omega))
  obtain ⟨r0, r1⟩ := cells_house V
  refine bodyPost_ret (v := .agg #[.slice a0 x.1.length c0, .slice a1 x.2.length c1]) (by simp [results, Try.results8, go_sem, r0, r1]) rfl ⟨[.slice a0 x.1.length c0, .slice a1 x.2.length c1], rfl, own_house (S0 := rng u0.heap.size w1.heap.size) (S1 := rng u1.heap.size w2.heap.size)  ?_ ?_ (rng_sub (by omega) (by simp <;> omega)) (rng_sub (by omega) (by simp <;> omega)) (rng_dis (.inl (by omega))), ?_⟩
  · exact (own_setC (own_setC (own_setC O0 (fun h => by have := h.1; omega)) (fun h => by have := h.1; omega)) (fun h => by have := h.1; omega))
  · exact (own_setC (own_setC (own_setC O1 (fun h => by have := h.1; omega)) (fun h => by have := h.1; omega)) (fun h => by have := h.1; omega))
  · exact (below_setC (below_setC (below_setC B (by omega)) (by omega)) (by omega))
theorem house_shape {w : World} {cs : List Value} {x : HouseD} (h : houseR.rd w cs x) : ∃ (a0 : Option Addr) (c0 : Nat) (a1 : Option Addr) (c1 : Nat), cs = [.slice a0 x.1.length c0, .slice a1 x.2.length c1] := by
  obtain ⟨v0, v1, rfl, r0, r1⟩ := house_rd h
  obtain ⟨a0, c0, e0, -⟩ := r0
  simp only [List.cons.injEq, and_true] at e0
  obtain rfl := e0
  obtain ⟨a1, c1, e1, -⟩ := r1
  simp only [List.cons.injEq, and_true] at e1
  obtain rfl := e1
  exact ⟨a0, c0, a1, c1, rfl⟩
theorem opens_house : Opens Try.prog 25 houseR :=
  opens_struct Try.underlying25 (by kernel_rfl) (opensF_cons rfl (by kernel_rfl) opens_rows (opensF_one rfl (by kernel_rfl) opens_ents))
end Go.Proofs.Ytcnnojfkpkmdmaa
