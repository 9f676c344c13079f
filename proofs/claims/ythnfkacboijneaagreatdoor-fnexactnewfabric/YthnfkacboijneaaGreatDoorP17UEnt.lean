import Derived.Test.YthnfkacboijneaaGreatDoorP05Boxes
import Derived.Test.YthnfkacboijneaaGreatDoorP14OpSS
import Derived.Test.YthnfkacboijneaaGreatDoorP16EntMark
namespace Go.Proofs.YthnfkacboijneaaGreatDoor
set_option maxHeartbeats 4000000
open Go.ChangeShapes Go.WideShapes Go.ChangeAt Go.RowKit
set_option linter.unusedVariables false
theorem lot_e : lot = 4398046511104 := rfl
theorem szRows_u : SzC 79 rowsR rowsM cell1 := by
 rintro cs x left w ⟨a, cap, rfl, l1, l2, l3⟩ h0 h1
 exact (szInt64SS_rep a x cap left w l3 h0 h1 (Nat.le_trans l1 l2)).mono fun e w' ⟨q, r⟩ => ⟨q, be_eq r⟩
theorem eqRows_u : EqC 115 rowsR rowsM cell1 := by
 rintro cs ds x w ⟨a, cap, rfl, l1, l2, l3⟩ ⟨b, cp, rfl, k1, k2, k3⟩ hm
 refine (eqInt64SS_rep a b x cap cp w l3 k3 (Nat.le_trans hm (by decide))).mono ?_
 rintro e w' ⟨q, n, rfl⟩
 exact ⟨q, be_drewN (Below.refl _ _) n⟩
theorem mkRows_u : MkC 140 rowsR rowsM cell1 := by
 intro S cs x k w h h0 hm hb
 obtain ⟨v, rfl⟩ := own_cell h
 have e := lot_e
 have e2 : rowsM.cV x = slcnt intsM x := rfl
 have e3 : rowsM.bk x = x.length + sumbk intsM x := rfl
 exact markInt64SS_rep S v k x w h0 (by omega) (by omega) (by omega) h
theorem hdRows_u : HdC 143 rowsR rowsM cell1 := by
 rintro cs x k w ⟨a, cap, rfl, l1, l2, l3⟩ h0 hm hb
 have e := lot_e
 have e2 : rowsM.cV x = slcnt intsM x := rfl
 have e3 : rowsM.bk x = x.length + sumbk intsM x := rfl
 have := heldInt64SS_rep a cap k x w h0 (by omega) (by omega) (by omega) l3
 rw [show x.length = (rowsM.mV k x).length from (slmark_len _ _ _).symm] at this
 exact this.mono fun e w' ⟨q, r⟩ => ⟨q, be_eq r⟩
theorem szEnts_u : SzC 80 entsR entsM cell1 := by
 rintro cs x left w ⟨a, cap, rfl, l1, l2, l3⟩ h0 h1
 exact szEntryS_rep a x cap left w l3 h0 h1 (Nat.le_trans l1 l2)
theorem eqEnts_u : EqC 116 entsR entsM cell1 := by
 rintro cs ds x w ⟨a, cap, rfl, l1, l2, l3⟩ ⟨b, cp, rfl, k1, k2, k3⟩ hm
 exact eqEntryS_rep a b x cap cp w l3 k3 (Nat.le_trans hm (by decide))
theorem mkEnts_u : MkC 141 entsR entsM cell1 := by
 intro S cs x k w h h0 hm hb
 obtain ⟨v, rfl⟩ := own_cell h
 have e := lot_e
 have e2 : entsM.cV x = slcnt entM x := rfl
 exact markEntryS_rep S v k x w h0 (by omega) (by omega) h
theorem hdEnts_u : HdC 144 entsR entsM cell1 := by
 rintro cs x k w ⟨a, cap, rfl, l1, l2, l3⟩ h0 hm hb
 have e := lot_e
 have e2 : entsM.cV x = slcnt entM x := rfl
 have := heldEntryS_rep a cap k x w h0 (by omega) (by omega) l3
 rw [show x.length = (entsM.mV k x).length from (slmark_len _ _ _).symm] at this
 exact this.mono fun e w' ⟨q, r⟩ => ⟨q, be_eq r⟩
variable {α : Type}
def setCs (w : World) (g : Nat) : Nat → List Value → World
 | _, [] => w
 | o, v :: vs => setCs (w.setCell ⟨g, o, none⟩ v) g (o + 1) vs
def putA (cs : Array Value) : Nat → List Value → Array Value
 | _, [] => cs
 | o, v :: vs => putA (cs.setIfInBounds o v) (o + 1) vs
theorem row_setCs {g : Nat} {t : TypeId} : ∀ (vs : List Value) (o : Nat) {w : World} {cs : Array Value}, w.heap[g]? = some (.cells cs t (0, 0)) → (setCs w g o vs).heap[g]? = some (.cells (putA cs o vs) t (0, 0))
 | [], _, _, _, h => h
 | v :: vs, o, w, cs, h => row_setCs vs (o + 1) (heap_setCell_same w g o cs t v h)
theorem chg_setCs {g : Nat} : ∀ (vs : List Value) (o : Nat) (w : World), Chg (fun k => k = g) w (setCs w g o vs)
 | [], _, w => Chg.refl _ w
 | v :: vs, o, w => (show Chg (fun k => k = g) w (w.setCell ⟨g, o, none⟩ v) from ⟨rfl, rfl, rfl, by simp, fun k hk hn => heap_setCell_other w ⟨g, o, none⟩ k v hn⟩).trans (chg_setCs vs (o + 1) _)
theorem setCs_size {g : Nat} : ∀ (vs : List Value) (o : Nat) (w : World), (setCs w g o vs).heap.size = w.heap.size
 | [], _, _ => rfl
 | v :: vs, o, w => (setCs_size vs (o + 1) _).trans (by simp)
theorem below_setCs {a w : World} {B g o : Nat} {vs : List Value} (h : Below B a w) (hB : B ≤ w.heap.size) (hg : B ≤ g) : Below B a (setCs w g o vs) :=
 (chg_setCs vs o w).below h (fun k hk => by have : k = g := hk; omega) hB
theorem below_setCs0 {a w : World} {g o : Nat} {vs : List Value} (h : Below a.heap.size a w) (hg : a.heap.size ≤ g) : Below a.heap.size a (setCs w g o vs) := below_setCs h h.size hg
theorem row_otherCs {w : World} {k g o : Nat} {vs : List Value} {ob : Obj} (h : w.heap[k]? = some ob) (hn : k ≠ g) : (setCs w g o vs).heap[k]? = some ob :=
 ((chg_setCs vs o w).block k (Array.getElem?_eq_some_iff.1 h).1 hn).trans h
theorem own_setCs {R : Rep α} {w : World} {S : Foot} {cs : List Value} {x : α} {g o : Nat} {vs : List Value} (h : R.own w S cs x) (hg : ¬ S g) : R.own (setCs w g o vs) S cs x :=
 own_chg h (chg_setCs vs o w) fun k hk e => by have e' : k = g := e; subst e'; exact hg hk
theorem owned_setCs {R : Rep α} {w : World} {lo hi : Nat} {cs : List Value} {x : α} {g o : Nat} {vs : List Value} (h : Owned R lo hi w cs x) (hg : g < lo ∨ hi ≤ g) : Owned R lo hi (setCs w g o vs) cs x :=
 ⟨own_setCs h.1 fun hk => by have := hk.1; have := hk.2; omega, by rw [setCs_size]; exact h.2⟩
abbrev HouseD := List (List Int) × List EntryD
abbrev houseR : Rep HouseD := prodR rowsR entsR
abbrev houseM : Mk HouseD := prodM rowsM entsM
theorem len1house {l : List Value} (h : l.length = 1) : ∃ a0, l = [a0] := by
 match l, h with
 | [a0], _ => exact ⟨a0, rfl⟩
theorem house_rd {w : World} {cs : List Value} {x : HouseD} (h : houseR.rd w cs x) : ∃ v0 v1, cs = [v0, v1] ∧ rowsR.rd w [v0] x.1 ∧ entsR.rd w [v1] x.2 := by
 obtain ⟨c0, e0, rfl, h0, h1⟩ := h
 obtain ⟨v0, rfl⟩ := len1house (rowsR.rd_len h0)
 obtain ⟨v1, rfl⟩ := len1house (entsR.rd_len h1)
 exact ⟨v0, v1, rfl, h0, h1⟩
theorem cells_house {w : World} {g : Nat} {x0 x1 : Value} {t : TypeId} (h : w.heap[g]? = some (.cells #[x0, x1] t (0, 0))) : w.cell? ⟨g, 0, none⟩ = some x0 ∧ w.cell? ⟨g, 1, none⟩ = some x1 :=
 ⟨by rw [cell_of_row w g 0 _ t (0, 0) h]; rfl, by rw [cell_of_row w g 1 _ t (0, 0) h]; rfl⟩
theorem szHouse_u : SzC 23 houseR houseM aggV := by
 intro cs x left w h h0 h1
 obtain ⟨v0, v1, rfl, r0, r1⟩ := house_rd h
 clear h
 rw [show houseM.bk x = rowsM.bk x.1 + entsM.bk x.2 from rfl]
 change Calls Tryz.prog 23 #[.agg #[v0, v1], .int .i64 left] w _
 have C0 : Hid (∀ L W, Below w.heap.size w W → 0 ≤ L → L ≤ 1048576 → Calls Tryz.prog 79 #[v0, .int .i64 L] W fun e w' => e = .returned (.int .i64 (szI (rowsM.bk x.1) L)) ∧ Below W.heap.size W w') := fun L W hb a b => szRows_u [v0] _ L W (rd_next r0 hb) a b
 have C1 : Hid (∀ L W, Below w.heap.size w W → 0 ≤ L → L ≤ 1048576 → Calls Tryz.prog 80 #[v1, .int .i64 L] W fun e w' => e = .returned (.int .i64 (szI (entsM.bk x.2) L)) ∧ Below W.heap.size W w') := fun L W hb a b => szEnts_u [v1] _ L W (rd_next r1 hb) a b
 clear r0 r1
 generalize rowsM.bk x.1 = n0 at C0 ⊢
 generalize entsM.bk x.2 = n1 at C1 ⊢
 have X := heap_at w (.cells #[v0, v1] 27)
 have B := box_below w (.cells #[v0, v1] 27)
 go_enter Tryz.func23, Tryz.ntmps23
 go_wp2_with fail
 generalize w.alloc (.cells #[v0, v1] 27) = W0 at X B ⊢
 refine (C0.out (left) _ B (by omega) (by omega)).mono ?_
 rintro e w1 ⟨rfl, bq⟩
 replace X := row_keep bq X
 replace B := below_step B bq
 clear bq C0
 by_cases l0 : (n0 : Int) ≤ left
 ·rw [szI_yes l0]
  have g0 : ¬ (left - (n0 : Int) < 0) := by omega
  obtain ⟨y0, y1⟩ := cells_house X
  go_wp2_with fail
  clear y0 y1
  refine (C1.out (left - (n0 : Int)) _ B (by omega) (by omega)).mono ?_
  rintro e w2 ⟨rfl, bq⟩
  replace X := row_keep bq X
  replace B := below_step B bq
  clear bq C1
  by_cases l1 : (n1 : Int) ≤ left - (n0 : Int)
  ·rw [szI_yes l1]
   have g1 : ¬ (left - (n0 : Int) - (n1 : Int) < 0) := by omega
   obtain ⟨y0, y1⟩ := cells_house X
   clear y0 y1 X
   go_wp2
   go_ret
   exact ⟨ret_int (by rw [szI_yes (by omega)]; omega), B⟩
  ·rw [szI_no l1]
   clear X
   go_wp2
   go_ret
   exact ⟨ret_int (szI_no (by omega)).symm, B⟩
 ·rw [szI_no l0]
  clear X
  go_wp2
  go_ret
  exact ⟨ret_int (szI_no (by omega)).symm, B⟩
theorem eqHouse_u : EqC 49 houseR houseM aggV := by
 intro cs ds x w h k hm
 obtain ⟨v0, v1, rfl, r0, r1⟩ := house_rd h
 obtain ⟨u0, u1, rfl, s0, s1⟩ := house_rd k
 clear h k
 rw [show houseM.bk x = rowsM.bk x.1 + entsM.bk x.2 from rfl] at hm
 change Calls Tryz.prog 49 #[.agg #[v0, v1], .agg #[u0, u1]] w _
 have C0 : Hid (∀ W, Below w.heap.size w W → Calls Tryz.prog 115 #[v0, u0] W fun e w' => e = .returned (.bool true) ∧ Below W.heap.size W w') := fun W hb => eqRows_u [v0] [u0] _ W (rd_next r0 hb) (rd_next s0 hb) (by omega)
 have C1 : Hid (∀ W, Below w.heap.size w W → Calls Tryz.prog 116 #[v1, u1] W fun e w' => e = .returned (.bool true) ∧ Below W.heap.size W w') := fun W hb => eqEnts_u [v1] [u1] _ W (rd_next r1 hb) (rd_next s1 hb) (by omega)
 clear hm r0 s0 r1 s1
 have X := heap_on (.cells #[u0, u1] 41) (heap_at w (.cells #[v0, v1] 41))
 have Y := heap_at (w.alloc (.cells #[v0, v1] 41)) (.cells #[u0, u1] 41)
 rw [alloc_len] at Y
 have B := below_step (box_below w (.cells #[v0, v1] 41)) (box_below _ (.cells #[u0, u1] 41))
 go_enter Tryz.func49, Tryz.ntmps49
 go_wp2_with fail
 generalize (w.alloc (.cells #[v0, v1] 41)).alloc (.cells #[u0, u1] 41) = W0 at X Y B ⊢
 refine (C0.out _ B).mono ?_
 rintro e w1 ⟨rfl, bq⟩
 replace X := row_keep bq X
 replace Y := row_keep bq Y
 replace B := below_step B bq
 clear bq C0
 obtain ⟨y0, y1⟩ := cells_house X
 obtain ⟨z0, z1⟩ := cells_house Y
 go_wp2_with fail
 clear y0 y1 z0 z1
 refine (C1.out _ B).mono ?_
 rintro e w2 ⟨rfl, bq⟩
 replace X := row_keep bq X
 replace Y := row_keep bq Y
 replace B := below_step B bq
 clear bq C1
 obtain ⟨y0, y1⟩ := cells_house X
 obtain ⟨z0, z1⟩ := cells_house Y
 clear X Y
 go_wp2
 go_ret
 exact ⟨rfl, B⟩
theorem house_cV (x : HouseD) : houseM.cV x = rowsM.cV x.1 + entsM.cV x.2 := rfl
theorem house_mV (k : Int) (x : HouseD) : houseM.mV k x = (rowsM.mV k x.1, entsM.mV (k + ((rowsM.cV x.1 : Nat) : Int)) x.2) := rfl
theorem hdHouse_u : HdC 74 houseR houseM aggV := by
 intro cs x k w h h0 hm hb
 rw [house_mV] at h
 obtain ⟨v0, v1, rfl, r0, r1⟩ := house_rd h
 clear h
 simp only at r0 r1
 rw [house_cV] at hm ⊢
 rw [show houseM.bk x = rowsM.bk x.1 + entsM.bk x.2 from rfl] at hb
 have el : lot = 4398046511104 := rfl
 change Calls Tryz.prog 74 #[.agg #[v0, v1], .int .i64 k] w _
 have C0 : Hid (∀ L W, L = k → Below w.heap.size w W → 0 ≤ L → L + (rowsM.cV x.1 : Int) ≤ (lot : Int) → Calls Tryz.prog 143 #[v0, .int .i64 L] W fun e w' => e = .returned (.int .i64 (L + (rowsM.cV x.1 : Int))) ∧ Below W.heap.size W w') := fun L W hL hq a b => by subst hL; exact hdRows_u [v0] _ _ W (rd_next r0 hq) a b (by omega)
 have C1 : Hid (∀ L W, L = (k + ((rowsM.cV x.1 : Nat) : Int)) → Below w.heap.size w W → 0 ≤ L → L + (entsM.cV x.2 : Int) ≤ (lot : Int) → Calls Tryz.prog 144 #[v1, .int .i64 L] W fun e w' => e = .returned (.int .i64 (L + (entsM.cV x.2 : Int))) ∧ Below W.heap.size W w') := fun L W hL hq a b => by subst hL; exact hdEnts_u [v1] _ _ W (rd_next r1 hq) a b (by omega)
 clear r0 r1
 generalize rowsM.cV x.1 = n0 at C0 C1 hm ⊢
 generalize entsM.cV x.2 = n1 at C1 hm ⊢
 have X := heap_at w (.cells #[v0, v1] 41)
 have B := box_below w (.cells #[v0, v1] 41)
 go_enter Tryz.func74, Tryz.ntmps74
 go_wp2_with fail
 generalize w.alloc (.cells #[v0, v1] 41) = W0 at X B ⊢
 refine (C0.out (k) _ (by omega) B (by omega) (by omega)).mono ?_
 rintro e w1 ⟨rfl, bq⟩
 replace X := row_keep bq X
 replace B := below_step B bq
 clear bq C0
 have g0 : ¬ (k + (n0 : Int) < 0) := by omega
 obtain ⟨y0, y1⟩ := cells_house X
 go_wp2_with fail
 clear y0 y1 g0
 refine (C1.out (k + (n0 : Int)) _ (by omega) B (by omega) (by omega)).mono ?_
 rintro e w2 ⟨rfl, bq⟩
 replace X := row_keep bq X
 replace B := below_step B bq
 clear bq C1
 have g1 : ¬ (k + (n0 : Int) + (n1 : Int) < 0) := by omega
 obtain ⟨y0, y1⟩ := cells_house X
 clear y0 y1 X
 go_wp2
 go_ret
 exact ⟨ret_int (by omega), B⟩
theorem house_own {w : World} {S : Foot} {cs : List Value} {x : HouseD} (h : houseR.own w S cs x) : ∃ v0 v1 S0 S1, cs = [v0, v1] ∧ rowsR.own w S0 [v0] x.1 ∧ entsR.own w S1 [v1] x.2 ∧ Sub S0 S ∧ Sub S1 S ∧ Dis S0 S1 := by
 obtain ⟨c0, e0, S0, T1, rfl, h0, h1, a0, b0, d0⟩ := h
 obtain ⟨v0, rfl⟩ := len1house (rowsR.rd_len (rowsR.own_rd h0))
 obtain ⟨v1, rfl⟩ := len1house (entsR.rd_len (entsR.own_rd h1))
 exact ⟨v0, v1, S0, T1, rfl, h0, h1, a0, (Sub.refl _).trans b0, d0.sub (Sub.refl _) (Sub.refl _)⟩
theorem own_house {w : World} {S S0 S1 : Foot} {v0 v1 : Value} {x : HouseD}  (h0 : rowsR.own w S0 [v0] x.1) (h1 : entsR.own w S1 [v1] x.2) (s0 : Sub S0 S) (s1 : Sub S1 S) (d01 : Dis S0 S1) : houseR.own w S [v0, v1] x := by
 exact ⟨[v0], [v1], S0, S1, rfl, h0, h1, s0, (fun q h => s1 q h), (fun q a h => d01 q a h)⟩
theorem mkHouse_u : MkC 69 houseR houseM aggV := by
 intro S cs x k w h h0 hm hb
 obtain ⟨v0, v1, S0, S1, rfl, o0, o1, s0, s1, d01⟩ := house_own h
 clear h
 rw [house_cV] at hm ⊢
 rw [show houseM.bk x = rowsM.bk x.1 + entsM.bk x.2 from rfl] at hb
 have el : lot = 4398046511104 := rfl
 change Calls Tryz.prog 69 #[.agg #[v0, v1], .int .i64 k] w _
 have C0 : Hid (∀ L W, L = k → rowsR.own W (Old w S0) [v0] x.1 → 0 ≤ L → L + (rowsM.cV x.1 : Int) ≤ (lot : Int) → Calls Tryz.prog 140 #[v0, .int .i64 L] W fun e w' => e = .returned (.int .i64 (L + (rowsM.cV x.1 : Int))) ∧ rowsR.own w' (Old w S0) [v0] (rowsM.mV k x.1) ∧ Chg (Old w S0) W w') := fun L W hL ho a b => by subst hL; exact mkRows_u (Old w S0) [v0] _ _ W ho a b (by omega)
 have C1 : Hid (∀ L W, L = (k + ((rowsM.cV x.1 : Nat) : Int)) → entsR.own W (Old w S1) [v1] x.2 → 0 ≤ L → L + (entsM.cV x.2 : Int) ≤ (lot : Int) → Calls Tryz.prog 141 #[v1, .int .i64 L] W fun e w' => e = .returned (.int .i64 (L + (entsM.cV x.2 : Int))) ∧ entsR.own w' (Old w S1) [v1] (entsM.mV (k + ((rowsM.cV x.1 : Nat) : Int)) x.2) ∧ Chg (Old w S1) W w') := fun L W hL ho a b => by subst hL; exact mkEnts_u (Old w S1) [v1] _ _ W ho a b (by omega)
 have X := heap_at w (.cells #[v0, v1] 41)
 have hs : w.heap.size < (w.alloc (.cells #[v0, v1] 41)).heap.size := by simp
 have CH : Chg S (w.alloc (.cells #[v0, v1] 41)) (w.alloc (.cells #[v0, v1] 41)) := Chg.refl _ _
 have FB : ∀ W, Chg S (w.alloc (.cells #[v0, v1] 41)) W → Chg S w W := fun W => chg_from_box
 have A0 := own_box (.cells #[v0, v1] 41) (own_old o0)
 have hn0 : ¬ Old w S0 w.heap.size := fun h => by have := h.2; omega
 have A1 := own_box (.cells #[v0, v1] 41) (own_old o1)
 have hn1 : ¬ Old w S1 w.heap.size := fun h => by have := h.2; omega
 have t01 : Dis (Old w S0) (Old w S1) := d01.sub old_sub old_sub
 have HD : Hid _ := And.intro t01 (And.intro hn0 (And.intro hn1 (And.intro s0 (s1))))
 have HF : Hid _ := FB
 clear FB o0 o1 t01 d01 hn0 hn1 s0 s1
 have HMV : Hid (∀ (P : HouseD → Prop), P (rowsM.mV k x.1, entsM.mV (k + ((rowsM.cV x.1 : Nat) : Int)) x.2) → P (houseM.mV k x)) := fun P hp => by rw [house_mV]; exact hp
 generalize rowsM.cV x.1 = n0 at C0 C1 HMV hm ⊢
 generalize entsM.cV x.2 = n1 at C1 HMV hm ⊢
 go_enter Tryz.func69, Tryz.ntmps69
 go_wp2_with fail
 generalize w.alloc (.cells #[v0, v1] 41) = W0 at X hs CH HF A0 A1 ⊢
 refine (C0.out (k) _ (by omega) A0 (by omega) (by omega)).mono ?_
 rintro e w1 ⟨rfl, p0, cq⟩
 obtain ⟨t01, hn0, hn1, s0, s1⟩ := HD.out
 replace X := (cq.block w.heap.size hs hn0).trans X
 replace hs := Nat.lt_of_lt_of_le hs cq.size
 replace CH := CH.trans (cq.mono (old_sub.trans s0))
 replace A1 := own_chg A1 cq (Dis.symm t01)
 clear cq C0 t01 hn0 hn1 s0 s1
 obtain ⟨y0, y1⟩ := cells_house X
 have HS : Hid _ := And.intro CH (And.intro A1 (p0))
 clear CH A1 p0
 go_wp2_with fail
 clear y0 y1
 obtain ⟨CH, A1, p0⟩ := HS.out
 clear HS
 refine (C1.out (k + (n0 : Int)) _ (by omega) A1 (by omega) (by omega)).mono ?_
 rintro e w2 ⟨rfl, p1, cq⟩
 obtain ⟨t01, hn0, hn1, s0, s1⟩ := HD.out
 replace X := (cq.block w.heap.size hs hn1).trans X
 replace hs := Nat.lt_of_lt_of_le hs cq.size
 replace CH := CH.trans (cq.mono (old_sub.trans s1))
 replace p0 := own_chg p0 cq t01
 clear cq C1 t01 hn0 hn1 s0 s1
 obtain ⟨y0, y1⟩ := cells_house X
 clear y0 y1 X
 have HS : Hid _ := And.intro CH (And.intro p0 (p1))
 clear CH p0 p1
 go_wp2
 go_ret
 obtain ⟨CH, p0, p1⟩ := HS.out
 obtain ⟨t01, hn0, hn1, s0, s1⟩ := HD.out
 exact ⟨ret_int (by omega), HMV.out (fun y => houseR.own _ S _ y) (own_house (x := (rowsM.mV k x.1, entsM.mV (k + (n0 : Int)) x.2))  p0 p1 (old_sub.trans s0) (old_sub.trans s1) t01), HF.out _ CH⟩
theorem froz_house {w : World} {g : Nat} {cs : Array Value} {t : TypeId} (h : w.heap[g]? = some (.cells cs t (0, 0))) : w.frozen? ⟨g, 0, none⟩ = false ∧ w.frozen? ⟨g, 1, none⟩ = false :=
 ⟨frozen_of_row w g 0 _ t h, frozen_of_row w g 1 _ t h⟩
theorem put_house {w : World} {g : Nat} {x0 x1 y0 y1 : Value} {t : TypeId} (h : w.heap[g]? = some (.cells #[x0, x1] t (0, 0))) : ((w.setCell ⟨g, 0, none⟩ (y0)).setCell ⟨g, 1, none⟩ (y1)).heap[g]? = some (.cells #[y0, y1] t (0, 0)) := by
 have h0 : (w.setCell ⟨g, 0, none⟩ (y0)).heap[g]? = some (.cells #[y0, x1] t (0, 0)) := heap_setCell_same _ g 0 _ t y0 h
 have h1 : ((w.setCell ⟨g, 0, none⟩ (y0)).setCell ⟨g, 1, none⟩ (y1)).heap[g]? = some (.cells #[y0, y1] t (0, 0)) := heap_setCell_same _ g 1 _ t y1 h0
 exact h1
theorem house_shape {w : World} {cs : List Value} {x : HouseD} (h : houseR.rd w cs x) : ∃ (a0 : Option Addr) (c0 : Nat) (a1 : Option Addr) (c1 : Nat), cs = [.slice a0 x.1.length c0, .slice a1 x.2.length c1] := by
 obtain ⟨v0, v1, rfl, r0, r1⟩ := house_rd h
 obtain ⟨a0, c0, e0, -⟩ := r0
 simp only [List.cons.injEq, and_true] at e0
 obtain rfl := e0
 obtain ⟨a1, c1, e1, -⟩ := r1
 simp only [List.cons.injEq, and_true] at e1
 obtain rfl := e1
 exact ⟨a0, c0, a1, c1, rfl⟩
end Go.Proofs.YthnfkacboijneaaGreatDoor
