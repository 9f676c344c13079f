import Derived.Test.YtcocbafhcpdheaaGreatDoorF00Box
import Derived.Test.YtcocbafhcpdheaaGreatDoorF23
import Derived.Test.YtcocbafhcpdheaaGreatDoorF12
namespace Go.Proofs.YtcocbafhcpdheaaGreatDoor
set_option maxHeartbeats 8000000
set_option maxRecDepth 20000
open Go.ChangeShapes Go.WideShapes Go.ChangeAt Go.RowKit
set_option linter.unusedVariables false
theorem szInt64SS_rep (a : Option Addr) (xs : List (List Int)) (cap : Nat) (left : Int) (w : World) (h : SlRd intsR w a xs) (h0 : 0 ≤ left) (h1 : left ≤ 1048576) (hm : xs.length ≤ maxLen) :
    Calls Tryz.prog 58 #[.slice a xs.length cap, .int .i64 left] w fun e w' => e = .returned (.int .i64 (szI ((slM intsM).bk xs) left)) ∧ w' = w := by
 have hm' : xs.length ≤ 9223372036854775807 := hm;have hbk : (slM intsM).bk xs = xs.length + sumbk intsM xs := rfl;clear hm;by_cases hl : (xs.length : Int) ≤ left
 ·have hl' : ¬ (left - (xs.length : Int) < 0) := by omega
  have HB : Hid _ := hbk;clear hbk;go_enter Tryz.func58, Tryz.ntmps58;go_wp2;go_loop [1, 5] (fun q i => ∃ k : Nat, k ≤ xs.length ∧ i = .int .i64 k ∧ (sumbk intsM (xs.take k) : Int) + xs.length ≤ left ∧ q = .int .i64 (left - (xs.length : Int) - sumbk intsM (xs.take k))) (fun _ i => xs.length - (intOf i).toNat)
  case atStart => exact ⟨0, Nat.zero_le _, rfl, by simp [sumbk]; omega, by simp [sumbk]⟩
  case round =>
   obtain ⟨k, hk, rfl, ht, rfl⟩ := hrel;by_cases hlt : k < xs.length
   ·have hlt' : (k : Int) < (xs.length : Int) := by omega
    obtain ⟨x, hx⟩ : ∃ x, xs[k]? = some x := ⟨_, List.getElem?_eq_getElem hlt⟩;obtain ⟨b, off, c, rfl, ⟨aj, cj, rfl, hc1, hc2, hrd⟩, hcell⟩ := slrd_at h hx;have g1 := hcell 0 _ rfl;rw [show k * (intsR).size + 0 = k from Nat.mul_one k] at g1;have HR : Hid _ := hrd;have HX : Hid _ := Nat.le_trans hc1 hc2;have HT : Hid _ := sumbk_step (M := intsM) hx;have hxs := sumbk_get (M := intsM) hx;clear h hx hcell hrd;generalize sumbk intsM (xs.take k) = T at ht HT hxs ⊢;by_cases hf : (((intsM).bk x : Nat) : Int) ≤ left - (xs.length : Int) - (T : Int)
    ·have hf' : ¬ (left - (xs.length : Int) - (T : Int) - (((intsM).bk x : Nat) : Int) < 0) := by omega
     have HS : Hid (szI ((intsM).bk x) (left - (xs.length : Int) - (T : Int)) = _) := szI_yes hf;go_wp2_with (go_at_call 106; refine (szInt64S_rep _ x _ _ _ (by omega) (by omega) HX.out).mono ?_; rintro e w' ⟨rfl, rfl⟩; rw [HS.out])
     go_round
     case rel => exact ⟨k + 1, by omega, by go_num, by have := HT.out; omega, by rw [HT.out]; go_num⟩
     case measure => simp [intOf]; omega
    ·have HS : Hid (szI ((intsM).bk x) (left - (xs.length : Int) - (T : Int)) = _) := szI_no hf;have HN : Hid (szI ((slM intsM).bk xs) left = -1) := by unfold Hid; rw [HB.out]; exact szI_no (by omega)
     go_wp2_with (go_at_call 106; refine (szInt64S_rep _ x _ _ _ (by omega) (by omega) HX.out).mono ?_; rintro e w' ⟨rfl, rfl⟩; rw [HS.out])
     go_ret
     exact ⟨ret_int HN.out.symm, rfl⟩
   ·have hkl : k = xs.length := by omega
    subst hkl;rw [List.take_length] at ht ⊢;have HN : Hid (szI ((slM intsM).bk xs) left = left - (xs.length : Int) - (sumbk intsM xs : Int)) := by unfold Hid; rw [HB.out, szI_yes (by omega)]; omega
    go_wp2;go_ret
    exact ⟨ret_int HN.out.symm, rfl⟩
 ·have hl' : left - (xs.length : Int) < 0 := by omega
  rw [szI_no (by omega)];clear hbk h;go_enter Tryz.func58, Tryz.ntmps58;go_wp2;go_ret
  exact ⟨rfl, rfl⟩
theorem Tryz.infoInt64SS : (Tryz.prog.info? 37).map (fun i => (i.zero, i.size, i.bytes)) = some (some (.slice none 0 0), 1, 24) := by kernel_rfl
theorem toInt64SS_rep (a : Option Addr) (xs : List (List Int)) (cap : Nat) (w : World) (h : SlRd intsR w a xs) (hm : (slM intsM).bk xs ≤ 1048576) :
    Calls Tryz.prog 64 #[.slice a xs.length cap] w fun e w' => ∃ v, e = .returned v ∧ MadeR (slR 37 intsR) w w' [v] xs := by
 have hbk : (slM intsM).bk xs = xs.length + sumbk intsM xs := rfl;have hln : xs.length ≤ 1048576 := by omega
 have HB : Hid (sumbk intsM xs ≤ 1048576) := by unfold Hid; omega
 clear hbk hm;have hmk := Go.run_make_row' (P := Tryz.prog) 24 37 (.slice none 0 0) 24 Tryz.underlying24 Tryz.infoInt64SS rfl .i64 .i64 xs.length (by omega) (by omega);go_enter Tryz.func64, Tryz.ntmps64;go_wp2;go_loopw [4] (fun i wr => ∃ k : Nat, k ≤ xs.length ∧ i = .int .i64 k ∧ Fill 37 intsR w wr xs.length (xs.take k)) (fun i _ => xs.length - (intOf i).toNat)
 case atStart => exact ⟨0, Nat.zero_le _, rfl, by simpa using fillR_start (e := 37) (R := intsR) (w0 := w) (n := xs.length) (cs := madeCells #[.slice none 0 0] xs.length) (by unfold maxLen; omega) (by simp [size_madeCells]; exact (Nat.mul_one _).symm)⟩
 case round =>
  obtain ⟨k, hk, rfl, hF⟩ := hrel;by_cases hlt : k < xs.length
  ·have hlt' : (k : Int) < (xs.length : Int) := by omega
   obtain ⟨x, hx⟩ : ∃ x, xs[k]? = some x := ⟨_, List.getElem?_eq_getElem hlt⟩;obtain ⟨b, off, c, rfl, ⟨aj, cj, rfl, hc1, hc2, hrd⟩, hcell⟩ := slrd_at (slrd_next h (fill_below hF)) hx;have g1 := hcell 0 _ rfl;rw [show k * (intsR).size + 0 = k from Nat.mul_one k] at g1;have HR : Hid _ := hrd;have HX : Hid ((intsM).bk x ≤ 1048576) := by unfold Hid; have := sumbk_get (M := intsM) hx; have := HB.out; omega
   have FS : Hid (∀ w1 v, MadeR intsR wr w1 [v] x → _) := fun w1 v hm => fillR_step (w1 := w1) (c := [v]) hF (by simp; omega) hlt hm;have HP : Hid (xs.take k ++ [x] = xs.take (k + 1)) := by unfold Hid; rw [List.take_add_one, hx]; rfl
   clear h hx hrd hcell hmk hF;go_wp2_with (go_at_call 112; refine (toInt64S_rep _ x _ _ HR.out HX.out).mono ?_; rintro e w1 ⟨v, rfl, mm⟩; obtain ⟨av, cv, rfl⟩ := slown_val mm.1; obtain ⟨q1, q2, F1⟩ := FS.out _ _ mm; obtain ⟨v0, hv0⟩ := q1 0 (Nat.zero_lt_one); have hfz := q2 k; rw [show k * (intsR).size + 0 = k from Nat.mul_one k] at hv0; rw [show k * (intsR).size = k from Nat.mul_one k, HP.out] at F1; have HF : Hid _ := F1; clear F1 mm q1 q2)
   go_roundw
   case rel => exact ⟨k + 1, by omega, by go_num, HF.out⟩
   case measure => simp [intOf]; omega
  ·have hkl : k = xs.length := by omega
   subst hkl;rw [List.take_length] at hF;have FE := fillR_end hF rfl;clear hF;go_wp2;go_ret
   exact ⟨_, rfl, FE⟩
theorem eqInt64SS_rep (a1 a2 : Option Addr) (xs : List (List Int)) (c1 c2 : Nat) (w : World) (h1 : SlRd intsR w a1 xs) (h2 : SlRd intsR w a2 xs) (hm : (slM intsM).bk xs ≤ 1152921504606846976) :
    Calls Tryz.prog 78 #[.slice a1 xs.length c1, .slice a2 xs.length c2] w fun e w' => e = .returned (.bool true) ∧ ∃ n, w' = w.drewN n := by
 have hbk : (slM intsM).bk xs = xs.length + sumbk intsM xs := rfl;have hln : xs.length ≤ 1152921504606846976 := by omega
 have HB : Hid (sumbk intsM xs ≤ 1152921504606846976) := by unfold Hid; omega
 clear hbk hm;go_enter Tryz.func78, Tryz.ntmps78;go_wp2;go_loopw [5] (fun i wr => ∃ k : Nat, k ≤ xs.length ∧ i = .int .i64 k ∧ ∃ n, wr = w.drewN n) (fun i _ => xs.length - (intOf i).toNat)
 case atStart => exact ⟨0, Nat.zero_le _, rfl, 0, rfl⟩
 case round =>
  obtain ⟨k, hk, rfl, n, hw⟩ := hrel;by_cases hlt : k < xs.length
  ·have hlt' : (k : Int) < (xs.length : Int) := by omega
   obtain ⟨x, hx⟩ : ∃ x, xs[k]? = some x := ⟨_, List.getElem?_eq_getElem hlt⟩;have kk : ∀ j, j < w.heap.size → wr.heap[j]? = w.heap[j]? := by rw [hw]; exact fun _ _ => rfl
   obtain ⟨b, off, c, rfl, ⟨aj, cj, rfl, hc1, hc2, hrd⟩, hcell⟩ := slrd_at (slrd_keep h1 kk) hx;obtain ⟨b2, off2, c2, rfl, ⟨aj2, cj2, rfl, hc3, hc4, hrd2⟩, hcell2⟩ := slrd_at (slrd_keep h2 kk) hx;have g1 := hcell 0 _ rfl;have g2 := hcell2 0 _ rfl;rw [show k * (intsR).size + 0 = k from Nat.mul_one k] at g1 g2;have HR : Hid (∀ q, SlRd _ (wr.drewN q) aj x) := fun q => slrd_keep hrd (fun _ _ => rfl);have HR2 : Hid (∀ q, SlRd _ (wr.drewN q) aj2 x) := fun q => slrd_keep hrd2 (fun _ _ => rfl);have HX : Hid ((intsM).bk x ≤ 1152921504606846976) := by unfold Hid; have := sumbk_get (M := intsM) hx; have := HB.out; omega
   have HW : Hid (wr = w.drewN n) := hw;clear h1 h2 hx hrd hrd2 hcell hcell2 hw kk;go_wp2_with fail
   go_quiet (first | (go_at_call 11; exact Calls.quiet_of (eqInt64S_rep _ _ x _ _ _ (HR.out _) (HR2.out _) HX.out)))
   go_wp2;go_roundw
   case rel => exact ⟨k + 1, by omega, by go_num, n + nq, by rw [HW.out, World.drewN_drewN]⟩
   case measure => simp [intOf]; omega
  ·go_wp2;go_ret
   first | exact ⟨rfl, _, rfl⟩ | exact ⟨rfl, _, hw⟩
theorem szRows_u : SzC 58 rowsR rowsM cell1 := by
 rintro cs x left w ⟨a, cap, rfl, l1, l2, l3⟩ h0 h1;exact (szInt64SS_rep a x cap left w l3 h0 h1 (Nat.le_trans l1 l2)).mono fun e w' ⟨q, r⟩ => ⟨q, be_eq r⟩
theorem toRows_u : ToC 64 rowsR rowsM cell1 := by
 rintro cs x w ⟨a, cap, rfl, l1, l2, l3⟩ hm;refine (toInt64SS_rep a x cap w l3 hm).mono ?_;rintro e w' ⟨v, rfl, mm⟩;exact ⟨[v], rfl, mm⟩
theorem eqRows_u : EqC 78 rowsR rowsM cell1 := by
 rintro cs ds x w ⟨a, cap, rfl, l1, l2, l3⟩ ⟨b, cp, rfl, k1, k2, k3⟩ hm;refine (eqInt64SS_rep a b x cap cp w l3 k3 (Nat.le_trans hm (by decide))).mono ?_;rintro e w' ⟨q, n, rfl⟩;exact ⟨q, be_drewN (Below.refl _ _) n⟩
theorem szEnts_u : SzC 59 entsR entsM cell1 := by
 rintro cs x left w ⟨a, cap, rfl, l1, l2, l3⟩ h0 h1;exact szEntryS_rep a x cap left w l3 h0 h1 (Nat.le_trans l1 l2)
theorem toEnts_u : ToC 65 entsR entsM cell1 := by
 rintro cs x w ⟨a, cap, rfl, l1, l2, l3⟩ hm;refine (toEntryS_rep a x cap w l3 hm).mono ?_;rintro e w' ⟨v, rfl, mm⟩;exact ⟨[v], rfl, mm⟩
theorem eqEnts_u : EqC 79 entsR entsM cell1 := by
 rintro cs ds x w ⟨a, cap, rfl, l1, l2, l3⟩ ⟨b, cp, rfl, k1, k2, k3⟩ hm;exact eqEntryS_rep a b x cap cp w l3 k3 (Nat.le_trans hm (by decide))
abbrev HouseD := List (List Int) × List EntryD
abbrev houseR : Rep HouseD := prodR rowsR entsR
abbrev houseM : Mk HouseD := prodM rowsM entsM
theorem len1house {l : List Value} (h : l.length = 1) : ∃ a0, l = [a0] := by
 match l, h with
 | [a0], _ => exact ⟨a0, rfl⟩
theorem house_rd {w : World} {cs : List Value} {x : HouseD} (h : houseR.rd w cs x) : ∃ v0 v1, cs = [v0, v1] ∧ rowsR.rd w [v0] x.1 ∧ entsR.rd w [v1] x.2 := by
 obtain ⟨c0, e0, rfl, h0, h1⟩ := h;obtain ⟨v0, rfl⟩ := len1house (rowsR.rd_len h0);obtain ⟨v1, rfl⟩ := len1house (entsR.rd_len h1);exact ⟨v0, v1, rfl, h0, h1⟩
theorem cells_house {w : World} {g : Nat} {x0 x1 : Value} {t : TypeId} (h : w.heap[g]? = some (.cells #[x0, x1] t (0, 0))) : w.cell? ⟨g, 0, none⟩ = some x0 ∧ w.cell? ⟨g, 1, none⟩ = some x1 :=
 ⟨by rw [cell_of_row w g 0 _ t (0, 0) h]; rfl, by rw [cell_of_row w g 1 _ t (0, 0) h]; rfl⟩
theorem szHouse_u : SzC 22 houseR houseM aggV := by
 intro cs x left w h h0 h1;obtain ⟨v0, v1, rfl, r0, r1⟩ := house_rd h;clear h;rw [show houseM.bk x = rowsM.bk x.1 + entsM.bk x.2 from rfl];change Calls Tryz.prog 22 #[.agg #[v0, v1], .int .i64 left] w _
 have C0 : Hid (∀ L W, Below w.heap.size w W → 0 ≤ L → L ≤ 1048576 → Calls Tryz.prog 58 #[v0, .int .i64 L] W fun e w' => e = .returned (.int .i64 (szI (rowsM.bk x.1) L)) ∧ Below W.heap.size W w') := fun L W hb a b => szRows_u [v0] _ L W (rd_next r0 hb) a b;have C1 : Hid (∀ L W, Below w.heap.size w W → 0 ≤ L → L ≤ 1048576 → Calls Tryz.prog 59 #[v1, .int .i64 L] W fun e w' => e = .returned (.int .i64 (szI (entsM.bk x.2) L)) ∧ Below W.heap.size W w') := fun L W hb a b => szEnts_u [v1] _ L W (rd_next r1 hb) a b;clear r0 r1;generalize rowsM.bk x.1 = n0 at C0 ⊢;generalize entsM.bk x.2 = n1 at C1 ⊢;go_enter Tryz.func22, Tryz.ntmps22;go_wp2_with fail
 generalize hW0 : w.alloc _ = W0;have X := boxH hW0;have B := boxB hW0;clear hW0;refine (C0.out (left) _ B (by omega) (by omega)).mono ?_;rintro e w1 ⟨rfl, bq⟩;replace X := row_keep bq X;replace B := below_step B bq;clear bq C0;by_cases l0 : (n0 : Int) ≤ left
 ·rw [szI_yes l0];have g0 : ¬ (left - (n0 : Int) < 0) := by omega
  obtain ⟨y0, y1⟩ := cells_house X;go_wp2_with fail
  clear y0 y1;refine (C1.out (left - (n0 : Int)) _ B (by omega) (by omega)).mono ?_;rintro e w2 ⟨rfl, bq⟩;replace X := row_keep bq X;replace B := below_step B bq;clear bq C1;by_cases l1 : (n1 : Int) ≤ left - (n0 : Int)
  ·rw [szI_yes l1];have g1 : ¬ (left - (n0 : Int) - (n1 : Int) < 0) := by omega
   obtain ⟨y0, y1⟩ := cells_house X;clear y0 y1 X;go_wp2;go_ret
   exact ⟨ret_int (by rw [szI_yes (by omega)]; omega), B⟩
  ·rw [szI_no l1];clear X;go_wp2;go_ret
   exact ⟨ret_int (szI_no (by omega)).symm, B⟩
 ·rw [szI_no l0];clear X;go_wp2;go_ret
  exact ⟨ret_int (szI_no (by omega)).symm, B⟩
theorem eqHouse_u : EqC 39 houseR houseM aggV := by
 intro cs ds x w h k hm;obtain ⟨v0, v1, rfl, r0, r1⟩ := house_rd h;obtain ⟨u0, u1, rfl, s0, s1⟩ := house_rd k;clear h k;rw [show houseM.bk x = rowsM.bk x.1 + entsM.bk x.2 from rfl] at hm;change Calls Tryz.prog 39 #[.agg #[v0, v1], .agg #[u0, u1]] w _
 have C0 : Hid (∀ W, Below w.heap.size w W → Calls Tryz.prog 78 #[v0, u0] W fun e w' => e = .returned (.bool true) ∧ Below W.heap.size W w') := fun W hb => eqRows_u [v0] [u0] _ W (rd_next r0 hb) (rd_next s0 hb) (by omega);have C1 : Hid (∀ W, Below w.heap.size w W → Calls Tryz.prog 79 #[v1, u1] W fun e w' => e = .returned (.bool true) ∧ Below W.heap.size W w') := fun W hb => eqEnts_u [v1] [u1] _ W (rd_next r1 hb) (rd_next s1 hb) (by omega);clear hm r0 s0 r1 s1;have X := heap_on (.cells #[u0, u1] 42) (heap_at w (.cells #[v0, v1] 42));have Y := heap_at (w.alloc (.cells #[v0, v1] 42)) (.cells #[u0, u1] 42);rw [alloc_len] at Y;have B := below_step (box_below w (.cells #[v0, v1] 42)) (box_below _ (.cells #[u0, u1] 42));go_enter Tryz.func39, Tryz.ntmps39;go_wp2_with fail
 generalize (w.alloc (.cells #[v0, v1] 42)).alloc (.cells #[u0, u1] 42) = W0 at X Y B ⊢;refine (C0.out _ B).mono ?_;rintro e w1 ⟨rfl, bq⟩;replace X := row_keep bq X;replace Y := row_keep bq Y;replace B := below_step B bq;clear bq C0;obtain ⟨y0, y1⟩ := cells_house X;obtain ⟨z0, z1⟩ := cells_house Y;go_wp2_with fail
 clear y0 y1 z0 z1;refine (C1.out _ B).mono ?_;rintro e w2 ⟨rfl, bq⟩;replace X := row_keep bq X;replace Y := row_keep bq Y;replace B := below_step B bq;clear bq C1;obtain ⟨y0, y1⟩ := cells_house X;obtain ⟨z0, z1⟩ := cells_house Y;clear X Y;go_wp2;go_ret
 exact ⟨rfl, B⟩
theorem own_house {w : World} {S S0 S1 : Foot} {v0 v1 : Value} {x : HouseD}  (h0 : rowsR.own w S0 [v0] x.1) (h1 : entsR.own w S1 [v1] x.2) (s0 : Sub S0 S) (s1 : Sub S1 S) (d01 : Dis S0 S1) : houseR.own w S [v0, v1] x := by
 exact ⟨[v0], [v1], S0, S1, rfl, h0, h1, s0, (fun q h => s1 q h), (fun q a h => d01 q a h)⟩
theorem froz_house {w : World} {g : Nat} {cs : Array Value} {t : TypeId} (h : w.heap[g]? = some (.cells cs t (0, 0))) : w.frozen? ⟨g, 0, none⟩ = false ∧ w.frozen? ⟨g, 1, none⟩ = false :=
 ⟨frozen_of_row w g 0 _ t h, frozen_of_row w g 1 _ t h⟩
theorem put_house {w : World} {g : Nat} {x0 x1 y0 y1 : Value} {t : TypeId} (h : w.heap[g]? = some (.cells #[x0, x1] t (0, 0))) : ((w.setCell ⟨g, 0, none⟩ (y0)).setCell ⟨g, 1, none⟩ (y1)).heap[g]? = some (.cells #[y0, y1] t (0, 0)) := by
 have h0 : (w.setCell ⟨g, 0, none⟩ (y0)).heap[g]? = some (.cells #[y0, x1] t (0, 0)) := heap_setCell_same _ g 0 _ t y0 h;have h1 : ((w.setCell ⟨g, 0, none⟩ (y0)).setCell ⟨g, 1, none⟩ (y1)).heap[g]? = some (.cells #[y0, y1] t (0, 0)) := heap_setCell_same _ g 1 _ t y1 h0;exact h1
theorem toHouse_u : ToC 30 houseR houseM aggV := by
 intro cs x w h hm;obtain ⟨v0, v1, rfl, r0, r1⟩ := house_rd h;clear h;rw [show houseM.bk x = rowsM.bk x.1 + entsM.bk x.2 from rfl] at hm;change Calls Tryz.prog 30 #[.agg #[v0, v1]] w _
 have C0 : Hid (∀ W, Below w.heap.size w W → Calls Tryz.prog 64 #[v0] W fun e w' => ∃ a0 c0, e = .returned (.slice a0 x.1.length c0) ∧ MadeR rowsR W w' [.slice a0 x.1.length c0] x.1) := fun W hb => (toRows_u [v0] _ W (rd_next r0 hb) (by omega)).mono (by rintro e w' ⟨ds, rfl, mm⟩; obtain ⟨a0, c0, rfl, -⟩ := rowsR.own_rd mm.1; exact ⟨a0, c0, rfl, mm⟩);have C1 : Hid (∀ W, Below w.heap.size w W → Calls Tryz.prog 65 #[v1] W fun e w' => ∃ a1 c1, e = .returned (.slice a1 x.2.length c1) ∧ MadeR entsR W w' [.slice a1 x.2.length c1] x.2) := fun W hb => (toEnts_u [v1] _ W (rd_next r1 hb) (by omega)).mono (by rintro e w' ⟨ds, rfl, mm⟩; obtain ⟨a1, c1, rfl, -⟩ := entsR.own_rd mm.1; exact ⟨a1, c1, rfl, mm⟩);clear hm r0 r1;have X0 := heap_on (.cells #[.slice none 0 0, .slice none 0 0] 42) (heap_on (.cells #[.slice none 0 0, .slice none 0 0] 42) (heap_at w (.cells #[v0, v1] 27)));have X1 := heap_on (.cells #[.slice none 0 0, .slice none 0 0] 42) (heap_at (w.alloc (.cells #[v0, v1] 27)) (.cells #[.slice none 0 0, .slice none 0 0] 42));have X2 := heap_at ((w.alloc (.cells #[v0, v1] 27)).alloc (.cells #[.slice none 0 0, .slice none 0 0] 42)) (.cells #[.slice none 0 0, .slice none 0 0] 42);rw [alloc_len] at X1;rw [alloc_len, alloc_len] at X2;have B : Below w.heap.size w (((w.alloc (.cells #[v0, v1] 27)).alloc (.cells #[.slice none 0 0, .slice none 0 0] 42)).alloc (.cells #[.slice none 0 0, .slice none 0 0] 42)) := (((Below.refl _ w).alloc (Nat.le_refl _) _).alloc (by simp) _).alloc (by simp; omega) _;have e3 : w.heap.size + 1 + 1 + 1 ≤ (((w.alloc (.cells #[v0, v1] 27)).alloc (.cells #[.slice none 0 0, .slice none 0 0] 42)).alloc (.cells #[.slice none 0 0, .slice none 0 0] 42)).heap.size := by simp
 go_enter Tryz.func30, Tryz.ntmps30;go_wp2_with fail
 generalize ((w.alloc (.cells #[v0, v1] 27)).alloc (.cells #[.slice none 0 0, .slice none 0 0] 42)).alloc (.cells #[.slice none 0 0, .slice none 0 0] 42) = u0 at X0 X1 X2 B e3 ⊢;refine (C0.out _ B).mono ?_;rintro e w1 ⟨a0, c0, rfl, mm⟩;have hs0 := mm.2.size;replace B := below_step B mm.2;replace X0 := row_keep mm.2 X0;replace X1 := row_keep mm.2 X1;replace X2 := row_keep mm.2 X2;have O0 := mm.1;clear mm C0;obtain ⟨p0, p1⟩ := cells_house X0;obtain ⟨y0, y1⟩ := cells_house X2;obtain ⟨f0, f1⟩ := froz_house X2;have HS : Hid _ := And.intro X0 (And.intro X1 (And.intro X2 (And.intro B (O0))));clear X0 X1 X2 B O0;go_wp2_with fail
 clear p0 p1 y0 y1 f0 f1;obtain ⟨X0, X1, X2, B, O0⟩ := HS.out;clear HS;have k0 : (w1.setCell ⟨w.heap.size + 1 + 1, 0, none⟩ (.slice a0 x.1.length c0)).heap[w.heap.size + 1 + 1]? = some (.cells #[.slice a0 x.1.length c0, .slice none 0 0] 42 (0, 0)) := heap_setCell_same _ (w.heap.size + 1 + 1) 0 _ _ (.slice a0 x.1.length c0) X2;have qn0 := (heap_setC (g := w.heap.size + 1 + 1) (o := 0) (v := .slice a0 x.1.length c0) X0 (by omega));have qn1 := (heap_setC (g := w.heap.size + 1 + 1) (o := 0) (v := .slice a0 x.1.length c0) X1 (by omega));have qb1 : Below w.heap.size w (w1.setCell ⟨w.heap.size + 1 + 1, 0, none⟩ (.slice a0 x.1.length c0)) := (below_setC B (by omega));have qo0 : rowsR.own (w1.setCell ⟨w.heap.size + 1 + 1, 0, none⟩ (.slice a0 x.1.length c0)) _ _ _ := (own_setC O0 (fun h => by have := h.1; omega));have qz1 : w1.heap.size ≤ (w1.setCell ⟨w.heap.size + 1 + 1, 0, none⟩ (.slice a0 x.1.length c0)).heap.size := by simp
 have qz2 : (w1.setCell ⟨w.heap.size + 1 + 1, 0, none⟩ (.slice a0 x.1.length c0)).heap.size ≤ w1.heap.size := by simp
 clear X0 X1 X2 B O0 ;generalize (w1.setCell ⟨w.heap.size + 1 + 1, 0, none⟩ (.slice a0 x.1.length c0)) = u1 at qn0 qn1 k0 qb1 qz1 qz2 qo0 ⊢;have X0 := qn0;have X1 := qn1;have X2 := k0;have B := qb1;have O0 := qo0;have za0 := qz1;have zb0 := qz2;clear qn0 qn1 k0 qb1 qz1 qz2 qo0;refine (C1.out _ B).mono ?_;rintro e w2 ⟨a1, c1, rfl, mm⟩;have hs1 := mm.2.size;replace B := below_step B mm.2;replace X0 := row_keep mm.2 X0;replace X1 := row_keep mm.2 X1;replace X2 := row_keep mm.2 X2;replace O0 := own_stay O0 mm.2 (by omega);have O1 := mm.1;clear mm C1;obtain ⟨p0, p1⟩ := cells_house X0;obtain ⟨y0, y1⟩ := cells_house X2;obtain ⟨f0, f1⟩ := froz_house X2;obtain ⟨z0, z1⟩ := cells_house X1;obtain ⟨g0, g1⟩ := froz_house X1;have HS : Hid _ := And.intro X0 (And.intro X1 (And.intro X2 (And.intro B (And.intro O0 (O1)))));clear X0 X1 X2 B O0 O1;go_wp2;clear p0 p1 y0 y1 f0 f1 z0 z1 g0 g1;obtain ⟨X0, X1, X2, B, O0, O1⟩ := HS.out;clear HS;have k0 : (w2.setCell ⟨w.heap.size + 1 + 1, 1, none⟩ (.slice a1 x.2.length c1)).heap[w.heap.size + 1 + 1]? = some (.cells #[.slice a0 x.1.length c0, .slice a1 x.2.length c1] 42 (0, 0)) := heap_setCell_same _ (w.heap.size + 1 + 1) 1 _ _ (.slice a1 x.2.length c1) X2;have V := put_house (y0 := .slice a0 x.1.length c0) (y1 := .slice a1 x.2.length c1) (heap_setC (g := w.heap.size + 1 + 1) (o := 1) (v := .slice a1 x.2.length c1) X1 (by omega));obtain ⟨r0, r1⟩ := cells_house V;refine bodyPost_ret (v := .agg #[.slice a0 x.1.length c0, .slice a1 x.2.length c1]) (by simp [results, Tryz.results30, go_sem, r0, r1]) rfl ⟨[.slice a0 x.1.length c0, .slice a1 x.2.length c1], rfl, own_house (S0 := rng u0.heap.size w1.heap.size) (S1 := rng u1.heap.size w2.heap.size)  ?_ ?_ (rng_sub (by omega) (by simp <;> omega)) (rng_sub (by omega) (by simp <;> omega)) (rng_dis (.inl (by omega))), ?_⟩
 ·exact (own_setC (own_setC (own_setC O0 (fun h => by have := h.1; omega)) (fun h => by have := h.1; omega)) (fun h => by have := h.1; omega))
 ·exact (own_setC (own_setC (own_setC O1 (fun h => by have := h.1; omega)) (fun h => by have := h.1; omega)) (fun h => by have := h.1; omega))
 ·exact (below_setC (below_setC (below_setC B (by omega)) (by omega)) (by omega))
theorem house_shape {w : World} {cs : List Value} {x : HouseD} (h : houseR.rd w cs x) : ∃ (a0 : Option Addr) (c0 : Nat) (a1 : Option Addr) (c1 : Nat), cs = [.slice a0 x.1.length c0, .slice a1 x.2.length c1] := by
 obtain ⟨v0, v1, rfl, r0, r1⟩ := house_rd h;obtain ⟨a0, c0, e0, -⟩ := r0;simp only [List.cons.injEq, and_true] at e0;obtain rfl := e0;obtain ⟨a1, c1, e1, -⟩ := r1;simp only [List.cons.injEq, and_true] at e1;obtain rfl := e1;exact ⟨a0, c0, a1, c1, rfl⟩
theorem opens_house : Opens Tryz.prog 27 houseR :=
 opens_struct Tryz.underlying27 (by kernel_rfl) (opensF_cons rfl (by kernel_rfl) opens_rows (opensF_one rfl (by kernel_rfl) opens_ents))
end Go.Proofs.YtcocbafhcpdheaaGreatDoor
