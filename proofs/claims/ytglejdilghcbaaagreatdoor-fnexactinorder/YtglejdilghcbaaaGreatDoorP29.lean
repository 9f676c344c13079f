import Derived.Test.YtglejdilghcbaaaGreatDoorP00Box
import Derived.Test.YtglejdilghcbaaaGreatDoorP25
import Derived.Test.YtglejdilghcbaaaGreatDoorP13
namespace Go.Proofs.YtglejdilghcbaaaGreatDoor
set_option maxHeartbeats 8000000
set_option maxRecDepth 20000
open Go.ChangeShapes Go.WideShapes Go.ChangeAt Go.RowKit
set_option linter.unusedVariables false
theorem szInt64SS_rep (a : Option Addr) (xs : List (List Int)) (cap : Nat) (left : Int) (w : World) (h : SlRd intsR w a xs) (h0 : 0 ≤ left) (h1 : left ≤ 1048576) (hm : xs.length ≤ maxLen) :
    Calls Tryz.prog 31 #[sL a xs.length cap, nI left] w fun e l => e = .returned (nI (szI ((slM intsM).bk xs) left)) ∧ l = w := by
 have I : xs.length ≤ 9223372036854775807 := hm;have f : (slM intsM).bk xs = xs.length + sumbk intsM xs := rfl;clear hm;by_cases hl : (xs.length : Int) ≤ left
 ·have o : ¬ (left - (xs.length : Int) < 0) := by omega
  have D : Hid _ := f;clear f;go_enter Tryz.func31, Tryz.ntmps31;go_wp2;go_loop [1, 5] (fun q i => ∃ k : Nat, k ≤ xs.length ∧ i = nI k ∧ (sumbk intsM (xs.take k) : Int) + xs.length ≤ left ∧ q = nI (left - (xs.length : Int) - sumbk intsM (xs.take k))) (fun _ i => xs.length - (intOf i).toNat)
  case atStart => exact ⟨0, Nat.zero_le _, rfl, by simp [sumbk]; omega, by simp [sumbk]⟩
  case round =>
   obtain ⟨k, hk, rfl, C, rfl⟩ := hrel;by_cases n : k < xs.length
   ·have A : (k : Int) < (xs.length : Int) := by omega
    obtain ⟨x, j⟩ : ∃ x, xs[k]? = some x := ⟨_, List.getElem?_eq_getElem n⟩;obtain ⟨b, H, c, rfl, ⟨aj, cj, rfl, s, r, g⟩, d⟩ := slrd_at h j;have F := d 0 _ rfl;rw [show k * (intsR).size + 0 = k from Nat.mul_one k] at F;have HR : Hid _ := g;have E : Hid _ := Nat.le_trans s r;have z : Hid _ := sumbk_step (M := intsM) j;have m := sumbk_get (M := intsM) j;clear h j d g;generalize sumbk intsM (xs.take k) = T at C z m ⊢;by_cases B : (((intsM).bk x : Nat) : Int) ≤ left - (xs.length : Int) - (T : Int)
    ·have G : ¬ (left - (xs.length : Int) - (T : Int) - (((intsM).bk x : Nat) : Int) < 0) := by omega
     have y : Hid (szI ((intsM).bk x) (left - (xs.length : Int) - (T : Int)) = _) := szI_yes B;go_wp2_with (go_at_call 68; refine (szInt64S_rep _ x _ _ _ (by omega) (by omega) E.out).mono ?_; rintro e l ⟨rfl, rfl⟩; rw [y.out])
     go_round
     case rel => exact ⟨k + 1, by omega, by go_num, by have := z.out; omega, by rw [z.out]; go_num⟩
     case measure => simp [intOf]; omega
    ·have y : Hid (szI ((intsM).bk x) (left - (xs.length : Int) - (T : Int)) = _) := szI_no B;have v : Hid (szI ((slM intsM).bk xs) left = -1) := by unfold Hid; rw [D.out]; exact szI_no (by omega)
     go_wp2_with (go_at_call 68; refine (szInt64S_rep _ x _ _ _ (by omega) (by omega) E.out).mono ?_; rintro e l ⟨rfl, rfl⟩; rw [y.out])
     go_ret
     exact ⟨ret_int v.out.symm, rfl⟩
   ·have p : k = xs.length := by omega
    subst p;rw [List.take_length] at C ⊢;have v : Hid (szI ((slM intsM).bk xs) left = left - (xs.length : Int) - (sumbk intsM xs : Int)) := by unfold Hid; rw [D.out, szI_yes (by omega)]; omega
    go_wp2;go_ret
    exact ⟨ret_int v.out.symm, rfl⟩
 ·have o : left - (xs.length : Int) < 0 := by omega
  rw [szI_no (by omega)];clear f h;go_enter Tryz.func31, Tryz.ntmps31;go_wp2;go_ret
  exact ⟨rfl, rfl⟩
theorem Tryz.infoInt64SS : (Tryz.prog.info? 59).map (fun i => (i.zero, i.size, i.bytes)) = some (some (sL none 0 0), 1, 24) := by kernel_rfl
theorem toInt64SS_rep (a : Option Addr) (xs : List (List Int)) (cap : Nat) (w : World) (h : SlRd intsR w a xs) (hm : (slM intsM).bk xs ≤ 1048576) :
    Calls Tryz.prog 47 #[sL a xs.length cap] w fun e w' => ∃ v, e = .returned v ∧ MadeR (slR 59 intsR) w w' [v] xs := by
 have o : (slM intsM).bk xs = xs.length + sumbk intsM xs := rfl;have C : xs.length ≤ 1048576 := by omega
 have I : Hid (sumbk intsM xs ≤ 1048576) := by unfold Hid; omega
 clear o hm;have m := Go.run_make_row' (P := Tryz.prog) 24 59 (sL none 0 0) 24 Tryz.underlying24 Tryz.infoInt64SS rfl .i64 .i64 xs.length (by omega) (by omega);go_enter Tryz.func47, Tryz.ntmps47;go_wp2;go_loopw [4] (fun i wr => ∃ k : Nat, k ≤ xs.length ∧ i = nI k ∧ Fill 59 intsR w wr xs.length (xs.take k)) (fun i _ => xs.length - (intOf i).toNat)
 case atStart => exact ⟨0, Nat.zero_le _, rfl, by simpa using fillR_start (e := 59) (R := intsR) (w0 := w) (n := xs.length) (cs := madeCells #[sL none 0 0] xs.length) (by unfold maxLen; omega) (by simp [size_madeCells]; exact (Nat.mul_one _).symm)⟩
 case round =>
  obtain ⟨k, hk, rfl, f⟩ := hrel;by_cases g : k < xs.length
  ·have y : (k : Int) < (xs.length : Int) := by omega
   obtain ⟨x, l⟩ : ∃ x, xs[k]? = some x := ⟨_, List.getElem?_eq_getElem g⟩;obtain ⟨b, G, c, rfl, ⟨aj, cj, rfl, K, D, j⟩, d⟩ := slrd_at (slrd_next h (fill_below f)) l;have B := d 0 _ rfl;rw [show k * (intsR).size + 0 = k from Nat.mul_one k] at B;have L : Hid _ := j;have O : Hid ((intsM).bk x ≤ 1048576) := by unfold Hid; have := sumbk_get (M := intsM) l; have := I.out; omega
   have E : Hid (∀ w1 v, MadeR intsR wr w1 [v] x → _) := fun w1 v hm => fillR_step (w1 := w1) (c := [v]) f (by simp; omega) g hm;have J : Hid (xs.take k ++ [x] = xs.take (k + 1)) := by unfold Hid; rw [List.take_add_one, l]; rfl
   clear h l j d m f;go_wp2_with (go_at_call 87; refine (toInt64S_rep _ x _ _ L.out O.out).mono ?_; rintro e w1 ⟨v, rfl, q⟩; obtain ⟨av, cv, rfl⟩ := slown_val q.1; obtain ⟨z, A, p⟩ := E.out _ _ q; obtain ⟨v0, s⟩ := z 0 (Nat.zero_lt_one); have N := A k; rw [show k * (intsR).size + 0 = k from Nat.mul_one k] at s; rw [show k * (intsR).size = k from Nat.mul_one k, J.out] at p; have H : Hid _ := p; clear p q z A)
   go_roundw
   case rel => exact ⟨k + 1, by omega, by go_num, H.out⟩
   case measure => simp [intOf]; omega
  ·have r : k = xs.length := by omega
   subst r;rw [List.take_length] at f;have F := fillR_end f rfl;clear f;go_wp2;go_ret
   exact ⟨_, rfl, F⟩
theorem eqInt64SS_rep (a1 a2 : Option Addr) (xs : List (List Int)) (c1 A : Nat) (w : World) (h1 : SlRd intsR w a1 xs) (h2 : SlRd intsR w a2 xs) (hm : (slM intsM).bk xs ≤ 1152921504606846976) :
    Calls Tryz.prog 62 #[sL a1 xs.length c1, sL a2 xs.length A] w fun e w' => e = .returned (.bool true) ∧ ∃ n, w' = w.drewN n := by
 have o : (slM intsM).bk xs = xs.length + sumbk intsM xs := rfl;have C : xs.length ≤ 1152921504606846976 := by omega
 have J : Hid (sumbk intsM xs ≤ 1152921504606846976) := by unfold Hid; omega
 clear o hm;go_enter Tryz.func62, Tryz.ntmps62;go_wp2;go_loopw [5] (fun i wr => ∃ k : Nat, k ≤ xs.length ∧ i = nI k ∧ ∃ n, wr = w.drewN n) (fun i _ => xs.length - (intOf i).toNat)
 case atStart => exact ⟨0, Nat.zero_le _, rfl, 0, rfl⟩
 case round =>
  obtain ⟨k, hk, rfl, n, m⟩ := hrel;by_cases p : k < xs.length
  ·have y : (k : Int) < (xs.length : Int) := by omega
   obtain ⟨x, l⟩ : ∃ x, xs[k]? = some x := ⟨_, List.getElem?_eq_getElem p⟩;have v : ∀ j, j < w.heap.size → wr.heap[j]? = w.heap[j]? := by rw [m]; exact fun _ _ => rfl
   obtain ⟨b, H, c, rfl, ⟨K, cj, rfl, L, G, g⟩, d⟩ := slrd_at (slrd_keep h1 v) l;obtain ⟨b2, z, A, rfl, ⟨r, E, rfl, N, D, f⟩, a⟩ := slrd_at (slrd_keep h2 v) l;have B := d 0 _ rfl;have F := a 0 _ rfl;rw [show k * (intsR).size + 0 = k from Nat.mul_one k] at B F;have O : Hid (∀ q, SlRd _ (wr.drewN q) K x) := fun q => slrd_keep g (fun _ _ => rfl);have s : Hid (∀ q, SlRd _ (wr.drewN q) r x) := fun q => slrd_keep f (fun _ _ => rfl);have R : Hid ((intsM).bk x ≤ 1152921504606846976) := by unfold Hid; have := sumbk_get (M := intsM) l; have := J.out; omega
   have I : Hid (wr = w.drewN n) := m;clear h1 h2 l g f d a m v;go_wp2_with fail
   go_quiet (first | (go_at_call 116; exact Calls.quiet_of (eqInt64S_rep _ _ x _ _ _ (O.out _) (s.out _) R.out)))
   go_wp2;go_roundw
   case rel => exact ⟨k + 1, by omega, by go_num, n + nq, by rw [I.out, World.drewN_drewN]⟩
   case measure => simp [intOf]; omega
  ·go_wp2;go_ret
   first | exact ⟨rfl, _, rfl⟩ | exact ⟨rfl, _, m⟩
theorem szRows_u : SzC 31 rowsR rowsM cell1 := by
 rintro cs x left w ⟨a, b, rfl, i, c, g⟩ d f;exact (szInt64SS_rep a x b left w g d f (Nat.le_trans i c)).mono fun e w' ⟨q, r⟩ => ⟨q, be_eq r⟩
theorem toRows_u : ToC 47 rowsR rowsM cell1 := by
 rintro cs x w ⟨a, b, rfl, l1, l2, f⟩ c;refine (toInt64SS_rep a x b w f c).mono ?_;rintro e w' ⟨v, rfl, d⟩;exact ⟨[v], rfl, d⟩
theorem eqRows_u : EqC 62 rowsR rowsM cell1 := by
 rintro cs ds x w ⟨a, c, rfl, l1, l2, d⟩ ⟨b, f, rfl, k1, k2, g⟩ i;refine (eqInt64SS_rep a b x c f w d g (Nat.le_trans i (by decide))).mono ?_;rintro e w' ⟨q, n, rfl⟩;exact ⟨q, be_drewN (Below.refl _ _) n⟩
theorem szEnts_u : SzC 32 entsR entsM cell1 := by
 rintro cs x left w ⟨a, b, rfl, i, c, g⟩ d f;exact szEntryS_rep a x b left w g d f (Nat.le_trans i c)
theorem toEnts_u : ToC 48 entsR entsM cell1 := by
 rintro cs x w ⟨a, b, rfl, l1, l2, f⟩ c;refine (toEntryS_rep a x b w f c).mono ?_;rintro e w' ⟨v, rfl, d⟩;exact ⟨[v], rfl, d⟩
theorem eqEnts_u : EqC 63 entsR entsM cell1 := by
 rintro cs ds x w ⟨a, c, rfl, l1, l2, g⟩ ⟨b, i, rfl, k1, k2, f⟩ d;exact eqEntryS_rep a b x c i w g f (Nat.le_trans d (by decide))
abbrev HouseD := List (List Int) × List EntryD
abbrev houseR : Rep HouseD := prodR rowsR entsR
abbrev houseM : Mk HouseD := prodM rowsM entsM
theorem len1house {l : List Value} (h : l.length = 1) : ∃ a0, l = [a0] := by
 match l, h with
 | [a0], _ => exact ⟨a0, rfl⟩
theorem house_rd {w : World} {cs : List Value} {x : HouseD} (h : houseR.rd w cs x) : ∃ b a, cs = [b, a] ∧ rowsR.rd w [b] x.1 ∧ entsR.rd w [a] x.2 := by
 obtain ⟨c0, e0, rfl, c, d⟩ := h;obtain ⟨b, rfl⟩ := len1house (rowsR.rd_len c);obtain ⟨a, rfl⟩ := len1house (entsR.rd_len d);exact ⟨b, a, rfl, c, d⟩
theorem cells_house {w : World} {g : Nat} {x0 x1 : Value} {t : TypeId} (h : w.heap[g]? = some (.cells #[x0, x1] t (0, 0))) : w.cell? ⟨g, 0, none⟩ = some x0 ∧ w.cell? ⟨g, 1, none⟩ = some x1 :=
 ⟨by rw [cell_of_row w g 0 _ t (0, 0) h]; rfl, by rw [cell_of_row w g 1 _ t (0, 0) h]; rfl⟩
theorem szHouse_u : SzC 9 houseR houseM aggV := by
 intro cs x left w h h0 h1;obtain ⟨k, i, rfl, p, n⟩ := house_rd h;clear h;rw [show houseM.bk x = rowsM.bk x.1 + entsM.bk x.2 from rfl];change Calls Tryz.prog 9 #[.agg #[k, i], nI left] w _
 have g : Hid (∀ L W, Bl w W → 0 ≤ L → L ≤ 1048576 → Calls Tryz.prog 31 #[k, nI L] W fun e w' => e = .returned (nI (szI (rowsM.bk x.1) L)) ∧ Bl W w') := fun L W hb a b => szRows_u [k] _ L W (rd_next p hb) a b;have j : Hid (∀ L W, Bl w W → 0 ≤ L → L ≤ 1048576 → Calls Tryz.prog 32 #[i, nI L] W fun e w' => e = .returned (nI (szI (entsM.bk x.2) L)) ∧ Bl W w') := fun L W hb a b => szEnts_u [i] _ L W (rd_next n hb) a b;clear p n;generalize rowsM.bk x.1 = n0 at g ⊢;generalize entsM.bk x.2 = n1 at j ⊢;go_enter Tryz.func9, Tryz.ntmps9;go_wp2_with fail
 generalize d : w.alloc _ = W0;have X := boxH d;have B := boxB d;clear d;refine (g.out (left) _ B (by omega) (by omega)).mono ?_;rintro e w1 ⟨rfl, c⟩;replace X := row_keep c X;replace B := below_step B c;clear c g;by_cases o : (n0 : Int) ≤ left
 ·rw [szI_yes o];have g0 : ¬ (left - (n0 : Int) < 0) := by omega
  obtain ⟨l, f⟩ := cells_house X;go_wp2_with fail
  clear l f;refine (j.out (left - (n0 : Int)) _ B (by omega) (by omega)).mono ?_;rintro e w2 ⟨rfl, c⟩;replace X := row_keep c X;replace B := below_step B c;clear c j;by_cases m : (n1 : Int) ≤ left - (n0 : Int)
  ·rw [szI_yes m];have g1 : ¬ (left - (n0 : Int) - (n1 : Int) < 0) := by omega
   obtain ⟨l, f⟩ := cells_house X;clear l f X;go_wp2;go_ret
   exact ⟨ret_int (by rw [szI_yes (by omega)]; omega), B⟩
  ·rw [szI_no m];clear X;go_wp2;go_ret
   exact ⟨ret_int (szI_no (by omega)).symm, B⟩
 ·rw [szI_no o];clear X;go_wp2;go_ret
  exact ⟨ret_int (szI_no (by omega)).symm, B⟩
theorem eqHouse_u : EqC 26 houseR houseM aggV := by
 intro cs ds x w h k q;obtain ⟨f, d, rfl, p, n⟩ := house_rd h;obtain ⟨b, c, rfl, l, i⟩ := house_rd k;clear h k;rw [show houseM.bk x = rowsM.bk x.1 + entsM.bk x.2 from rfl] at q;change Calls Tryz.prog 26 #[.agg #[f, d], .agg #[b, c]] w _
 have m : Hid (∀ W, Bl w W → Calls Tryz.prog 62 #[f, b] W fun e w' => e = .returned (.bool true) ∧ Bl W w') := fun W hb => eqRows_u [f] [b] _ W (rd_next p hb) (rd_next l hb) (by omega);have o : Hid (∀ W, Bl w W → Calls Tryz.prog 63 #[d, c] W fun e w' => e = .returned (.bool true) ∧ Bl W w') := fun W hb => eqEnts_u [d] [c] _ W (rd_next n hb) (rd_next i hb) (by omega);clear q p l n i;have X := heap_on (.cells #[b, c] 41) (heap_at w (.cells #[f, d] 41));have Y := heap_at (w.alloc (.cells #[f, d] 41)) (.cells #[b, c] 41);rw [alloc_len] at Y;have B := below_step (box_below w (.cells #[f, d] 41)) (box_below _ (.cells #[b, c] 41));go_enter Tryz.func26, Tryz.ntmps26;go_wp2_with fail
 generalize (w.alloc (.cells #[f, d] 41)).alloc (.cells #[b, c] 41) = W0 at X Y B ⊢;refine (m.out _ B).mono ?_;rintro e w1 ⟨rfl, a⟩;replace X := row_keep a X;replace Y := row_keep a Y;replace B := below_step B a;clear a m;obtain ⟨r, g⟩ := cells_house X;obtain ⟨s, j⟩ := cells_house Y;go_wp2_with fail
 clear r g s j;refine (o.out _ B).mono ?_;rintro e w2 ⟨rfl, a⟩;replace X := row_keep a X;replace Y := row_keep a Y;replace B := below_step B a;clear a o;obtain ⟨r, g⟩ := cells_house X;obtain ⟨s, j⟩ := cells_house Y;clear X Y;go_wp2;go_ret
 exact ⟨rfl, B⟩
theorem own_house {w : World} {S S0 S1 : Foot} {v0 v1 : Value} {x : HouseD}  (h0 : rowsR.own w S0 [v0] x.1) (h1 : entsR.own w S1 [v1] x.2) (s0 : Sub S0 S) (s1 : Sub S1 S) (d01 : Dis S0 S1) : houseR.own w S [v0, v1] x := by
 exact ⟨[v0], [v1], S0, S1, rfl, h0, h1, s0, (fun q h => s1 q h), (fun q a h => d01 q a h)⟩
theorem froz_house {w : World} {g : Nat} {cs : Array Value} {t : TypeId} (h : w.heap[g]? = some (.cells cs t (0, 0))) : w.frozen? ⟨g, 0, none⟩ = false ∧ w.frozen? ⟨g, 1, none⟩ = false :=
 ⟨frozen_of_row w g 0 _ t h, frozen_of_row w g 1 _ t h⟩
theorem put_house {w : World} {g : Nat} {x0 x1 y0 y1 : Value} {t : TypeId} (h : w.heap[g]? = some (.cells #[x0, x1] t (0, 0))) : ((w.setCell ⟨g, 0, none⟩ (y0)).setCell ⟨g, 1, none⟩ (y1)).heap[g]? = some (.cells #[y0, y1] t (0, 0)) := by
 have a : (w.setCell ⟨g, 0, none⟩ (y0)).heap[g]? = some (.cells #[y0, x1] t (0, 0)) := heap_setCell_same _ g 0 _ t y0 h;have b : ((w.setCell ⟨g, 0, none⟩ (y0)).setCell ⟨g, 1, none⟩ (y1)).heap[g]? = some (.cells #[y0, y1] t (0, 0)) := heap_setCell_same _ g 1 _ t y1 a;exact b
theorem toHouse_u : ToC 18 houseR houseM aggV := by
 intro cs x w h O;obtain ⟨n, m, rfl, F, E⟩ := house_rd h;clear h;rw [show houseM.bk x = rowsM.bk x.1 + entsM.bk x.2 from rfl] at O;change Calls Tryz.prog 18 #[.agg #[n, m]] w _
 have M : Hid (∀ W, Bl w W → Calls Tryz.prog 47 #[n] W fun e C => ∃ d c, e = .returned (sL d x.1.length c) ∧ MadeR rowsR W C [sL d x.1.length c] x.1) := fun W hb => (toRows_u [n] _ W (rd_next F hb) (by omega)).mono (by rintro e C ⟨ds, rfl, a⟩; obtain ⟨d, c, rfl, -⟩ := rowsR.own_rd a.1; exact ⟨d, c, rfl, a⟩);have N : Hid (∀ W, Bl w W → Calls Tryz.prog 48 #[m] W fun e C => ∃ l j, e = .returned (sL l x.2.length j) ∧ MadeR entsR W C [sL l x.2.length j] x.2) := fun W hb => (toEnts_u [m] _ W (rd_next E hb) (by omega)).mono (by rintro e C ⟨ds, rfl, a⟩; obtain ⟨l, j, rfl, -⟩ := entsR.own_rd a.1; exact ⟨l, j, rfl, a⟩);clear O F E;have i := heap_on (.cells #[sL none 0 0, sL none 0 0] 41) (heap_on (.cells #[sL none 0 0, sL none 0 0] 41) (heap_at w (.cells #[n, m] 27)));have f := heap_on (.cells #[sL none 0 0, sL none 0 0] 41) (heap_at (w.alloc (.cells #[n, m] 27)) (.cells #[sL none 0 0, sL none 0 0] 41));have b := heap_at ((w.alloc (.cells #[n, m] 27)).alloc (.cells #[sL none 0 0, sL none 0 0] 41)) (.cells #[sL none 0 0, sL none 0 0] 41);rw [alloc_len] at f;rw [alloc_len, alloc_len] at b;have B : Bl w (((w.alloc (.cells #[n, m] 27)).alloc (.cells #[sL none 0 0, sL none 0 0] 41)).alloc (.cells #[sL none 0 0, sL none 0 0] 41)) := (((Below.refl _ w).alloc (Nat.le_refl _) _).alloc (by simp) _).alloc (by simp; omega) _;have e3 : w.heap.size + 1 + 1 + 1 ≤ (((w.alloc (.cells #[n, m] 27)).alloc (.cells #[sL none 0 0, sL none 0 0] 41)).alloc (.cells #[sL none 0 0, sL none 0 0] 41)).heap.size := by simp
 go_enter Tryz.func18, Tryz.ntmps18;go_wp2_with fail
 generalize ((w.alloc (.cells #[n, m] 27)).alloc (.cells #[sL none 0 0, sL none 0 0] 41)).alloc (.cells #[sL none 0 0, sL none 0 0] 41) = u0 at i f b B e3 ⊢;refine (M.out _ B).mono ?_;rintro e p ⟨d, c, rfl, a⟩;have Y := a.2.size;replace B := below_step B a.2;replace i := row_keep a.2 i;replace f := row_keep a.2 f;replace b := row_keep a.2 b;have k := a.1;clear a M;obtain ⟨I, J⟩ := cells_house i;obtain ⟨y0, y1⟩ := cells_house b;obtain ⟨L, K⟩ := froz_house b;have D : Hid _ := aI i (aI f (aI b (aI B (k))));clear i f b B k;go_wp2_with fail
 clear I J y0 y1 L K;obtain ⟨i, f, b, B, k⟩ := D.out;clear D;have G : (p.setCell ⟨w.heap.size + 1 + 1, 0, none⟩ (sL d x.1.length c)).heap[w.heap.size + 1 + 1]? = some (.cells #[sL d x.1.length c, sL none 0 0] 41 (0, 0)) := heap_setCell_same _ (w.heap.size + 1 + 1) 0 _ _ (sL d x.1.length c) b;have y := (heap_setC (g := w.heap.size + 1 + 1) (o := 0) (v := sL d x.1.length c) i (by omega));have q := (heap_setC (g := w.heap.size + 1 + 1) (o := 0) (v := sL d x.1.length c) f (by omega));have A : Bl w (p.setCell ⟨w.heap.size + 1 + 1, 0, none⟩ (sL d x.1.length c)) := (below_setC B (by omega));have z : rowsR.own (p.setCell ⟨w.heap.size + 1 + 1, 0, none⟩ (sL d x.1.length c)) _ _ _ := (own_setC k (fun h => by have := h.1; omega));have s : p.heap.size ≤ (p.setCell ⟨w.heap.size + 1 + 1, 0, none⟩ (sL d x.1.length c)).heap.size := by simp
 have r : (p.setCell ⟨w.heap.size + 1 + 1, 0, none⟩ (sL d x.1.length c)).heap.size ≤ p.heap.size := by simp
 clear i f b B k ;generalize (p.setCell ⟨w.heap.size + 1 + 1, 0, none⟩ (sL d x.1.length c)) = u1 at y q G A s r z ⊢;have i := y;have f := q;have b := G;have B := A;have k := z;have aA := s;have S := r;clear y q G A s r z;refine (N.out _ B).mono ?_;rintro e R ⟨l, j, rfl, a⟩;have X := a.2.size;replace B := below_step B a.2;replace i := row_keep a.2 i;replace f := row_keep a.2 f;replace b := row_keep a.2 b;replace k := own_stay k a.2 (by omega);have H := a.1;clear a N;obtain ⟨I, J⟩ := cells_house i;obtain ⟨y0, y1⟩ := cells_house b;obtain ⟨L, K⟩ := froz_house b;obtain ⟨z0, U⟩ := cells_house f;obtain ⟨Z, T⟩ := froz_house f;have D : Hid _ := aI i (aI f (aI b (aI B (aI k (H)))));clear i f b B k H;go_wp2;clear I J y0 y1 L K z0 U Z T;obtain ⟨i, f, b, B, k, H⟩ := D.out;clear D;have G : (R.setCell ⟨w.heap.size + 1 + 1, 1, none⟩ (sL l x.2.length j)).heap[w.heap.size + 1 + 1]? = some (.cells #[sL d x.1.length c, sL l x.2.length j] 41 (0, 0)) := heap_setCell_same _ (w.heap.size + 1 + 1) 1 _ _ (sL l x.2.length j) b;have V := put_house (y0 := sL d x.1.length c) (y1 := sL l x.2.length j) (heap_setC (g := w.heap.size + 1 + 1) (o := 1) (v := sL l x.2.length j) f (by omega));obtain ⟨F, E⟩ := cells_house V;refine bodyPost_ret (v := .agg #[sL d x.1.length c, sL l x.2.length j]) (by simp [results, Tryz.results18, go_sem, F, E]) rfl ⟨[sL d x.1.length c, sL l x.2.length j], rfl, own_house (S0 := rng u0.heap.size p.heap.size) (S1 := rng u1.heap.size R.heap.size)  ?_ ?_ (rng_sub (by omega) (by simp <;> omega)) (rng_sub (by omega) (by simp <;> omega)) (rng_dis (.inl (by omega))), ?_⟩
 ·exact (own_setC (own_setC (own_setC k (fun h => by have := h.1; omega)) (fun h => by have := h.1; omega)) (fun h => by have := h.1; omega))
 ·exact (own_setC (own_setC (own_setC H (fun h => by have := h.1; omega)) (fun h => by have := h.1; omega)) (fun h => by have := h.1; omega))
 ·exact (below_setC (below_setC (below_setC B (by omega)) (by omega)) (by omega))
theorem house_shape {w : World} {cs : List Value} {x : HouseD} (h : houseR.rd w cs x) : ∃ (d : Option Addr) (a : Nat) (c : Option Addr) (b : Nat), cs = [sL d x.1.length a, sL c x.2.length b] := by
 obtain ⟨v0, v1, rfl, i, j⟩ := house_rd h;obtain ⟨d, a, f, -⟩ := i;simp only [List.cons.injEq, and_true] at f;obtain rfl := f;obtain ⟨c, b, g, -⟩ := j;simp only [List.cons.injEq, and_true] at g;obtain rfl := g;exact ⟨d, a, c, b, rfl⟩
theorem opens_house : Opens Tryz.prog 27 houseR :=
 opens_struct Tryz.underlying27 (by kernel_rfl) (opensF_cons rfl (by kernel_rfl) opens_rows (opensF_one rfl (by kernel_rfl) opens_ents))
end Go.Proofs.YtglejdilghcbaaaGreatDoor
