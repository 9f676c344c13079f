import Derived.Test.YtdamokokcdcedaaGreatDoorE00Box
import Derived.Test.YtdamokokcdcedaaGreatDoorE23
import Derived.Test.YtdamokokcdcedaaGreatDoorE14
namespace Go.Proofs.YtdamokokcdcedaaGreatDoor
set_option maxHeartbeats 8000000
set_option maxRecDepth 20000
open Go.ChangeShapes Go.WideShapes Go.ChangeAt Go.RowKit
set_option linter.unusedVariables false
theorem szInt64SS_rep (a : Option Addr) (xs : List (List Int)) (cap : Nat) (left : Int) (w : World) (h : SlRd intsR w a xs) (h0 : 0 ≤ left) (h1 : left ≤ 1048576) (hm : xs.length ≤ maxLen) :
    Calls Tryz.prog 60 #[sL a xs.length cap, nI left] w fun e n => e = .returned (nI (szI ((slM intsM).bk xs) left)) ∧ n = w := by
 have H : xs.length ≤ 9223372036854775807 := hm;have f : (slM intsM).bk xs = xs.length + sumbk intsM xs := rfl;clear hm;by_cases hl : (xs.length : Int) ≤ left
 ·have y : ¬ (left - (xs.length : Int) < 0) := by omega
  have D : Hid _ := f;clear f;go_enter Tryz.func60, Tryz.ntmps60;go_wp2;go_loop [1, 5] (fun q i => ∃ k : Nat, k ≤ xs.length ∧ i = nI k ∧ (sumbk intsM (xs.take k) : Int) + xs.length ≤ left ∧ q = nI (left - (xs.length : Int) - sumbk intsM (xs.take k))) (fun _ i => xs.length - (intOf i).toNat)
  case atStart => exact ⟨0, Nat.zero_le _, rfl, by simp [sumbk]; omega, by simp [sumbk]⟩
  case round =>
   obtain ⟨k, hk, rfl, E, rfl⟩ := hrel;by_cases r : k < xs.length
   ·have B : (k : Int) < (xs.length : Int) := by omega
    obtain ⟨x, j⟩ : ∃ x, xs[k]? = some x := ⟨_, List.getElem?_eq_getElem r⟩;obtain ⟨b, I, c, rfl, ⟨aj, cj, rfl, o, z, g⟩, d⟩ := slrd_at h j;have G := d 0 _ rfl;rw [show k * (intsR).size + 0 = k from Nat.mul_one k] at G;have HR : Hid _ := g;have A : Hid _ := Nat.le_trans o z;have l : Hid _ := sumbk_step (M := intsM) j;have p := sumbk_get (M := intsM) j;clear h j d g;generalize sumbk intsM (xs.take k) = T at E l p ⊢;by_cases C : (((intsM).bk x : Nat) : Int) ≤ left - (xs.length : Int) - (T : Int)
    ·have F : ¬ (left - (xs.length : Int) - (T : Int) - (((intsM).bk x : Nat) : Int) < 0) := by omega
     have s : Hid (szI ((intsM).bk x) (left - (xs.length : Int) - (T : Int)) = _) := szI_yes C;go_wp2_with (go_at_call 120; refine (szInt64S_rep _ x _ _ _ (by omega) (by omega) A.out).mono ?_; rintro e n ⟨rfl, rfl⟩; rw [s.out])
     go_round
     case rel => exact ⟨k + 1, by omega, by go_num, by have := l.out; omega, by rw [l.out]; go_num⟩
     case measure => simp [intOf]; omega
    ·have s : Hid (szI ((intsM).bk x) (left - (xs.length : Int) - (T : Int)) = _) := szI_no C;have v : Hid (szI ((slM intsM).bk xs) left = -1) := by unfold Hid; rw [D.out]; exact szI_no (by omega)
     go_wp2_with (go_at_call 120; refine (szInt64S_rep _ x _ _ _ (by omega) (by omega) A.out).mono ?_; rintro e n ⟨rfl, rfl⟩; rw [s.out])
     go_ret
     exact ⟨ret_int v.out.symm, rfl⟩
   ·have m : k = xs.length := by omega
    subst m;rw [List.take_length] at E ⊢;have v : Hid (szI ((slM intsM).bk xs) left = left - (xs.length : Int) - (sumbk intsM xs : Int)) := by unfold Hid; rw [D.out, szI_yes (by omega)]; omega
    go_wp2;go_ret
    exact ⟨ret_int v.out.symm, rfl⟩
 ·have y : left - (xs.length : Int) < 0 := by omega
  rw [szI_no (by omega)];clear f h;go_enter Tryz.func60, Tryz.ntmps60;go_wp2;go_ret
  exact ⟨rfl, rfl⟩
theorem Tryz.infoInt64SS : (Tryz.prog.info? 68).map (fun i => (i.zero, i.size, i.bytes)) = some (some (sL none 0 0), 1, 24) := by kernel_rfl
theorem toInt64SS_rep (a : Option Addr) (xs : List (List Int)) (cap : Nat) (w : World) (h : SlRd intsR w a xs) (hm : (slM intsM).bk xs ≤ 1048576) :
    Calls Tryz.prog 77 #[sL a xs.length cap] w fun e w' => ∃ v, e = .returned v ∧ MadeR (slR 68 intsR) w w' [v] xs := by
 have o : (slM intsM).bk xs = xs.length + sumbk intsM xs := rfl;have I : xs.length ≤ 1048576 := by omega
 have L : Hid (sumbk intsM xs ≤ 1048576) := by unfold Hid; omega
 clear o hm;have q := Go.run_make_row' (P := Tryz.prog) 24 68 (sL none 0 0) 24 Tryz.underlying24 Tryz.infoInt64SS rfl .i64 .i64 xs.length (by omega) (by omega);go_enter Tryz.func77, Tryz.ntmps77;go_wp2;go_loopw [4] (fun i wr => ∃ k : Nat, k ≤ xs.length ∧ i = nI k ∧ Fill 68 intsR w wr xs.length (xs.take k)) (fun i _ => xs.length - (intOf i).toNat)
 case atStart => exact ⟨0, Nat.zero_le _, rfl, by simpa using fillR_start (e := 68) (R := intsR) (w0 := w) (n := xs.length) (cs := madeCells #[sL none 0 0] xs.length) (by unfold maxLen; omega) (by simp [size_madeCells]; exact (Nat.mul_one _).symm)⟩
 case round =>
  obtain ⟨k, hk, rfl, f⟩ := hrel;by_cases g : k < xs.length
  ·have z : (k : Int) < (xs.length : Int) := by omega
   obtain ⟨x, l⟩ : ∃ x, xs[k]? = some x := ⟨_, List.getElem?_eq_getElem g⟩;obtain ⟨b, G, c, rfl, ⟨aj, cj, rfl, E, O, j⟩, d⟩ := slrd_at (slrd_next h (fill_below f)) l;have D := d 0 _ rfl;rw [show k * (intsR).size + 0 = k from Nat.mul_one k] at D;have H : Hid _ := j;have B : Hid ((intsM).bk x ≤ 1048576) := by unfold Hid; have := sumbk_get (M := intsM) l; have := L.out; omega
   have C : Hid (∀ w1 v, MadeR intsR wr w1 [v] x → _) := fun w1 v hm => fillR_step (w1 := w1) (c := [v]) f (by simp; omega) g hm;have F : Hid (xs.take k ++ [x] = xs.take (k + 1)) := by unfold Hid; rw [List.take_add_one, l]; rfl
   clear h l j d q f;go_wp2_with (go_at_call 138; refine (toInt64S_rep _ x _ _ H.out B.out).mono ?_; rintro e w1 ⟨v, rfl, p⟩; obtain ⟨av, cv, rfl⟩ := slown_val p.1; obtain ⟨y, A, r⟩ := C.out _ _ p; obtain ⟨v0, s⟩ := y 0 (Nat.zero_lt_one); have J := A k; rw [show k * (intsR).size + 0 = k from Nat.mul_one k] at s; rw [show k * (intsR).size = k from Nat.mul_one k, F.out] at r; have N : Hid _ := r; clear r p y A)
   go_roundw
   case rel => exact ⟨k + 1, by omega, by go_num, N.out⟩
   case measure => simp [intOf]; omega
  ·have m : k = xs.length := by omega
   subst m;rw [List.take_length] at f;have K := fillR_end f rfl;clear f;go_wp2;go_ret
   exact ⟨_, rfl, K⟩
theorem eqInt64SS_rep (a1 a2 : Option Addr) (xs : List (List Int)) (c1 A : Nat) (w : World) (h1 : SlRd intsR w a1 xs) (h2 : SlRd intsR w a2 xs) (hm : (slM intsM).bk xs ≤ 1152921504606846976) :
    Calls Tryz.prog 10 #[sL a1 xs.length c1, sL a2 xs.length A] w fun e w' => e = .returned (.bool true) ∧ ∃ n, w' = w.drewN n := by
 have o : (slM intsM).bk xs = xs.length + sumbk intsM xs := rfl;have G : xs.length ≤ 1152921504606846976 := by omega
 have K : Hid (sumbk intsM xs ≤ 1152921504606846976) := by unfold Hid; omega
 clear o hm;go_enter Tryz.func10, Tryz.ntmps10;go_wp2;go_loopw [5] (fun i wr => ∃ k : Nat, k ≤ xs.length ∧ i = nI k ∧ ∃ n, wr = w.drewN n) (fun i _ => xs.length - (intOf i).toNat)
 case atStart => exact ⟨0, Nat.zero_le _, rfl, 0, rfl⟩
 case round =>
  obtain ⟨k, hk, rfl, n, l⟩ := hrel;by_cases r : k < xs.length
  ·have y : (k : Int) < (xs.length : Int) := by omega
   obtain ⟨x, m⟩ : ∃ x, xs[k]? = some x := ⟨_, List.getElem?_eq_getElem r⟩;have p : ∀ j, j < w.heap.size → wr.heap[j]? = w.heap[j]? := by rw [l]; exact fun _ _ => rfl
   obtain ⟨b, E, c, rfl, ⟨I, cj, rfl, D, N, g⟩, d⟩ := slrd_at (slrd_keep h1 p) m;obtain ⟨b2, z, A, rfl, ⟨s, H, rfl, O, J, f⟩, a⟩ := slrd_at (slrd_keep h2 p) m;have C := d 0 _ rfl;have R := a 0 _ rfl;rw [show k * (intsR).size + 0 = k from Nat.mul_one k] at C R;have F : Hid (∀ q, SlRd _ (wr.drewN q) I x) := fun q => slrd_keep g (fun _ _ => rfl);have v : Hid (∀ q, SlRd _ (wr.drewN q) s x) := fun q => slrd_keep f (fun _ _ => rfl);have B : Hid ((intsM).bk x ≤ 1152921504606846976) := by unfold Hid; have := sumbk_get (M := intsM) m; have := K.out; omega
   have L : Hid (wr = w.drewN n) := l;clear h1 h2 m g f d a l p;go_wp2_with fail
   go_quiet (first | (go_at_call 39; exact Calls.quiet_of (eqInt64S_rep _ _ x _ _ _ (F.out _) (v.out _) B.out)))
   go_wp2;go_roundw
   case rel => exact ⟨k + 1, by omega, by go_num, n + nq, by rw [L.out, World.drewN_drewN]⟩
   case measure => simp [intOf]; omega
  ·go_wp2;go_ret
   first | exact ⟨rfl, _, rfl⟩ | exact ⟨rfl, _, l⟩
theorem szRows_u : SzC 60 rowsR rowsM cell1 := by
 rintro cs x left w ⟨a, b, rfl, i, c, f⟩ g d;exact (szInt64SS_rep a x b left w f g d (Nat.le_trans i c)).mono fun e w' ⟨q, r⟩ => ⟨q, be_eq r⟩
theorem toRows_u : ToC 77 rowsR rowsM cell1 := by
 rintro cs x w ⟨a, b, rfl, l1, l2, f⟩ c;refine (toInt64SS_rep a x b w f c).mono ?_;rintro e w' ⟨v, rfl, d⟩;exact ⟨[v], rfl, d⟩
theorem eqRows_u : EqC 10 rowsR rowsM cell1 := by
 rintro cs ds x w ⟨a, c, rfl, l1, l2, d⟩ ⟨b, f, rfl, k1, k2, g⟩ i;refine (eqInt64SS_rep a b x c f w d g (Nat.le_trans i (by decide))).mono ?_;rintro e w' ⟨q, n, rfl⟩;exact ⟨q, be_drewN (Below.refl _ _) n⟩
theorem szEnts_u : SzC 61 entsR entsM cell1 := by
 rintro cs x left w ⟨a, b, rfl, i, c, f⟩ g d;exact szEntryS_rep a x b left w f g d (Nat.le_trans i c)
theorem toEnts_u : ToC 78 entsR entsM cell1 := by
 rintro cs x w ⟨a, b, rfl, l1, l2, f⟩ c;refine (toEntryS_rep a x b w f c).mono ?_;rintro e w' ⟨v, rfl, d⟩;exact ⟨[v], rfl, d⟩
theorem eqEnts_u : EqC 99 entsR entsM cell1 := by
 rintro cs ds x w ⟨a, c, rfl, l1, l2, i⟩ ⟨b, d, rfl, k1, k2, g⟩ f;exact eqEntryS_rep a b x c d w i g (Nat.le_trans f (by decide))
abbrev HouseD := List (List Int) × List EntryD
abbrev houseR : Rep HouseD := prodR rowsR entsR
abbrev houseM : Mk HouseD := prodM rowsM entsM
theorem len1house {l : List Value} (h : l.length = 1) : ∃ a0, l = [a0] := by
 match l, h with
 | [a0], _ => exact ⟨a0, rfl⟩
theorem house_rd {w : World} {cs : List Value} {x : HouseD} (h : houseR.rd w cs x) : ∃ b a, cs = [b, a] ∧ rowsR.rd w [b] x.1 ∧ entsR.rd w [a] x.2 := by
 obtain ⟨c0, e0, rfl, d, c⟩ := h;obtain ⟨b, rfl⟩ := len1house (rowsR.rd_len d);obtain ⟨a, rfl⟩ := len1house (entsR.rd_len c);exact ⟨b, a, rfl, d, c⟩
theorem cells_house {w : World} {g : Nat} {x0 x1 : Value} {t : TypeId} (h : w.heap[g]? = some (.cells #[x0, x1] t (0, 0))) : w.cell? ⟨g, 0, none⟩ = some x0 ∧ w.cell? ⟨g, 1, none⟩ = some x1 :=
 ⟨by rw [cell_of_row w g 0 _ t (0, 0) h]; rfl, by rw [cell_of_row w g 1 _ t (0, 0) h]; rfl⟩
theorem szHouse_u : SzC 19 houseR houseM aggV := by
 intro cs x left w h h0 h1;obtain ⟨i, k, rfl, m, n⟩ := house_rd h;clear h;rw [show houseM.bk x = rowsM.bk x.1 + entsM.bk x.2 from rfl];change Calls Tryz.prog 19 #[.agg #[i, k], nI left] w _
 have g : Hid (∀ L W, Bl w W → 0 ≤ L → L ≤ 1048576 → Calls Tryz.prog 60 #[i, nI L] W fun e w' => e = .returned (nI (szI (rowsM.bk x.1) L)) ∧ Bl W w') := fun L W hb a b => szRows_u [i] _ L W (rd_next m hb) a b;have j : Hid (∀ L W, Bl w W → 0 ≤ L → L ≤ 1048576 → Calls Tryz.prog 61 #[k, nI L] W fun e w' => e = .returned (nI (szI (entsM.bk x.2) L)) ∧ Bl W w') := fun L W hb a b => szEnts_u [k] _ L W (rd_next n hb) a b;clear m n;generalize rowsM.bk x.1 = n0 at g ⊢;generalize entsM.bk x.2 = n1 at j ⊢;go_enter Tryz.func19, Tryz.ntmps19;go_wp2_with fail
 generalize d : w.alloc _ = W0;have X := boxH d;have B := boxB d;clear d;refine (g.out (left) _ B (by omega) (by omega)).mono ?_;rintro e w1 ⟨rfl, c⟩;replace X := row_keep c X;replace B := below_step B c;clear c g;by_cases p : (n0 : Int) ≤ left
 ·rw [szI_yes p];have g0 : ¬ (left - (n0 : Int) < 0) := by omega
  obtain ⟨f, l⟩ := cells_house X;go_wp2_with fail
  clear f l;refine (j.out (left - (n0 : Int)) _ B (by omega) (by omega)).mono ?_;rintro e w2 ⟨rfl, c⟩;replace X := row_keep c X;replace B := below_step B c;clear c j;by_cases o : (n1 : Int) ≤ left - (n0 : Int)
  ·rw [szI_yes o];have g1 : ¬ (left - (n0 : Int) - (n1 : Int) < 0) := by omega
   obtain ⟨f, l⟩ := cells_house X;clear f l X;go_wp2;go_ret
   exact ⟨ret_int (by rw [szI_yes (by omega)]; omega), B⟩
  ·rw [szI_no o];clear X;go_wp2;go_ret
   exact ⟨ret_int (szI_no (by omega)).symm, B⟩
 ·rw [szI_no p];clear X;go_wp2;go_ret
  exact ⟨ret_int (szI_no (by omega)).symm, B⟩
theorem eqHouse_u : EqC 41 houseR houseM aggV := by
 intro cs ds x w h k q;obtain ⟨b, c, rfl, g, i⟩ := house_rd h;obtain ⟨f, d, rfl, m, o⟩ := house_rd k;clear h k;rw [show houseM.bk x = rowsM.bk x.1 + entsM.bk x.2 from rfl] at q;change Calls Tryz.prog 41 #[.agg #[b, c], .agg #[f, d]] w _
 have l : Hid (∀ W, Bl w W → Calls Tryz.prog 10 #[b, f] W fun e w' => e = .returned (.bool true) ∧ Bl W w') := fun W hb => eqRows_u [b] [f] _ W (rd_next g hb) (rd_next m hb) (by omega);have n : Hid (∀ W, Bl w W → Calls Tryz.prog 99 #[c, d] W fun e w' => e = .returned (.bool true) ∧ Bl W w') := fun W hb => eqEnts_u [c] [d] _ W (rd_next i hb) (rd_next o hb) (by omega);clear q g m i o;have X := heap_on (.cells #[f, d] 41) (heap_at w (.cells #[b, c] 41));have Y := heap_at (w.alloc (.cells #[b, c] 41)) (.cells #[f, d] 41);rw [alloc_len] at Y;have B := below_step (box_below w (.cells #[b, c] 41)) (box_below _ (.cells #[f, d] 41));go_enter Tryz.func41, Tryz.ntmps41;go_wp2_with fail
 generalize (w.alloc (.cells #[b, c] 41)).alloc (.cells #[f, d] 41) = W0 at X Y B ⊢;refine (l.out _ B).mono ?_;rintro e w1 ⟨rfl, a⟩;replace X := row_keep a X;replace Y := row_keep a Y;replace B := below_step B a;clear a l;obtain ⟨j, r⟩ := cells_house X;obtain ⟨s, p⟩ := cells_house Y;go_wp2_with fail
 clear j r s p;refine (n.out _ B).mono ?_;rintro e w2 ⟨rfl, a⟩;replace X := row_keep a X;replace Y := row_keep a Y;replace B := below_step B a;clear a n;obtain ⟨j, r⟩ := cells_house X;obtain ⟨s, p⟩ := cells_house Y;clear X Y;go_wp2;go_ret
 exact ⟨rfl, B⟩
theorem own_house {w : World} {S S0 S1 : Foot} {v0 v1 : Value} {x : HouseD}  (h0 : rowsR.own w S0 [v0] x.1) (h1 : entsR.own w S1 [v1] x.2) (s0 : Sub S0 S) (s1 : Sub S1 S) (d01 : Dis S0 S1) : houseR.own w S [v0, v1] x := by
 exact ⟨[v0], [v1], S0, S1, rfl, h0, h1, s0, (fun q h => s1 q h), (fun q a h => d01 q a h)⟩
theorem froz_house {w : World} {g : Nat} {cs : Array Value} {t : TypeId} (h : w.heap[g]? = some (.cells cs t (0, 0))) : w.frozen? ⟨g, 0, none⟩ = false ∧ w.frozen? ⟨g, 1, none⟩ = false :=
 ⟨frozen_of_row w g 0 _ t h, frozen_of_row w g 1 _ t h⟩
theorem put_house {w : World} {g : Nat} {x0 x1 y0 y1 : Value} {t : TypeId} (h : w.heap[g]? = some (.cells #[x0, x1] t (0, 0))) : ((w.setCell ⟨g, 0, none⟩ (y0)).setCell ⟨g, 1, none⟩ (y1)).heap[g]? = some (.cells #[y0, y1] t (0, 0)) := by
 have a : (w.setCell ⟨g, 0, none⟩ (y0)).heap[g]? = some (.cells #[y0, x1] t (0, 0)) := heap_setCell_same _ g 0 _ t y0 h;have b : ((w.setCell ⟨g, 0, none⟩ (y0)).setCell ⟨g, 1, none⟩ (y1)).heap[g]? = some (.cells #[y0, y1] t (0, 0)) := heap_setCell_same _ g 1 _ t y1 a;exact b
theorem toHouse_u : ToC 27 houseR houseM aggV := by
 intro cs x w h R;obtain ⟨m, p, rfl, F, G⟩ := house_rd h;clear h;rw [show houseM.bk x = rowsM.bk x.1 + entsM.bk x.2 from rfl] at R;change Calls Tryz.prog 27 #[.agg #[m, p]] w _
 have N : Hid (∀ W, Bl w W → Calls Tryz.prog 77 #[m] W fun e C => ∃ c d, e = .returned (sL c x.1.length d) ∧ MadeR rowsR W C [sL c x.1.length d] x.1) := fun W hb => (toRows_u [m] _ W (rd_next F hb) (by omega)).mono (by rintro e C ⟨X, rfl, a⟩; obtain ⟨c, d, rfl, -⟩ := rowsR.own_rd a.1; exact ⟨c, d, rfl, a⟩);have O : Hid (∀ W, Bl w W → Calls Tryz.prog 78 #[p] W fun e C => ∃ j l, e = .returned (sL j x.2.length l) ∧ MadeR entsR W C [sL j x.2.length l] x.2) := fun W hb => (toEnts_u [p] _ W (rd_next G hb) (by omega)).mono (by rintro e C ⟨X, rfl, a⟩; obtain ⟨j, l, rfl, -⟩ := entsR.own_rd a.1; exact ⟨j, l, rfl, a⟩);clear R F G;have i := heap_on (.cells #[sL none 0 0, sL none 0 0] 41) (heap_on (.cells #[sL none 0 0, sL none 0 0] 41) (heap_at w (.cells #[m, p] 27)));have f := heap_on (.cells #[sL none 0 0, sL none 0 0] 41) (heap_at (w.alloc (.cells #[m, p] 27)) (.cells #[sL none 0 0, sL none 0 0] 41));have b := heap_at ((w.alloc (.cells #[m, p] 27)).alloc (.cells #[sL none 0 0, sL none 0 0] 41)) (.cells #[sL none 0 0, sL none 0 0] 41);rw [alloc_len] at f;rw [alloc_len, alloc_len] at b;have B : Bl w (((w.alloc (.cells #[m, p] 27)).alloc (.cells #[sL none 0 0, sL none 0 0] 41)).alloc (.cells #[sL none 0 0, sL none 0 0] 41)) := (((Below.refl _ w).alloc (Nat.le_refl _) _).alloc (by simp) _).alloc (by simp; omega) _;have e3 : w.heap.size + 1 + 1 + 1 ≤ (((w.alloc (.cells #[m, p] 27)).alloc (.cells #[sL none 0 0, sL none 0 0] 41)).alloc (.cells #[sL none 0 0, sL none 0 0] 41)).heap.size := by simp
 go_enter Tryz.func27, Tryz.ntmps27;go_wp2_with fail
 generalize ((w.alloc (.cells #[m, p] 27)).alloc (.cells #[sL none 0 0, sL none 0 0] 41)).alloc (.cells #[sL none 0 0, sL none 0 0] 41) = u0 at i f b B e3 ⊢;refine (N.out _ B).mono ?_;rintro e n ⟨c, d, rfl, a⟩;have Y := a.2.size;replace B := below_step B a.2;replace i := row_keep a.2 i;replace f := row_keep a.2 f;replace b := row_keep a.2 b;have k := a.1;clear a N;obtain ⟨I, L⟩ := cells_house i;obtain ⟨y0, y1⟩ := cells_house b;obtain ⟨K, J⟩ := froz_house b;have D : Hid _ := aI i (aI f (aI b (aI B (k))));clear i f b B k;go_wp2_with fail
 clear I L y0 y1 K J;obtain ⟨i, f, b, B, k⟩ := D.out;clear D;have E : (n.setCell ⟨w.heap.size + 1 + 1, 0, none⟩ (sL c x.1.length d)).heap[w.heap.size + 1 + 1]? = some (.cells #[sL c x.1.length d, sL none 0 0] 41 (0, 0)) := heap_setCell_same _ (w.heap.size + 1 + 1) 0 _ _ (sL c x.1.length d) b;have s := (heap_setC (g := w.heap.size + 1 + 1) (o := 0) (v := sL c x.1.length d) i (by omega));have z := (heap_setC (g := w.heap.size + 1 + 1) (o := 0) (v := sL c x.1.length d) f (by omega));have A : Bl w (n.setCell ⟨w.heap.size + 1 + 1, 0, none⟩ (sL c x.1.length d)) := (below_setC B (by omega));have y : rowsR.own (n.setCell ⟨w.heap.size + 1 + 1, 0, none⟩ (sL c x.1.length d)) _ _ _ := (own_setC k (fun h => by have := h.1; omega));have q : n.heap.size ≤ (n.setCell ⟨w.heap.size + 1 + 1, 0, none⟩ (sL c x.1.length d)).heap.size := by simp
 have r : (n.setCell ⟨w.heap.size + 1 + 1, 0, none⟩ (sL c x.1.length d)).heap.size ≤ n.heap.size := by simp
 clear i f b B k ;generalize (n.setCell ⟨w.heap.size + 1 + 1, 0, none⟩ (sL c x.1.length d)) = u1 at s z E A q r y ⊢;have i := s;have f := z;have b := E;have B := A;have k := y;have U := q;have cA := r;clear s z E A q r y;refine (O.out _ B).mono ?_;rintro e M ⟨j, l, rfl, a⟩;have S := a.2.size;replace B := below_step B a.2;replace i := row_keep a.2 i;replace f := row_keep a.2 f;replace b := row_keep a.2 b;replace k := own_stay k a.2 (by omega);have H := a.1;clear a O;obtain ⟨I, L⟩ := cells_house i;obtain ⟨y0, y1⟩ := cells_house b;obtain ⟨K, J⟩ := froz_house b;obtain ⟨z0, z1⟩ := cells_house f;obtain ⟨Z, T⟩ := froz_house f;have D : Hid _ := aI i (aI f (aI b (aI B (aI k (H)))));clear i f b B k H;go_wp2;clear I L y0 y1 K J z0 z1 Z T;obtain ⟨i, f, b, B, k, H⟩ := D.out;clear D;have E : (M.setCell ⟨w.heap.size + 1 + 1, 1, none⟩ (sL j x.2.length l)).heap[w.heap.size + 1 + 1]? = some (.cells #[sL c x.1.length d, sL j x.2.length l] 41 (0, 0)) := heap_setCell_same _ (w.heap.size + 1 + 1) 1 _ _ (sL j x.2.length l) b;have V := put_house (y0 := sL c x.1.length d) (y1 := sL j x.2.length l) (heap_setC (g := w.heap.size + 1 + 1) (o := 1) (v := sL j x.2.length l) f (by omega));obtain ⟨F, G⟩ := cells_house V;refine bodyPost_ret (v := .agg #[sL c x.1.length d, sL j x.2.length l]) (by simp [results, Tryz.results27, go_sem, F, G]) rfl ⟨[sL c x.1.length d, sL j x.2.length l], rfl, own_house (S0 := rng u0.heap.size n.heap.size) (S1 := rng u1.heap.size M.heap.size)  ?_ ?_ (rng_sub (by omega) (by simp <;> omega)) (rng_sub (by omega) (by simp <;> omega)) (rng_dis (.inl (by omega))), ?_⟩
 ·exact (own_setC (own_setC (own_setC k (fun h => by have := h.1; omega)) (fun h => by have := h.1; omega)) (fun h => by have := h.1; omega))
 ·exact (own_setC (own_setC (own_setC H (fun h => by have := h.1; omega)) (fun h => by have := h.1; omega)) (fun h => by have := h.1; omega))
 ·exact (below_setC (below_setC (below_setC B (by omega)) (by omega)) (by omega))
theorem house_shape {w : World} {cs : List Value} {x : HouseD} (h : houseR.rd w cs x) : ∃ (a : Option Addr) (b : Nat) (d : Option Addr) (c : Nat), cs = [sL a x.1.length b, sL d x.2.length c] := by
 obtain ⟨v0, v1, rfl, i, j⟩ := house_rd h;obtain ⟨a, b, g, -⟩ := i;simp only [List.cons.injEq, and_true] at g;obtain rfl := g;obtain ⟨d, c, f, -⟩ := j;simp only [List.cons.injEq, and_true] at f;obtain rfl := f;exact ⟨a, b, d, c, rfl⟩
theorem opens_house : Opens Tryz.prog 27 houseR :=
 opens_struct Tryz.underlying27 (by kernel_rfl) (opensF_cons rfl (by kernel_rfl) opens_rows (opensF_one rfl (by kernel_rfl) opens_ents))
end Go.Proofs.YtdamokokcdcedaaGreatDoor
