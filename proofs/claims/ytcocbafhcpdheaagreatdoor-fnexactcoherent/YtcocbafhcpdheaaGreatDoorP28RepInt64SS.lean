import Derived.Test.YtcocbafhcpdheaaGreatDoorP00Box
import Derived.Test.YtcocbafhcpdheaaGreatDoorP24Entries
import Derived.Test.YtcocbafhcpdheaaGreatDoorP13StoreC
namespace Go.Proofs.YtcocbafhcpdheaaGreatDoor
set_option maxHeartbeats 8000000
set_option maxRecDepth 20000
open Go.ChangeShapes Go.WideShapes Go.ChangeAt Go.RowKit
set_option linter.unusedVariables false
theorem szInt64SS_rep (a : Option Addr) (xs : List (List Int)) (cap : Nat) (left : Int) (w : World) (h : SlRd intsR w a xs) (h0 : 0 ≤ left) (h1 : left ≤ 1048576) (hm : xs.length ≤ maxLen) :
    Calls Tryz.prog 58 #[.slice a xs.length cap, .int .i64 left] w fun e n => e = .returned (.int .i64 (szI ((slM intsM).bk xs) left)) ∧ n = w := by
 have H : xs.length ≤ 9223372036854775807 := hm;have f : (slM intsM).bk xs = xs.length + sumbk intsM xs := rfl;clear hm;by_cases hl : (xs.length : Int) ≤ left
 ·have s : ¬ (left - (xs.length : Int) < 0) := by omega
  have E : Hid _ := f;clear f;go_enter Tryz.func58, Tryz.ntmps58;go_wp2;go_loop [1, 5] (fun q i => ∃ k : Nat, k ≤ xs.length ∧ i = .int .i64 k ∧ (sumbk intsM (xs.take k) : Int) + xs.length ≤ left ∧ q = .int .i64 (left - (xs.length : Int) - sumbk intsM (xs.take k))) (fun _ i => xs.length - (intOf i).toNat)
  case atStart => exact ⟨0, Nat.zero_le _, rfl, by simp [sumbk]; omega, by simp [sumbk]⟩
  case round =>
   obtain ⟨k, hk, rfl, D, rfl⟩ := hrel;by_cases p : k < xs.length
   ·have B : (k : Int) < (xs.length : Int) := by omega
    obtain ⟨x, j⟩ : ∃ x, xs[k]? = some x := ⟨_, List.getElem?_eq_getElem p⟩;obtain ⟨b, I, c, rfl, ⟨aj, cj, rfl, y, m, g⟩, d⟩ := slrd_at h j;have F := d 0 _ rfl;rw [show k * (intsR).size + 0 = k from Nat.mul_one k] at F;have HR : Hid _ := g;have C : Hid _ := Nat.le_trans y m;have v : Hid _ := sumbk_step (M := intsM) j;have r := sumbk_get (M := intsM) j;clear h j d g;generalize sumbk intsM (xs.take k) = T at D v r ⊢;by_cases A : (((intsM).bk x : Nat) : Int) ≤ left - (xs.length : Int) - (T : Int)
    ·have G : ¬ (left - (xs.length : Int) - (T : Int) - (((intsM).bk x : Nat) : Int) < 0) := by omega
     have o : Hid (szI ((intsM).bk x) (left - (xs.length : Int) - (T : Int)) = _) := szI_yes A;go_wp2_with (go_at_call 106; refine (szInt64S_rep _ x _ _ _ (by omega) (by omega) C.out).mono ?_; rintro e n ⟨rfl, rfl⟩; rw [o.out])
     go_round
     case rel => exact ⟨k + 1, by omega, by go_num, by have := v.out; omega, by rw [v.out]; go_num⟩
     case measure => simp [intOf]; omega
    ·have o : Hid (szI ((intsM).bk x) (left - (xs.length : Int) - (T : Int)) = _) := szI_no A;have l : Hid (szI ((slM intsM).bk xs) left = -1) := by unfold Hid; rw [E.out]; exact szI_no (by omega)
     go_wp2_with (go_at_call 106; refine (szInt64S_rep _ x _ _ _ (by omega) (by omega) C.out).mono ?_; rintro e n ⟨rfl, rfl⟩; rw [o.out])
     go_ret
     exact ⟨ret_int l.out.symm, rfl⟩
   ·have z : k = xs.length := by omega
    subst z;rw [List.take_length] at D ⊢;have l : Hid (szI ((slM intsM).bk xs) left = left - (xs.length : Int) - (sumbk intsM xs : Int)) := by unfold Hid; rw [E.out, szI_yes (by omega)]; omega
    go_wp2;go_ret
    exact ⟨ret_int l.out.symm, rfl⟩
 ·have s : left - (xs.length : Int) < 0 := by omega
  rw [szI_no (by omega)];clear f h;go_enter Tryz.func58, Tryz.ntmps58;go_wp2;go_ret
  exact ⟨rfl, rfl⟩
theorem Tryz.infoInt64SS : (Tryz.prog.info? 37).map (fun i => (i.zero, i.size, i.bytes)) = some (some (.slice none 0 0), 1, 24) := by kernel_rfl
theorem toInt64SS_rep (a : Option Addr) (xs : List (List Int)) (cap : Nat) (w : World) (h : SlRd intsR w a xs) (hm : (slM intsM).bk xs ≤ 1048576) :
    Calls Tryz.prog 64 #[.slice a xs.length cap] w fun e w' => ∃ v, e = .returned v ∧ MadeR (slR 37 intsR) w w' [v] xs := by
 have p : (slM intsM).bk xs = xs.length + sumbk intsM xs := rfl;have N : xs.length ≤ 1048576 := by omega
 have K : Hid (sumbk intsM xs ≤ 1048576) := by unfold Hid; omega
 clear p hm;have o := Go.run_make_row' (P := Tryz.prog) 24 37 (.slice none 0 0) 24 Tryz.underlying24 Tryz.infoInt64SS rfl .i64 .i64 xs.length (by omega) (by omega);go_enter Tryz.func64, Tryz.ntmps64;go_wp2;go_loopw [4] (fun i wr => ∃ k : Nat, k ≤ xs.length ∧ i = .int .i64 k ∧ Fill 37 intsR w wr xs.length (xs.take k)) (fun i _ => xs.length - (intOf i).toNat)
 case atStart => exact ⟨0, Nat.zero_le _, rfl, by simpa using fillR_start (e := 37) (R := intsR) (w0 := w) (n := xs.length) (cs := madeCells #[.slice none 0 0] xs.length) (by unfold maxLen; omega) (by simp [size_madeCells]; exact (Nat.mul_one _).symm)⟩
 case round =>
  obtain ⟨k, hk, rfl, f⟩ := hrel;by_cases j : k < xs.length
  ·have y : (k : Int) < (xs.length : Int) := by omega
   obtain ⟨x, l⟩ : ∃ x, xs[k]? = some x := ⟨_, List.getElem?_eq_getElem j⟩;obtain ⟨b, L, c, rfl, ⟨aj, cj, rfl, H, B, g⟩, d⟩ := slrd_at (slrd_next h (fill_below f)) l;have C := d 0 _ rfl;rw [show k * (intsR).size + 0 = k from Nat.mul_one k] at C;have D : Hid _ := g;have I : Hid ((intsM).bk x ≤ 1048576) := by unfold Hid; have := sumbk_get (M := intsM) l; have := K.out; omega
   have F : Hid (∀ w1 v, MadeR intsR wr w1 [v] x → _) := fun w1 v hm => fillR_step (w1 := w1) (c := [v]) f (by simp; omega) j hm;have O : Hid (xs.take k ++ [x] = xs.take (k + 1)) := by unfold Hid; rw [List.take_add_one, l]; rfl
   clear h l g d o f;go_wp2_with (go_at_call 112; refine (toInt64S_rep _ x _ _ D.out I.out).mono ?_; rintro e w1 ⟨v, rfl, m⟩; obtain ⟨av, cv, rfl⟩ := slown_val m.1; obtain ⟨A, z, s⟩ := F.out _ _ m; obtain ⟨v0, q⟩ := A 0 (Nat.zero_lt_one); have J := z k; rw [show k * (intsR).size + 0 = k from Nat.mul_one k] at q; rw [show k * (intsR).size = k from Nat.mul_one k, O.out] at s; have G : Hid _ := s; clear s m A z)
   go_roundw
   case rel => exact ⟨k + 1, by omega, by go_num, G.out⟩
   case measure => simp [intOf]; omega
  ·have r : k = xs.length := by omega
   subst r;rw [List.take_length] at f;have E := fillR_end f rfl;clear f;go_wp2;go_ret
   exact ⟨_, rfl, E⟩
theorem eqInt64SS_rep (a1 a2 : Option Addr) (xs : List (List Int)) (c1 y : Nat) (w : World) (h1 : SlRd intsR w a1 xs) (h2 : SlRd intsR w a2 xs) (hm : (slM intsM).bk xs ≤ 1152921504606846976) :
    Calls Tryz.prog 78 #[.slice a1 xs.length c1, .slice a2 xs.length y] w fun e w' => e = .returned (.bool true) ∧ ∃ n, w' = w.drewN n := by
 have s : (slM intsM).bk xs = xs.length + sumbk intsM xs := rfl;have O : xs.length ≤ 1152921504606846976 := by omega
 have L : Hid (sumbk intsM xs ≤ 1152921504606846976) := by unfold Hid; omega
 clear s hm;go_enter Tryz.func78, Tryz.ntmps78;go_wp2;go_loopw [5] (fun i wr => ∃ k : Nat, k ≤ xs.length ∧ i = .int .i64 k ∧ ∃ n, wr = w.drewN n) (fun i _ => xs.length - (intOf i).toNat)
 case atStart => exact ⟨0, Nat.zero_le _, rfl, 0, rfl⟩
 case round =>
  obtain ⟨k, hk, rfl, n, l⟩ := hrel;by_cases r : k < xs.length
  ·have z : (k : Int) < (xs.length : Int) := by omega
   obtain ⟨x, m⟩ : ∃ x, xs[k]? = some x := ⟨_, List.getElem?_eq_getElem r⟩;have o : ∀ j, j < w.heap.size → wr.heap[j]? = w.heap[j]? := by rw [l]; exact fun _ _ => rfl
   obtain ⟨b, N, c, rfl, ⟨E, cj, rfl, I, B, g⟩, d⟩ := slrd_at (slrd_keep h1 o) m;obtain ⟨b2, A, y, rfl, ⟨v, R, rfl, F, K, f⟩, a⟩ := slrd_at (slrd_keep h2 o) m;have C := d 0 _ rfl;have H := a 0 _ rfl;rw [show k * (intsR).size + 0 = k from Nat.mul_one k] at C H;have D : Hid (∀ q, SlRd _ (wr.drewN q) E x) := fun q => slrd_keep g (fun _ _ => rfl);have p : Hid (∀ q, SlRd _ (wr.drewN q) v x) := fun q => slrd_keep f (fun _ _ => rfl);have J : Hid ((intsM).bk x ≤ 1152921504606846976) := by unfold Hid; have := sumbk_get (M := intsM) m; have := L.out; omega
   have G : Hid (wr = w.drewN n) := l;clear h1 h2 m g f d a l o;go_wp2_with fail
   go_quiet (first | (go_at_call 11; exact Calls.quiet_of (eqInt64S_rep _ _ x _ _ _ (D.out _) (p.out _) J.out)))
   go_wp2;go_roundw
   case rel => exact ⟨k + 1, by omega, by go_num, n + nq, by rw [G.out, World.drewN_drewN]⟩
   case measure => simp [intOf]; omega
  ·go_wp2;go_ret
   first | exact ⟨rfl, _, rfl⟩ | exact ⟨rfl, _, l⟩
theorem szRows_u : SzC 58 rowsR rowsM cell1 := by
 rintro cs x b w ⟨a, c, rfl, i, j, d⟩ g f;exact (szInt64SS_rep a x c b w d g f (Nat.le_trans i j)).mono fun e w' ⟨q, r⟩ => ⟨q, be_eq r⟩
theorem toRows_u : ToC 64 rowsR rowsM cell1 := by
 rintro cs x w ⟨a, b, rfl, l1, l2, c⟩ d;refine (toInt64SS_rep a x b w c d).mono ?_;rintro e w' ⟨v, rfl, f⟩;exact ⟨[v], rfl, f⟩
theorem eqRows_u : EqC 78 rowsR rowsM cell1 := by
 rintro cs ds x w ⟨a, c, rfl, l1, l2, f⟩ ⟨b, d, rfl, k1, k2, g⟩ i;refine (eqInt64SS_rep a b x c d w f g (Nat.le_trans i (by decide))).mono ?_;rintro e w' ⟨q, n, rfl⟩;exact ⟨q, be_drewN (Below.refl _ _) n⟩
theorem szEnts_u : SzC 59 entsR entsM cell1 := by
 rintro cs x b w ⟨a, c, rfl, i, j, d⟩ g f;exact szEntryS_rep a x c b w d g f (Nat.le_trans i j)
theorem toEnts_u : ToC 65 entsR entsM cell1 := by
 rintro cs x w ⟨a, b, rfl, l1, l2, c⟩ d;refine (toEntryS_rep a x b w c d).mono ?_;rintro e w' ⟨v, rfl, f⟩;exact ⟨[v], rfl, f⟩
theorem eqEnts_u : EqC 79 entsR entsM cell1 := by
 rintro cs ds x w ⟨a, c, rfl, l1, l2, d⟩ ⟨b, i, rfl, k1, k2, g⟩ f;exact eqEntryS_rep a b x c i w d g (Nat.le_trans f (by decide))
abbrev HouseD := List (List Int) × List EntryD
abbrev houseR : Rep HouseD := prodR rowsR entsR
abbrev houseM : Mk HouseD := prodM rowsM entsM
theorem len1house {l : List Value} (h : l.length = 1) : ∃ a0, l = [a0] := by
 match l, h with
 | [a0], _ => exact ⟨a0, rfl⟩
theorem house_rd {w : World} {cs : List Value} {x : HouseD} (h : houseR.rd w cs x) : ∃ b a, cs = [b, a] ∧ rowsR.rd w [b] x.1 ∧ entsR.rd w [a] x.2 := by
 obtain ⟨c0, e0, rfl, d, c⟩ := h;obtain ⟨b, rfl⟩ := len1house (rowsR.rd_len d);obtain ⟨a, rfl⟩ := len1house (entsR.rd_len c);exact ⟨b, a, rfl, d, c⟩
theorem cells_house {w : World} {g : Nat} {x0 x1 : Value} {t : TypeId} (h : w.heap[g]? = some (.cells #[x0, x1] t (0, 0))) : w.cell? ⟨g, 0, none⟩ = some x0 ∧ w.cell? ⟨g, 1, none⟩ = some x1 :=
 ⟨by rw [cell_of_row w g 0 _ t (0, 0) h]; rfl, by rw [cell_of_row w g 1 _ t (0, 0) h]; rfl⟩
theorem szHouse_u : SzC 22 houseR houseM aggV := by
 intro cs x c w h h0 h1;obtain ⟨m, j, rfl, q, n⟩ := house_rd h;clear h;rw [show houseM.bk x = rowsM.bk x.1 + entsM.bk x.2 from rfl];change Calls Tryz.prog 22 #[.agg #[m, j], .int .i64 c] w _
 have i : Hid (∀ L W, Below w.heap.size w W → 0 ≤ L → L ≤ 1048576 → Calls Tryz.prog 58 #[m, .int .i64 L] W fun e w' => e = .returned (.int .i64 (szI (rowsM.bk x.1) L)) ∧ Below W.heap.size W w') := fun L W hb a b => szRows_u [m] _ L W (rd_next q hb) a b;have l : Hid (∀ L W, Below w.heap.size w W → 0 ≤ L → L ≤ 1048576 → Calls Tryz.prog 59 #[j, .int .i64 L] W fun e w' => e = .returned (.int .i64 (szI (entsM.bk x.2) L)) ∧ Below W.heap.size W w') := fun L W hb a b => szEnts_u [j] _ L W (rd_next n hb) a b;clear q n;generalize rowsM.bk x.1 = n0 at i ⊢;generalize entsM.bk x.2 = n1 at l ⊢;go_enter Tryz.func22, Tryz.ntmps22;go_wp2_with fail
 generalize d : w.alloc _ = W0;have X := boxH d;have B := boxB d;clear d;refine (i.out (c) _ B (by omega) (by omega)).mono ?_;rintro e w1 ⟨rfl, f⟩;replace X := row_keep f X;replace B := below_step B f;clear f i;by_cases p : (n0 : Int) ≤ c
 ·rw [szI_yes p];have g0 : ¬ (c - (n0 : Int) < 0) := by omega
  obtain ⟨g, k⟩ := cells_house X;go_wp2_with fail
  clear g k;refine (l.out (c - (n0 : Int)) _ B (by omega) (by omega)).mono ?_;rintro e w2 ⟨rfl, f⟩;replace X := row_keep f X;replace B := below_step B f;clear f l;by_cases o : (n1 : Int) ≤ c - (n0 : Int)
  ·rw [szI_yes o];have g1 : ¬ (c - (n0 : Int) - (n1 : Int) < 0) := by omega
   obtain ⟨g, k⟩ := cells_house X;clear g k X;go_wp2;go_ret
   exact ⟨ret_int (by rw [szI_yes (by omega)]; omega), B⟩
  ·rw [szI_no o];clear X;go_wp2;go_ret
   exact ⟨ret_int (szI_no (by omega)).symm, B⟩
 ·rw [szI_no p];clear X;go_wp2;go_ret
  exact ⟨ret_int (szI_no (by omega)).symm, B⟩
theorem eqHouse_u : EqC 39 houseR houseM aggV := by
 intro cs ds x w h k s;obtain ⟨d, c, rfl, r, j⟩ := house_rd h;obtain ⟨b, f, rfl, l, g⟩ := house_rd k;clear h k;rw [show houseM.bk x = rowsM.bk x.1 + entsM.bk x.2 from rfl] at s;change Calls Tryz.prog 39 #[.agg #[d, c], .agg #[b, f]] w _
 have n : Hid (∀ W, Below w.heap.size w W → Calls Tryz.prog 78 #[d, b] W fun e w' => e = .returned (.bool true) ∧ Below W.heap.size W w') := fun W hb => eqRows_u [d] [b] _ W (rd_next r hb) (rd_next l hb) (by omega);have p : Hid (∀ W, Below w.heap.size w W → Calls Tryz.prog 79 #[c, f] W fun e w' => e = .returned (.bool true) ∧ Below W.heap.size W w') := fun W hb => eqEnts_u [c] [f] _ W (rd_next j hb) (rd_next g hb) (by omega);clear s r l j g;have X := heap_on (.cells #[b, f] 42) (heap_at w (.cells #[d, c] 42));have Y := heap_at (w.alloc (.cells #[d, c] 42)) (.cells #[b, f] 42);rw [alloc_len] at Y;have B := below_step (box_below w (.cells #[d, c] 42)) (box_below _ (.cells #[b, f] 42));go_enter Tryz.func39, Tryz.ntmps39;go_wp2_with fail
 generalize (w.alloc (.cells #[d, c] 42)).alloc (.cells #[b, f] 42) = W0 at X Y B ⊢;refine (n.out _ B).mono ?_;rintro e w1 ⟨rfl, a⟩;replace X := row_keep a X;replace Y := row_keep a Y;replace B := below_step B a;clear a n;obtain ⟨m, o⟩ := cells_house X;obtain ⟨q, i⟩ := cells_house Y;go_wp2_with fail
 clear m o q i;refine (p.out _ B).mono ?_;rintro e w2 ⟨rfl, a⟩;replace X := row_keep a X;replace Y := row_keep a Y;replace B := below_step B a;clear a p;obtain ⟨m, o⟩ := cells_house X;obtain ⟨q, i⟩ := cells_house Y;clear X Y;go_wp2;go_ret
 exact ⟨rfl, B⟩
theorem own_house {w : World} {S S0 S1 : Foot} {v0 v1 : Value} {x : HouseD}  (h0 : rowsR.own w S0 [v0] x.1) (h1 : entsR.own w S1 [v1] x.2) (s0 : Sub S0 S) (s1 : Sub S1 S) (d01 : Dis S0 S1) : houseR.own w S [v0, v1] x := by
 exact ⟨[v0], [v1], S0, S1, rfl, h0, h1, s0, (fun q h => s1 q h), (fun q a h => d01 q a h)⟩
theorem froz_house {w : World} {g : Nat} {cs : Array Value} {t : TypeId} (h : w.heap[g]? = some (.cells cs t (0, 0))) : w.frozen? ⟨g, 0, none⟩ = false ∧ w.frozen? ⟨g, 1, none⟩ = false :=
 ⟨frozen_of_row w g 0 _ t h, frozen_of_row w g 1 _ t h⟩
theorem put_house {w : World} {g : Nat} {x0 x1 y0 y1 : Value} {t : TypeId} (h : w.heap[g]? = some (.cells #[x0, x1] t (0, 0))) : ((w.setCell ⟨g, 0, none⟩ (y0)).setCell ⟨g, 1, none⟩ (y1)).heap[g]? = some (.cells #[y0, y1] t (0, 0)) := by
 have b : (w.setCell ⟨g, 0, none⟩ (y0)).heap[g]? = some (.cells #[y0, x1] t (0, 0)) := heap_setCell_same _ g 0 _ t y0 h;have a : ((w.setCell ⟨g, 0, none⟩ (y0)).setCell ⟨g, 1, none⟩ (y1)).heap[g]? = some (.cells #[y0, y1] t (0, 0)) := heap_setCell_same _ g 1 _ t y1 b;exact a
theorem toHouse_u : ToC 30 houseR houseM aggV := by
 intro cs x w h R;obtain ⟨p, m, rfl, H, E⟩ := house_rd h;clear h;rw [show houseM.bk x = rowsM.bk x.1 + entsM.bk x.2 from rfl] at R;change Calls Tryz.prog 30 #[.agg #[p, m]] w _
 have M : Hid (∀ W, Below w.heap.size w W → Calls Tryz.prog 64 #[p] W fun e C => ∃ c d, e = .returned (.slice c x.1.length d) ∧ MadeR rowsR W C [.slice c x.1.length d] x.1) := fun W hb => (toRows_u [p] _ W (rd_next H hb) (by omega)).mono (by rintro e C ⟨ds, rfl, a⟩; obtain ⟨c, d, rfl, -⟩ := rowsR.own_rd a.1; exact ⟨c, d, rfl, a⟩);have O : Hid (∀ W, Below w.heap.size w W → Calls Tryz.prog 65 #[m] W fun e C => ∃ l k, e = .returned (.slice l x.2.length k) ∧ MadeR entsR W C [.slice l x.2.length k] x.2) := fun W hb => (toEnts_u [m] _ W (rd_next E hb) (by omega)).mono (by rintro e C ⟨ds, rfl, a⟩; obtain ⟨l, k, rfl, -⟩ := entsR.own_rd a.1; exact ⟨l, k, rfl, a⟩);clear R H E;have i := heap_on (.cells #[.slice none 0 0, .slice none 0 0] 42) (heap_on (.cells #[.slice none 0 0, .slice none 0 0] 42) (heap_at w (.cells #[p, m] 27)));have f := heap_on (.cells #[.slice none 0 0, .slice none 0 0] 42) (heap_at (w.alloc (.cells #[p, m] 27)) (.cells #[.slice none 0 0, .slice none 0 0] 42));have b := heap_at ((w.alloc (.cells #[p, m] 27)).alloc (.cells #[.slice none 0 0, .slice none 0 0] 42)) (.cells #[.slice none 0 0, .slice none 0 0] 42);rw [alloc_len] at f;rw [alloc_len, alloc_len] at b;have B : Below w.heap.size w (((w.alloc (.cells #[p, m] 27)).alloc (.cells #[.slice none 0 0, .slice none 0 0] 42)).alloc (.cells #[.slice none 0 0, .slice none 0 0] 42)) := (((Below.refl _ w).alloc (Nat.le_refl _) _).alloc (by simp) _).alloc (by simp; omega) _;have e3 : w.heap.size + 1 + 1 + 1 ≤ (((w.alloc (.cells #[p, m] 27)).alloc (.cells #[.slice none 0 0, .slice none 0 0] 42)).alloc (.cells #[.slice none 0 0, .slice none 0 0] 42)).heap.size := by simp
 go_enter Tryz.func30, Tryz.ntmps30;go_wp2_with fail
 generalize ((w.alloc (.cells #[p, m] 27)).alloc (.cells #[.slice none 0 0, .slice none 0 0] 42)).alloc (.cells #[.slice none 0 0, .slice none 0 0] 42) = u0 at i f b B e3 ⊢;refine (M.out _ B).mono ?_;rintro e n ⟨c, d, rfl, a⟩;have U := a.2.size;replace B := below_step B a.2;replace i := row_keep a.2 i;replace f := row_keep a.2 f;replace b := row_keep a.2 b;have j := a.1;clear a M;obtain ⟨K, L⟩ := cells_house i;obtain ⟨y0, y1⟩ := cells_house b;obtain ⟨I, J⟩ := froz_house b;have D : Hid _ := And.intro i (And.intro f (And.intro b (And.intro B (j))));clear i f b B j;go_wp2_with fail
 clear K L y0 y1 I J;obtain ⟨i, f, b, B, j⟩ := D.out;clear D;have G : (n.setCell ⟨w.heap.size + 1 + 1, 0, none⟩ (.slice c x.1.length d)).heap[w.heap.size + 1 + 1]? = some (.cells #[.slice c x.1.length d, .slice none 0 0] 42 (0, 0)) := heap_setCell_same _ (w.heap.size + 1 + 1) 0 _ _ (.slice c x.1.length d) b;have A := (heap_setC (g := w.heap.size + 1 + 1) (o := 0) (v := .slice c x.1.length d) i (by omega));have y := (heap_setC (g := w.heap.size + 1 + 1) (o := 0) (v := .slice c x.1.length d) f (by omega));have r : Below w.heap.size w (n.setCell ⟨w.heap.size + 1 + 1, 0, none⟩ (.slice c x.1.length d)) := (below_setC B (by omega));have s : rowsR.own (n.setCell ⟨w.heap.size + 1 + 1, 0, none⟩ (.slice c x.1.length d)) _ _ _ := (own_setC j (fun h => by have := h.1; omega));have q : n.heap.size ≤ (n.setCell ⟨w.heap.size + 1 + 1, 0, none⟩ (.slice c x.1.length d)).heap.size := by simp
 have z : (n.setCell ⟨w.heap.size + 1 + 1, 0, none⟩ (.slice c x.1.length d)).heap.size ≤ n.heap.size := by simp
 clear i f b B j ;generalize (n.setCell ⟨w.heap.size + 1 + 1, 0, none⟩ (.slice c x.1.length d)) = u1 at A y G r q z s ⊢;have i := A;have f := y;have b := G;have B := r;have j := s;have aA := q;have X := z;clear A y G r q z s;refine (O.out _ B).mono ?_;rintro e N ⟨l, k, rfl, a⟩;have S := a.2.size;replace B := below_step B a.2;replace i := row_keep a.2 i;replace f := row_keep a.2 f;replace b := row_keep a.2 b;replace j := own_stay j a.2 (by omega);have F := a.1;clear a O;obtain ⟨K, L⟩ := cells_house i;obtain ⟨y0, y1⟩ := cells_house b;obtain ⟨I, J⟩ := froz_house b;obtain ⟨z0, T⟩ := cells_house f;obtain ⟨Z, Y⟩ := froz_house f;have D : Hid _ := And.intro i (And.intro f (And.intro b (And.intro B (And.intro j (F)))));clear i f b B j F;go_wp2;clear K L y0 y1 I J z0 T Z Y;obtain ⟨i, f, b, B, j, F⟩ := D.out;clear D;have G : (N.setCell ⟨w.heap.size + 1 + 1, 1, none⟩ (.slice l x.2.length k)).heap[w.heap.size + 1 + 1]? = some (.cells #[.slice c x.1.length d, .slice l x.2.length k] 42 (0, 0)) := heap_setCell_same _ (w.heap.size + 1 + 1) 1 _ _ (.slice l x.2.length k) b;have V := put_house (y0 := .slice c x.1.length d) (y1 := .slice l x.2.length k) (heap_setC (g := w.heap.size + 1 + 1) (o := 1) (v := .slice l x.2.length k) f (by omega));obtain ⟨H, E⟩ := cells_house V;refine bodyPost_ret (v := .agg #[.slice c x.1.length d, .slice l x.2.length k]) (by simp [results, Tryz.results30, go_sem, H, E]) rfl ⟨[.slice c x.1.length d, .slice l x.2.length k], rfl, own_house (S0 := rng u0.heap.size n.heap.size) (S1 := rng u1.heap.size N.heap.size)  ?_ ?_ (rng_sub (by omega) (by simp <;> omega)) (rng_sub (by omega) (by simp <;> omega)) (rng_dis (.inl (by omega))), ?_⟩
 ·exact (own_setC (own_setC (own_setC j (fun h => by have := h.1; omega)) (fun h => by have := h.1; omega)) (fun h => by have := h.1; omega))
 ·exact (own_setC (own_setC (own_setC F (fun h => by have := h.1; omega)) (fun h => by have := h.1; omega)) (fun h => by have := h.1; omega))
 ·exact (below_setC (below_setC (below_setC B (by omega)) (by omega)) (by omega))
theorem house_shape {w : World} {cs : List Value} {x : HouseD} (h : houseR.rd w cs x) : ∃ (c : Option Addr) (d : Nat) (a : Option Addr) (b : Nat), cs = [.slice c x.1.length d, .slice a x.2.length b] := by
 obtain ⟨v0, v1, rfl, i, j⟩ := house_rd h;obtain ⟨c, d, g, -⟩ := i;simp only [List.cons.injEq, and_true] at g;obtain rfl := g;obtain ⟨a, b, f, -⟩ := j;simp only [List.cons.injEq, and_true] at f;obtain rfl := f;exact ⟨c, d, a, b, rfl⟩
theorem opens_house : Opens Tryz.prog 27 houseR :=
 opens_struct Tryz.underlying27 (by kernel_rfl) (opensF_cons rfl (by kernel_rfl) opens_rows (opensF_one rfl (by kernel_rfl) opens_ents))
end Go.Proofs.YtcocbafhcpdheaaGreatDoor
