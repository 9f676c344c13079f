import Derived.Test.YtmaopldahnejdaaGreatDoorH00Box
import Derived.Test.YtmaopldahnejdaaGreatDoorH09
namespace Go.Proofs.YtmaopldahnejdaaGreatDoor
set_option maxHeartbeats 8000000
set_option maxRecDepth 20000
open Go.ChangeShapes Go.WideShapes Go.ChangeAt Go.RowKit
set_option linter.unusedVariables false
abbrev HouseD := List (List Int) × List EntryD
abbrev houseR : Rep HouseD := prodR rowsR entsR
abbrev houseM : Mk HouseD := prodM rowsM entsM
theorem len1house {l : List Value} (h : l.length = 1) : ∃ a0, l = [a0] := by
 match l, h with
 | [a0], _ => exact ⟨a0, rfl⟩
theorem house_rd {w : World} {cs : List Value} {x : HouseD} (h : houseR.rd w cs x) : ∃ a b, cs = [a, b] ∧ rowsR.rd w [a] x.1 ∧ entsR.rd w [b] x.2 := by
 obtain ⟨c0, e0, rfl, d, c⟩ := h;obtain ⟨a, rfl⟩ := len1house (rowsR.rd_len d);obtain ⟨b, rfl⟩ := len1house (entsR.rd_len c);exact ⟨a, b, rfl, d, c⟩
theorem cells_house {w : World} {g : Nat} {x0 x1 : Value} {t : TypeId} (h : w.heap[g]? = some (.cells #[x0, x1] t (0, 0))) : w.cell? ⟨g, 0, none⟩ = some x0 ∧ w.cell? ⟨g, 1, none⟩ = some x1 :=
 ⟨by rw [cell_of_row w g 0 _ t (0, 0) h]; rfl, by rw [cell_of_row w g 1 _ t (0, 0) h]; rfl⟩
theorem szHouse_u : SzC 24 houseR houseM aggV := by
 intro cs x left w h h0 h1;obtain ⟨g, l, rfl, p, n⟩ := house_rd h;clear h;rw [show houseM.bk x = rowsM.bk x.1 + entsM.bk x.2 from rfl];change Calls Tryz.prog 24 #[.agg #[g, l], nI left] w _
 have j : Hid (∀ L W, Bl w W → 0 ≤ L → L ≤ 1048576 → Calls Tryz.prog 62 #[g, nI L] W fun e w' => e = .returned (nI (szI (rowsM.bk x.1) L)) ∧ Bl W w') := fun L W hb a b => szRows_u [g] _ L W (rd_next p hb) a b;have f : Hid (∀ L W, Bl w W → 0 ≤ L → L ≤ 1048576 → Calls Tryz.prog 63 #[l, nI L] W fun e w' => e = .returned (nI (szI (entsM.bk x.2) L)) ∧ Bl W w') := fun L W hb a b => szEnts_u [l] _ L W (rd_next n hb) a b;clear p n;generalize rowsM.bk x.1 = n0 at j ⊢;generalize entsM.bk x.2 = n1 at f ⊢;go_enter Tryz.func24, Tryz.ntmps24;go_wp2_with fail
 generalize d : w.alloc _ = W0;have X := boxH d;have B := boxB d;clear d;refine (j.out (left) _ B (by omega) (by omega)).mono ?_;rintro e w1 ⟨rfl, c⟩;replace X := row_keep c X;replace B := below_step B c;clear c j;by_cases o : (n0 : Int) ≤ left
 ·rw [szI_yes o];have g0 : ¬ (left - (n0 : Int) < 0) := by omega
  obtain ⟨k, i⟩ := cells_house X;go_wp2_with fail
  clear k i;refine (f.out (left - (n0 : Int)) _ B (by omega) (by omega)).mono ?_;rintro e w2 ⟨rfl, c⟩;replace X := row_keep c X;replace B := below_step B c;clear c f;by_cases m : (n1 : Int) ≤ left - (n0 : Int)
  ·rw [szI_yes m];have g1 : ¬ (left - (n0 : Int) - (n1 : Int) < 0) := by omega
   obtain ⟨k, i⟩ := cells_house X;clear k i X;go_wp2;go_ret
   exact ⟨ret_int (by rw [szI_yes (by omega)]; omega), B⟩
  ·rw [szI_no m];clear X;go_wp2;go_ret
   exact ⟨ret_int (szI_no (by omega)).symm, B⟩
 ·rw [szI_no o];clear X;go_wp2;go_ret
  exact ⟨ret_int (szI_no (by omega)).symm, B⟩
theorem eqHouse_u : EqC 28 houseR houseM aggV := by
 intro cs ds x w h k o;obtain ⟨d, f, rfl, s, i⟩ := house_rd h;obtain ⟨c, b, rfl, j, n⟩ := house_rd k;clear h k;rw [show houseM.bk x = rowsM.bk x.1 + entsM.bk x.2 from rfl] at o;change Calls Tryz.prog 28 #[.agg #[d, f], .agg #[c, b]] w _
 have q : Hid (∀ W, Bl w W → Calls Tryz.prog 68 #[d, c] W fun e w' => e = .returned (.bool true) ∧ Bl W w') := fun W hb => eqRows_u [d] [c] _ W (rd_next s hb) (rd_next j hb) (by omega);have g : Hid (∀ W, Bl w W → Calls Tryz.prog 69 #[f, b] W fun e w' => e = .returned (.bool true) ∧ Bl W w') := fun W hb => eqEnts_u [f] [b] _ W (rd_next i hb) (rd_next n hb) (by omega);clear o s j i n;have X := heap_on (.cells #[c, b] 27) (heap_at w (.cells #[d, f] 27));have Y := heap_at (w.alloc (.cells #[d, f] 27)) (.cells #[c, b] 27);rw [alloc_len] at Y;have B := below_step (box_below w (.cells #[d, f] 27)) (box_below _ (.cells #[c, b] 27));go_enter Tryz.func28, Tryz.ntmps28;go_wp2_with fail
 generalize (w.alloc (.cells #[d, f] 27)).alloc (.cells #[c, b] 27) = W0 at X Y B ⊢;refine (q.out _ B).mono ?_;rintro e w1 ⟨rfl, a⟩;replace X := row_keep a X;replace Y := row_keep a Y;replace B := below_step B a;clear a q;obtain ⟨r, m⟩ := cells_house X;obtain ⟨p, l⟩ := cells_house Y;go_wp2_with fail
 clear r m p l;refine (g.out _ B).mono ?_;rintro e w2 ⟨rfl, a⟩;replace X := row_keep a X;replace Y := row_keep a Y;replace B := below_step B a;clear a g;obtain ⟨r, m⟩ := cells_house X;obtain ⟨p, l⟩ := cells_house Y;clear X Y;go_wp2;go_ret
 exact ⟨rfl, B⟩
theorem house_cV (x : HouseD) : houseM.cV x = rowsM.cV x.1 + entsM.cV x.2 := rfl
theorem house_mV (k : Int) (x : HouseD) : houseM.mV k x = (rowsM.mV k x.1, entsM.mV (k + ((rowsM.cV x.1 : Nat) : Int)) x.2) := rfl
theorem hdHouse_u : HdC 34 houseR houseM aggV := by
 intro cs x k w h h0 l r;rw [house_mV] at h;obtain ⟨g, p, rfl, o, i⟩ := house_rd h;clear h;simp only at o i
 rw [house_cV] at l ⊢;rw [show houseM.bk x = rowsM.bk x.1 + entsM.bk x.2 from rfl] at r;have el : lot = 4398046511104 := rfl;change Calls Tryz.prog 34 #[.agg #[g, p], nI k] w _
 have m : Hid (∀ L W, L = k → Bl w W → 0 ≤ L → L + (rowsM.cV x.1 : Int) ≤ (lot : Int) → Calls Tryz.prog 74 #[g, nI L] W fun e w' => e = .returned (nI (L + (rowsM.cV x.1 : Int))) ∧ Bl W w') := fun L W hL hq a b => by subst hL; exact hdRows_u [g] _ _ W (rd_next o hq) a b (by omega)
 have f : Hid (∀ L W, L = (k + ((rowsM.cV x.1 : Nat) : Int)) → Bl w W → 0 ≤ L → L + (entsM.cV x.2 : Int) ≤ (lot : Int) → Calls Tryz.prog 75 #[p, nI L] W fun e w' => e = .returned (nI (L + (entsM.cV x.2 : Int))) ∧ Bl W w') := fun L W hL hq a b => by subst hL; exact hdEnts_u [p] _ _ W (rd_next i hq) a b (by omega)
 clear o i;generalize rowsM.cV x.1 = n0 at m f l ⊢;generalize entsM.cV x.2 = n1 at f l ⊢;go_enter Tryz.func34, Tryz.ntmps34;go_wp2_with fail
 generalize d : w.alloc _ = W0;have X := boxH d;have B := boxB d;clear d;refine (m.out (k) _ (by omega) B (by omega) (by omega)).mono ?_;rintro e w1 ⟨rfl, c⟩;replace X := row_keep c X;replace B := below_step B c;clear c m;have q : ¬ (k + (n0 : Int) < 0) := by omega
 obtain ⟨n, j⟩ := cells_house X;go_wp2_with fail
 clear n j q;refine (f.out (k + (n0 : Int)) _ (by omega) B (by omega) (by omega)).mono ?_;rintro e w2 ⟨rfl, c⟩;replace X := row_keep c X;replace B := below_step B c;clear c f;have g1 : ¬ (k + (n0 : Int) + (n1 : Int) < 0) := by omega
 obtain ⟨n, j⟩ := cells_house X;clear n j X;go_wp2;go_ret
 exact ⟨ret_int (by omega), B⟩
theorem house_own {w : World} {S : Foot} {cs : List Value} {x : HouseD} (h : houseR.own w S cs x) : ∃ b c a S1, cs = [b, c] ∧ rowsR.own w a [b] x.1 ∧ entsR.own w S1 [c] x.2 ∧ Sub a S ∧ Sub S1 S ∧ Dis a S1 := by
 obtain ⟨c0, e0, a, j, rfl, f, d, i, g, k⟩ := h;obtain ⟨b, rfl⟩ := len1house (rowsR.rd_len (rowsR.own_rd f));obtain ⟨c, rfl⟩ := len1house (entsR.rd_len (entsR.own_rd d));exact ⟨b, c, a, j, rfl, f, d, i, (Sub.refl _).trans g, k.sub (Sub.refl _) (Sub.refl _)⟩
theorem own_house {w : World} {S S0 S1 : Foot} {v0 v1 : Value} {x : HouseD}  (h0 : rowsR.own w S0 [v0] x.1) (h1 : entsR.own w S1 [v1] x.2) (s0 : Sub S0 S) (s1 : Sub S1 S) (d01 : Dis S0 S1) : houseR.own w S [v0, v1] x := by
 exact ⟨[v0], [v1], S0, S1, rfl, h0, h1, s0, (fun q h => s1 q h), (fun q a h => d01 q a h)⟩
theorem mkHouse_u : MkC 31 houseR houseM aggV := by
 intro S cs x k w h h0 F O;obtain ⟨g, i, v, s, rfl, N, J, n, o, z⟩ := house_own h;clear h;rw [house_cV] at F ⊢;rw [show houseM.bk x = rowsM.bk x.1 + entsM.bk x.2 from rfl] at O;have el : lot = 4398046511104 := rfl;change Calls Tryz.prog 31 #[.agg #[g, i], nI k] w _
 have G : Hid (∀ L W, L = k → rowsR.own W (Old w v) [g] x.1 → 0 ≤ L → L + (rowsM.cV x.1 : Int) ≤ (lot : Int) → Calls Tryz.prog 71 #[g, nI L] W fun e w' => e = .returned (nI (L + (rowsM.cV x.1 : Int))) ∧ rowsR.own w' (Old w v) [g] (rowsM.mV k x.1) ∧ Chg (Old w v) W w') := fun L W hL ho a b => by subst hL; exact mkRows_u (Old w v) [g] _ _ W ho a b (by omega)
 have A : Hid (∀ L W, L = (k + ((rowsM.cV x.1 : Nat) : Int)) → entsR.own W (Old w s) [i] x.2 → 0 ≤ L → L + (entsM.cV x.2 : Int) ≤ (lot : Int) → Calls Tryz.prog 72 #[i, nI L] W fun e w' => e = .returned (nI (L + (entsM.cV x.2 : Int))) ∧ entsR.own w' (Old w s) [i] (entsM.mV (k + ((rowsM.cV x.1 : Nat) : Int)) x.2) ∧ Chg (Old w s) W w') := fun L W hL ho a b => by subst hL; exact mkEnts_u (Old w s) [i] _ _ W ho a b (by omega)
 have X := heap_at w (.cells #[g, i] 27);have p : w.heap.size < (w.alloc (.cells #[g, i] 27)).heap.size := by simp
 have j : Chg S (w.alloc (.cells #[g, i] 27)) (w.alloc (.cells #[g, i] 27)) := Chg.refl _ _;have K : ∀ W, Chg S (w.alloc (.cells #[g, i] 27)) W → Chg S w W := fun W => chg_from_box;have I := own_box (.cells #[g, i] 27) (own_old N);have d : ¬ Old w v w.heap.size := fun h => by have := h.2; omega
 have r := own_box (.cells #[g, i] 27) (own_old J);have f : ¬ Old w s w.heap.size := fun h => by have := h.2; omega
 have c : Dis (Old w v) (Old w s) := z.sub old_sub old_sub;have D : Hid _ := aI c (aI d (aI f (aI n (o))));have M : Hid _ := K;clear K N J c z d f n o;have q : Hid (∀ (P : HouseD → Prop), P (rowsM.mV k x.1, entsM.mV (k + ((rowsM.cV x.1 : Nat) : Int)) x.2) → P (houseM.mV k x)) := fun P hp => by rw [house_mV]; exact hp
 generalize rowsM.cV x.1 = n0 at G A q F ⊢;generalize entsM.cV x.2 = n1 at A q F ⊢;go_enter Tryz.func31, Tryz.ntmps31;go_wp2_with fail
 generalize w.alloc (.cells #[g, i] 27) = W0 at X p j M I r ⊢;refine (G.out (k) _ (by omega) I (by omega) (by omega)).mono ?_;rintro e w1 ⟨rfl, m, l⟩;obtain ⟨c, d, f, n, o⟩ := D.out;replace X := (l.block w.heap.size p d).trans X;replace p := Nat.lt_of_lt_of_le p l.size;replace j := j.trans (l.mono (old_sub.trans n));replace r := own_chg r l (Dis.symm c);clear l G c d f n o;obtain ⟨H, E⟩ := cells_house X;have C : Hid _ := aI j (aI r (m));clear j r m;go_wp2_with fail
 clear H E;obtain ⟨j, r, m⟩ := C.out;clear C;refine (A.out (k + (n0 : Int)) _ (by omega) r (by omega) (by omega)).mono ?_;rintro e w2 ⟨rfl, B, l⟩;obtain ⟨c, d, f, n, o⟩ := D.out;replace X := (l.block w.heap.size p f).trans X;replace p := Nat.lt_of_lt_of_le p l.size;replace j := j.trans (l.mono (old_sub.trans o));replace m := own_chg m l c;clear l A c d f n o;obtain ⟨H, E⟩ := cells_house X;clear H E X;have C : Hid _ := aI j (aI m (B));clear j m B;go_wp2;go_ret
 obtain ⟨j, m, B⟩ := C.out;obtain ⟨c, d, f, n, o⟩ := D.out;exact ⟨ret_int (by omega), q.out (fun y => houseR.own _ S _ y) (own_house (x := (rowsM.mV k x.1, entsM.mV (k + (n0 : Int)) x.2))  m B (old_sub.trans n) (old_sub.trans o) c), M.out _ j⟩
theorem froz_house {w : World} {g : Nat} {cs : Array Value} {t : TypeId} (h : w.heap[g]? = some (.cells cs t (0, 0))) : w.frozen? ⟨g, 0, none⟩ = false ∧ w.frozen? ⟨g, 1, none⟩ = false :=
 ⟨frozen_of_row w g 0 _ t h, frozen_of_row w g 1 _ t h⟩
theorem put_house {w : World} {g : Nat} {x0 x1 y0 y1 : Value} {t : TypeId} (h : w.heap[g]? = some (.cells #[x0, x1] t (0, 0))) : ((w.setCell ⟨g, 0, none⟩ (y0)).setCell ⟨g, 1, none⟩ (y1)).heap[g]? = some (.cells #[y0, y1] t (0, 0)) := by
 have b : (w.setCell ⟨g, 0, none⟩ (y0)).heap[g]? = some (.cells #[y0, x1] t (0, 0)) := heap_setCell_same _ g 0 _ t y0 h;have a : ((w.setCell ⟨g, 0, none⟩ (y0)).setCell ⟨g, 1, none⟩ (y1)).heap[g]? = some (.cells #[y0, y1] t (0, 0)) := heap_setCell_same _ g 1 _ t y1 b;exact a
theorem toHouse_u : ToC 26 houseR houseM aggV := by
 intro cs x w h N;obtain ⟨n, p, rfl, G, F⟩ := house_rd h;clear h;rw [show houseM.bk x = rowsM.bk x.1 + entsM.bk x.2 from rfl] at N;change Calls Tryz.prog 26 #[.agg #[n, p]] w _
 have O : Hid (∀ W, Bl w W → Calls Tryz.prog 65 #[n] W fun e D => ∃ d c, e = .returned (sL d x.1.length c) ∧ MadeR rowsR W D [sL d x.1.length c] x.1) := fun W hb => (toRows_u [n] _ W (rd_next G hb) (by omega)).mono (by rintro e D ⟨Y, rfl, a⟩; obtain ⟨d, c, rfl, -⟩ := rowsR.own_rd a.1; exact ⟨d, c, rfl, a⟩);have M : Hid (∀ W, Bl w W → Calls Tryz.prog 66 #[p] W fun e D => ∃ l j, e = .returned (sL l x.2.length j) ∧ MadeR entsR W D [sL l x.2.length j] x.2) := fun W hb => (toEnts_u [p] _ W (rd_next F hb) (by omega)).mono (by rintro e D ⟨Y, rfl, a⟩; obtain ⟨l, j, rfl, -⟩ := entsR.own_rd a.1; exact ⟨l, j, rfl, a⟩);clear N G F;have i := heap_on (.cells #[sL none 0 0, sL none 0 0] 27) (heap_on (.cells #[sL none 0 0, sL none 0 0] 27) (heap_at w (.cells #[n, p] 53)));have f := heap_on (.cells #[sL none 0 0, sL none 0 0] 27) (heap_at (w.alloc (.cells #[n, p] 53)) (.cells #[sL none 0 0, sL none 0 0] 27));have b := heap_at ((w.alloc (.cells #[n, p] 53)).alloc (.cells #[sL none 0 0, sL none 0 0] 27)) (.cells #[sL none 0 0, sL none 0 0] 27);rw [alloc_len] at f;rw [alloc_len, alloc_len] at b;have B : Bl w (((w.alloc (.cells #[n, p] 53)).alloc (.cells #[sL none 0 0, sL none 0 0] 27)).alloc (.cells #[sL none 0 0, sL none 0 0] 27)) := (((Below.refl _ w).alloc (Nat.le_refl _) _).alloc (by simp) _).alloc (by simp; omega) _;have e3 : w.heap.size + 1 + 1 + 1 ≤ (((w.alloc (.cells #[n, p] 53)).alloc (.cells #[sL none 0 0, sL none 0 0] 27)).alloc (.cells #[sL none 0 0, sL none 0 0] 27)).heap.size := by simp
 go_enter Tryz.func26, Tryz.ntmps26;go_wp2_with fail
 generalize ((w.alloc (.cells #[n, p] 53)).alloc (.cells #[sL none 0 0, sL none 0 0] 27)).alloc (.cells #[sL none 0 0, sL none 0 0] 27) = u0 at i f b B e3 ⊢;refine (O.out _ B).mono ?_;rintro e m ⟨d, c, rfl, a⟩;have Z := a.2.size;replace B := below_step B a.2;replace i := row_keep a.2 i;replace f := row_keep a.2 f;replace b := row_keep a.2 b;have k := a.1;clear a O;obtain ⟨J, L⟩ := cells_house i;obtain ⟨y0, y1⟩ := cells_house b;obtain ⟨I, K⟩ := froz_house b;have C : Hid _ := aI i (aI f (aI b (aI B (k))));clear i f b B k;go_wp2_with fail
 clear J L y0 y1 I K;obtain ⟨i, f, b, B, k⟩ := C.out;clear C;have E : (m.setCell ⟨w.heap.size + 1 + 1, 0, none⟩ (sL d x.1.length c)).heap[w.heap.size + 1 + 1]? = some (.cells #[sL d x.1.length c, sL none 0 0] 27 (0, 0)) := heap_setCell_same _ (w.heap.size + 1 + 1) 0 _ _ (sL d x.1.length c) b;have z := (heap_setC (g := w.heap.size + 1 + 1) (o := 0) (v := sL d x.1.length c) i (by omega));have A := (heap_setC (g := w.heap.size + 1 + 1) (o := 0) (v := sL d x.1.length c) f (by omega));have s : Bl w (m.setCell ⟨w.heap.size + 1 + 1, 0, none⟩ (sL d x.1.length c)) := (below_setC B (by omega));have y : rowsR.own (m.setCell ⟨w.heap.size + 1 + 1, 0, none⟩ (sL d x.1.length c)) _ _ _ := (own_setC k (fun h => by have := h.1; omega));have r : m.heap.size ≤ (m.setCell ⟨w.heap.size + 1 + 1, 0, none⟩ (sL d x.1.length c)).heap.size := by simp
 have q : (m.setCell ⟨w.heap.size + 1 + 1, 0, none⟩ (sL d x.1.length c)).heap.size ≤ m.heap.size := by simp
 clear i f b B k ;generalize (m.setCell ⟨w.heap.size + 1 + 1, 0, none⟩ (sL d x.1.length c)) = u1 at z A E s r q y ⊢;have i := z;have f := A;have b := E;have B := s;have k := y;have U := r;have bA := q;clear z A E s r q y;refine (M.out _ B).mono ?_;rintro e R ⟨l, j, rfl, a⟩;have S := a.2.size;replace B := below_step B a.2;replace i := row_keep a.2 i;replace f := row_keep a.2 f;replace b := row_keep a.2 b;replace k := own_stay k a.2 (by omega);have H := a.1;clear a M;obtain ⟨J, L⟩ := cells_house i;obtain ⟨y0, y1⟩ := cells_house b;obtain ⟨I, K⟩ := froz_house b;obtain ⟨z0, X⟩ := cells_house f;obtain ⟨T, g1⟩ := froz_house f;have C : Hid _ := aI i (aI f (aI b (aI B (aI k (H)))));clear i f b B k H;go_wp2;clear J L y0 y1 I K z0 X T g1;obtain ⟨i, f, b, B, k, H⟩ := C.out;clear C;have E : (R.setCell ⟨w.heap.size + 1 + 1, 1, none⟩ (sL l x.2.length j)).heap[w.heap.size + 1 + 1]? = some (.cells #[sL d x.1.length c, sL l x.2.length j] 27 (0, 0)) := heap_setCell_same _ (w.heap.size + 1 + 1) 1 _ _ (sL l x.2.length j) b;have V := put_house (y0 := sL d x.1.length c) (y1 := sL l x.2.length j) (heap_setC (g := w.heap.size + 1 + 1) (o := 1) (v := sL l x.2.length j) f (by omega));obtain ⟨G, F⟩ := cells_house V;refine bodyPost_ret (v := .agg #[sL d x.1.length c, sL l x.2.length j]) (by simp [results, Tryz.results26, go_sem, G, F]) rfl ⟨[sL d x.1.length c, sL l x.2.length j], rfl, own_house (S0 := rng u0.heap.size m.heap.size) (S1 := rng u1.heap.size R.heap.size)  ?_ ?_ (rng_sub (by omega) (by simp <;> omega)) (rng_sub (by omega) (by simp <;> omega)) (rng_dis (.inl (by omega))), ?_⟩
 ·exact (own_setC (own_setC (own_setC k (fun h => by have := h.1; omega)) (fun h => by have := h.1; omega)) (fun h => by have := h.1; omega))
 ·exact (own_setC (own_setC (own_setC H (fun h => by have := h.1; omega)) (fun h => by have := h.1; omega)) (fun h => by have := h.1; omega))
 ·exact (below_setC (below_setC (below_setC B (by omega)) (by omega)) (by omega))
theorem house_shape {w : World} {cs : List Value} {x : HouseD} (h : houseR.rd w cs x) : ∃ (b : Option Addr) (a : Nat) (d : Option Addr) (c : Nat), cs = [sL b x.1.length a, sL d x.2.length c] := by
 obtain ⟨v0, v1, rfl, i, j⟩ := house_rd h;obtain ⟨b, a, g, -⟩ := i;simp only [List.cons.injEq, and_true] at g;obtain rfl := g;obtain ⟨d, c, f, -⟩ := j;simp only [List.cons.injEq, and_true] at f;obtain rfl := f;exact ⟨b, a, d, c, rfl⟩
theorem opens_house : Opens Tryz.prog 53 houseR :=
 opens_struct Tryz.underlying53 (by kernel_rfl) (opensF_cons rfl (by kernel_rfl) opens_rows (opensF_one rfl (by kernel_rfl) opens_ents))
def badP {α : Type} (p : α → Bool) (xs : List α) : Int := match xs.findIdx? (fun u => !p u) with
 | some i => (i : Int)
 | none => -1
theorem badP_at {α : Type} {p : α → Bool} {xs : List α} {k : Nat} {u : α} (hu : xs[k]? = some u) (hp : p u = false) (hno : ∀ j v, j < k → xs[j]? = some v → p v = true) : badP p xs = (k : Int) := by
 have a := (List.getElem?_eq_some_iff.1 hu).1;have : xs.findIdx? (fun u => !p u) = some k := by
  rw [List.findIdx?_eq_some_iff_getElem];refine ⟨a, ?_, fun j hj => ?_⟩
  ·rw [List.getElem?_eq_getElem a] at hu;cases hu;simp [hp]
  ·have := hno j _ hj (List.getElem?_eq_getElem (by omega));simp [this]
 unfold badP;rw [this]
theorem badP_no {α : Type} {p : α → Bool} {xs : List α} (hno : ∀ (j : Nat) (v : α), xs[j]? = some v → p v = true) : badP p xs = -1 := by
 have : xs.findIdx? (fun u => !p u) = none := by
  rw [List.findIdx?_eq_none_iff];intro u a;obtain ⟨j, b⟩ := List.getElem?_of_mem a;simp [hno j u b]
 unfold badP;rw [this]
theorem badP_all {α : Type} (p : α → Bool) (xs : List α) : xs.all p = decide (badP p xs < 0) := by
 cases h : xs.all p
 ·have b : ¬ ∀ x ∈ xs, p x = true := fun hh => by rw [List.all_eq_true.2 hh] at h; cases h
  cases a : xs.findIdx? (fun u => !p u) with
  | none =>
   rw [List.findIdx?_eq_none_iff] at a;exact (b fun x hx => by have := a x hx; simpa using this).elim
  | some i => simp [badP, a]
 ·rw [badP_no fun j v hv => List.all_eq_true.1 h v (List.mem_of_getElem? hv)];rfl
theorem l3Word_any (k : Int) (w : World) : Calls Tryz.prog 133 #[nI k] w fun e a => e = .returned (.bool (okW k)) ∧ a = w := by
 go_enter Tryz.func133, Tryz.ntmps133;go_wp2_with (go_at_call 58; refine (l1In_any _ _ _ _).mono ?_; rintro e a ⟨rfl, rfl⟩)
 go_ret
 exact ⟨rfl, rfl⟩
theorem specLineOk_not (a : Option Addr) (n cap : Nat) (w : World) (hn : n ≠ 2) :
    Calls Tryz.prog 103 #[sL a n cap] w fun e w' => e = .returned (.bool false) ∧ w' = w := by
 have b : ((n : Int) == 2) = false := by simp; omega
 go_enter Tryz.func103, Tryz.ntmps103;go_wp2;go_ret
 exact ⟨rfl, rfl⟩
theorem specLineOk_two (a : Option Addr) (x y : Int) (cap : Nat) (w : World) (h : Reads w a [x, y]) :
    Calls Tryz.prog 103 #[sL a 2 cap] w fun e c => e = .returned (.bool (okW x && okW y)) ∧ c = w := by
 obtain ⟨b, d, rfl, c0, c1⟩ := reads_two h;clear h;cases hx : okW x <;> cases hy : okW y
 all_goals
  go_enter Tryz.func103, Tryz.ntmps103;go_wp2_with (go_at_call 133; refine (l3Word_any _ _).mono ?_; rintro e c ⟨rfl, rfl⟩)
  go_ret
  exact ⟨rfl, rfl⟩
theorem specLineOk_any (a : Option Addr) (xs : List Int) (cap : Nat) (w : World) (h : Reads w a xs) :
    Calls Tryz.prog 103 #[sL a xs.length cap] w fun e w' => e = .returned (.bool (isL xs)) ∧ w' = w := by
 match xs with
 | [x, y] => exact specLineOk_two a x y cap w h
 | [] => exact specLineOk_not a 0 cap w (by simp)
 | [_] => exact specLineOk_not a 1 cap w (by simp)
 | _ :: _ :: _ :: r => exact specLineOk_not a (r.length + 1 + 1 + 1) cap w (by omega)
theorem made_put {w w1 : World} {g cap : Nat} {zs : List Int} (h : OwnI w.heap.size w1 g cap zs) (hb : Bl w w1) (k : Nat) (u : Int) :
    Made w (w1.setCell ⟨g, k, none⟩ (nI u)) (sL (some ⟨g, 0, none⟩) zs.length cap) (zs.set k u) := by
 have a := h.lt g rfl;have S := World.ownsRow.stored h k (nI u);refine ⟨g, cap, by simp, a.1, by simpa using a.2, ?_, hb.grown S.2 hb.size (by intro j b; cases b; exact a.1)⟩;have := S.1;unfold OwnI;rw [List.length_set, List.map_set];exact this
theorem owni_cells {B g cap : Nat} {w : World} {x y : Int} (h : OwnI B w g cap [x, y]) :
    w.cell? ⟨g, 0, none⟩ = some (nI x) ∧ w.cell? ⟨g, 1, none⟩ = some (nI y) ∧ w.frozen? ⟨g, 0, none⟩ = false ∧ w.frozen? ⟨g, 1, none⟩ = false :=
 ⟨by rw [World.ownsRow.cellAt h 0 (by simp)]; rfl, by rw [World.ownsRow.cellAt h 1 (by simp)]; rfl, World.ownsRow.frozenAt h 0, World.ownsRow.frozenAt h 1⟩
def restB (k f l m : Int) (d : List Int) : Bool := decide (k = 0) && (decide (f = 0) && (decide (l = 0) && (decide (m = 0) && decide (d.length = 0))))
def fromB (k f l : Int) : Bool := if k ≤ 2 then betw f 0 3 else decide (f = 5) && !decide (l = 0)
def loadB (k m : Int) (d : List Int) : Bool := if k = 4 then betw m 0 3 && isL d else decide (m = 0) && decide (d.length = 0)
def busyB (k f l m : Int) (d : List Int) : Bool := betw k 1 4 && (betw l 0 4 && (fromB k f l && loadB k m d))
def whoB (o s : Int) : Bool := betw o (-1) 3 && (betw s 0 15 && !(decide (0 ≤ o) && !decide (s = 0)))
def entB (u : EntryD) : Bool := whoB u.1 u.2.1 && (if u.2.2.1 then busyB u.2.2.2.1 u.2.2.2.2.1 u.2.2.2.2.2.1 u.2.2.2.2.2.2.1 u.2.2.2.2.2.2.2 else restB u.2.2.2.1 u.2.2.2.2.1 u.2.2.2.2.2.1 u.2.2.2.2.2.2.1 u.2.2.2.2.2.2.2)
theorem eb {o s : Int} {b : Bool} {k f l m : Int} {d : List Int} : entB (o, s, b, k, f, l, m, d) = (whoB o s && (if b then busyB k f l m d else restB k f l m d)) := rfl
end Go.Proofs.YtmaopldahnejdaaGreatDoor
