import Derived.Test.YtglejdilghcbaaaGreatDoorP00Box
import Derived.Test.YtglejdilghcbaaaGreatDoorP08
namespace Go.Proofs.YtglejdilghcbaaaGreatDoor
set_option maxHeartbeats 1000000
open Go.ChangeShapes Go.WideShapes Go.ChangeAt Go.RowKit
set_option linter.unusedVariables false
theorem bk_way (u : Int × Int × List Int) : wayM.bk u = intsM.bk u.2.2 := by
 show 0 + (0 + intsM.bk u.2.2) = _
 omega
theorem szWayS_rep (a : Option Addr) (xs : List (Int × Int × List Int)) (cap : Nat) (left : Int) (w : World) (h : SlRd wayR w a xs) (h0 : 0 ≤ left) (h1 : left ≤ 1048576) (hm : xs.length ≤ maxLen) :
    Calls Tryz.prog 169 #[sL a xs.length cap, nI left] w fun e r => e = .returned (nI (szI ((slM wayM).bk xs) left)) ∧ Bl w r := by
 have S : xs.length ≤ 9223372036854775807 := hm;have j : (slM wayM).bk xs = xs.length + sumbk wayM xs := rfl;clear hm;by_cases hl : (xs.length : Int) ≤ left
 ·have y : ¬ (left - (xs.length : Int) < 0) := by omega
  have H : Hid _ := j;have V : Hid (SlRd wayR w a xs) := h;clear j h;go_enter Tryz.func169, Tryz.ntmps169;go_wp2;go_loopw [1, 5] (fun q i wr => ∃ k : Nat, k ≤ xs.length ∧ i = nI k ∧ (sumbk wayM (xs.take k) : Int) + xs.length ≤ left ∧ q = nI (left - (xs.length : Int) - sumbk wayM (xs.take k)) ∧ Bl w wr) (fun _ i _ => xs.length - (intOf i).toNat)
  case atStart => exact ⟨0, Nat.zero_le _, rfl, by simp [sumbk]; omega, by simp [sumbk], Below.refl _ _⟩
  case round =>
   obtain ⟨k, I, rfl, F, rfl, f⟩ := hrel;by_cases v : k < xs.length
   ·have D : (k : Int) < (xs.length : Int) := by omega
    obtain ⟨x, p⟩ : ∃ x, xs[k]? = some x := ⟨_, List.getElem?_eq_getElem v⟩;have G := slrd_keep V.out fun k I => f.block k I;obtain ⟨b, d, cs, rfl, g, c⟩ := slrd_at G p;obtain ⟨O, N, rfl, -, -, n, l, o⟩ := way_rd g;have R := c 0 _ rfl;have K := c 1 _ rfl;have U := c 2 _ rfl;rw [show d + (k * wayR.size + 0) = d + k * 3 from rfl] at R;rw [show d + (k * wayR.size + 1) = d + k * 3 + 1 from rfl] at K;rw [show d + (k * wayR.size + 2) = d + k * 3 + 2 from rfl] at U;have J : Hid (x.2.2.length ≤ maxLen) := Nat.le_trans n l;have HR : Hid (SlRd intR wr O x.2.2) := o;clear c g n l o;have C : Hid _ := sumbk_step (M := wayM) p;have s := sumbk_get (M := wayM) p;clear p G;generalize sumbk wayM (xs.take k) = T at F C s ⊢;by_cases E : (((wayM).bk x : Nat) : Int) ≤ left - (xs.length : Int) - (T : Int)
    ·have L : ¬ (left - (xs.length : Int) - (T : Int) - (((wayM).bk x : Nat) : Int) < 0) := by omega
     have B : Hid (szI ((wayM).bk x) (left - (xs.length : Int) - (T : Int)) = _) := szI_yes E;go_wp2_with (go_at_call 72; refine (szWay_rep x.1 x.2.1 x.2.2 _ _ _ _ (by omega) (by omega) J.out).mono ?_; rintro e r ⟨rfl, m⟩; replace f := below_step f m; clear m; rw [B.out])
     go_roundw
     case rel => exact ⟨k + 1, by omega, by go_num, by have := C.out; omega, by rw [C.out]; go_num, f⟩
     case measure => simp [intOf]; omega
    ·have B : Hid (szI ((wayM).bk x) (left - (xs.length : Int) - (T : Int)) = _) := szI_no E;have A : Hid (szI ((slM wayM).bk xs) left = -1) := by unfold Hid; rw [H.out]; exact szI_no (by omega)
     go_wp2_with (go_at_call 72; refine (szWay_rep x.1 x.2.1 x.2.2 _ _ _ _ (by omega) (by omega) J.out).mono ?_; rintro e r ⟨rfl, m⟩; replace f := below_step f m; clear m; rw [B.out])
     go_ret
     exact ⟨ret_int A.out.symm, f⟩
   ·have z : k = xs.length := by omega
    subst z;rw [List.take_length] at F ⊢;have A : Hid (szI ((slM wayM).bk xs) left = left - (xs.length : Int) - (sumbk wayM xs : Int)) := by unfold Hid; rw [H.out, szI_yes (by omega)]; omega
    go_wp2;go_ret
    exact ⟨ret_int A.out.symm, f⟩
 ·have y : left - (xs.length : Int) < 0 := by omega
  rw [szI_no (by omega)];clear j h;go_enter Tryz.func169, Tryz.ntmps169;go_wp2;go_ret
  exact ⟨rfl, Below.refl _ _⟩
theorem szWaySS_rep (a : Option Addr) (xs : List (List (Int × Int × List Int))) (cap : Nat) (left : Int) (w : World) (h : SlRd waysR w a xs) (h0 : 0 ≤ left) (h1 : left ≤ 1048576) (hm : xs.length ≤ maxLen) :
    Calls Tryz.prog 123 #[sL a xs.length cap, nI left] w fun e o => e = .returned (nI (szI ((slM waysM).bk xs) left)) ∧ Bl w o := by
 have O : xs.length ≤ 9223372036854775807 := hm;have f : (slM waysM).bk xs = xs.length + sumbk waysM xs := rfl;clear hm;by_cases hl : (xs.length : Int) ≤ left
 ·have s : ¬ (left - (xs.length : Int) < 0) := by omega
  have F : Hid _ := f;have R : Hid (SlRd waysR w a xs) := h;clear f h;go_enter Tryz.func123, Tryz.ntmps123;go_wp2;go_loopw [1, 5] (fun q i wr => ∃ k : Nat, k ≤ xs.length ∧ i = nI k ∧ (sumbk waysM (xs.take k) : Int) + xs.length ≤ left ∧ q = nI (left - (xs.length : Int) - sumbk waysM (xs.take k)) ∧ Bl w wr) (fun _ i _ => xs.length - (intOf i).toNat)
  case atStart => exact ⟨0, Nat.zero_le _, rfl, by simp [sumbk]; omega, by simp [sumbk], Below.refl _ _⟩
  case round =>
   obtain ⟨k, G, rfl, D, rfl, d⟩ := hrel;by_cases r : k < xs.length
   ·have B : (k : Int) < (xs.length : Int) := by omega
    obtain ⟨x, n⟩ : ∃ x, xs[k]? = some x := ⟨_, List.getElem?_eq_getElem r⟩;have E := slrd_keep R.out fun k G => d.block k G;obtain ⟨b, K, cs, rfl, ⟨L, cj, rfl, l, g, m⟩, c⟩ := slrd_at E n;have N := c 0 _ rfl;rw [show k * waysR.size + 0 = k from Nat.mul_one k] at N;have I : Hid (x.length ≤ maxLen) := Nat.le_trans l g;have H : Hid (SlRd wayR wr L x) := m;clear c l g m;have A : Hid _ := sumbk_step (M := waysM) n;have p := sumbk_get (M := waysM) n;clear n E;generalize sumbk waysM (xs.take k) = T at D A p ⊢;by_cases C : (((waysM).bk x : Nat) : Int) ≤ left - (xs.length : Int) - (T : Int)
    ·have J : ¬ (left - (xs.length : Int) - (T : Int) - (((waysM).bk x : Nat) : Int) < 0) := by omega
     have z : Hid (szI ((waysM).bk x) (left - (xs.length : Int) - (T : Int)) = _) := szI_yes C;go_wp2_with (go_at_call 169; refine (szWayS_rep _ x _ _ _ H.out (by omega) (by omega) I.out).mono ?_; rintro e o ⟨rfl, j⟩; replace d := below_step d j; clear j; rw [z.out])
     go_roundw
     case rel => exact ⟨k + 1, by omega, by go_num, by have := A.out; omega, by rw [A.out]; go_num, d⟩
     case measure => simp [intOf]; omega
    ·have z : Hid (szI ((waysM).bk x) (left - (xs.length : Int) - (T : Int)) = _) := szI_no C;have y : Hid (szI ((slM waysM).bk xs) left = -1) := by unfold Hid; rw [F.out]; exact szI_no (by omega)
     go_wp2_with (go_at_call 169; refine (szWayS_rep _ x _ _ _ H.out (by omega) (by omega) I.out).mono ?_; rintro e o ⟨rfl, j⟩; replace d := below_step d j; clear j; rw [z.out])
     go_ret
     exact ⟨ret_int y.out.symm, d⟩
   ·have v : k = xs.length := by omega
    subst v;rw [List.take_length] at D ⊢;have y : Hid (szI ((slM waysM).bk xs) left = left - (xs.length : Int) - (sumbk waysM xs : Int)) := by unfold Hid; rw [F.out, szI_yes (by omega)]; omega
    go_wp2;go_ret
    exact ⟨ret_int y.out.symm, d⟩
 ·have s : left - (xs.length : Int) < 0 := by omega
  rw [szI_no (by omega)];clear f h;go_enter Tryz.func123, Tryz.ntmps123;go_wp2;go_ret
  exact ⟨rfl, Below.refl _ _⟩
theorem szCache_rep (a b : Option Addr) (c : List (List (Int × Int × List Int)) × List Int) (cap cp : Nat) (left : Int) (w : World) (h : SlRd waysR w a c.1) (h0 : 0 ≤ left) (h1 : left ≤ 1048576) (m1 : c.1.length ≤ maxLen) (m2 : c.2.length ≤ maxLen) :
    Calls Tryz.prog 70 #[.agg #[sL a c.1.length cap, sL b c.2.length cp], nI left] w fun e k => e = .returned (nI (szI (cacheM.bk c) left)) ∧ Bl w k := by
 have m : cacheM.bk c = setsM.bk c.1 + intsM.bk c.2 := rfl;rw [m];have X := heap_alloc_new w (.cells #[sL a c.1.length cap, sL b c.2.length cp] 93);have j := box_below w (.cells #[sL a c.1.length cap, sL b c.2.length cp] 93);have H : Hid (∀ o, SlRd waysR (w.alloc o) a c.1) := fun o => slrd_next h (box_below w o);clear h m;generalize i : setsM.bk c.1 = n1;generalize g : intsM.bk c.2 = n2;have f := szWaySS_rep a c.1 cap left (w.alloc (.cells #[sL a c.1.length cap, sL b c.2.length cp] 93)) (H.out _) h0 h1 m1;rw [i] at f;by_cases v : (n1 : Int) ≤ left
 ·rw [szI_yes v] at f;have B : ¬ (left - (n1 : Int) < 0) := by omega
  have s : Hid (∀ W, Calls Tryz.prog 68 #[sL b c.2.length cp, nI (left - (n1 : Int))] W fun e k => e = .returned (nI (szI n2 (left - (n1 : Int)))) ∧ k = W) := fun W => by
   have := szInt64S_rep b c.2 cp (left - (n1 : Int)) W (by omega) (by omega) m2;rwa [g] at this
  clear i g H m1 m2;by_cases l : (n2 : Int) ≤ left - (n1 : Int)
  ·have p : Hid (szI (n1 + n2) left = left - (n1 : Int) - (n2 : Int)) := by unfold Hid; rw [szI_yes (by omega)]; omega
   have y : ¬ (left - (n1 : Int) - (n2 : Int) < 0) := by omega
   have q : Hid (szI n2 (left - (n1 : Int)) = left - (n1 : Int) - (n2 : Int)) := szI_yes l;go_enter Tryz.func70, Tryz.ntmps70;go_wp2_with fail
   refine f.mono ?_;rintro e z ⟨rfl, d⟩;obtain ⟨A, r⟩ := cell_two (row_keep d X);have n := below_step j d;clear d X j f;go_wp2_with (go_at_call 68; refine (s.out _).mono ?_; rintro e k ⟨rfl, rfl⟩; rw [q.out])
   go_ret
   exact ⟨ret_int p.out.symm, n⟩
  ·have p : Hid (szI (n1 + n2) left = -1) := by unfold Hid; exact szI_no (by omega)
   have q : Hid (szI n2 (left - (n1 : Int)) = -1) := szI_no l;go_enter Tryz.func70, Tryz.ntmps70;go_wp2_with fail
   refine f.mono ?_;rintro e z ⟨rfl, d⟩;obtain ⟨A, r⟩ := cell_two (row_keep d X);have n := below_step j d;clear d X j f;go_wp2_with (go_at_call 68; refine (s.out _).mono ?_; rintro e k ⟨rfl, rfl⟩; rw [q.out])
   go_ret
   exact ⟨ret_int p.out.symm, n⟩
 ·rw [szI_no v] at f;have p : Hid (szI (n1 + n2) left = -1) := by unfold Hid; exact szI_no (by omega)
  clear i g H m1 m2;go_enter Tryz.func70, Tryz.ntmps70;go_wp2_with fail
  refine f.mono ?_;rintro e z ⟨rfl, d⟩;obtain ⟨A, r⟩ := cell_two (row_keep d X);have n := below_step j d;clear d X j f;go_wp2;go_ret
  exact ⟨ret_int p.out.symm, n⟩
theorem cells_3 {w : World} {g : Nat} {x y z : Value} {t : TypeId} (h : w.heap[g]? = some (.cells #[x, y, z] t (0, 0))) :
    w.cell? ⟨g, 0, none⟩ = some x ∧ w.cell? ⟨g, 1, none⟩ = some y ∧ w.cell? ⟨g, 2, none⟩ = some z :=
 ⟨by rw [cell_of_row w g 0 _ t (0, 0) h]; rfl, by rw [cell_of_row w g 1 _ t (0, 0) h]; rfl, by rw [cell_of_row w g 2 _ t (0, 0) h]; rfl⟩
theorem cells_froz {w : World} {g : Nat} {cs : Array Value} {t : TypeId} (h : w.heap[g]? = some (.cells cs t (0, 0))) : w.frozen? ⟨g, 0, none⟩ = false ∧ w.frozen? ⟨g, 1, none⟩ = false ∧ w.frozen? ⟨g, 2, none⟩ = false :=
 ⟨frozen_of_row w g 0 _ t h, frozen_of_row w g 1 _ t h, frozen_of_row w g 2 _ t h⟩
theorem put3 {w : World} {g : Nat} {x y z a b c : Value} {t : TypeId} (h : w.heap[g]? = some (.cells #[x, y, z] t (0, 0))) :
    (((w.setCell ⟨g, 0, none⟩ a).setCell ⟨g, 1, none⟩ b).setCell ⟨g, 2, none⟩ c).heap[g]? = some (.cells #[a, b, c] t (0, 0)) := by
 have f := heap_setCell_same w g 0 _ t a h;have d := heap_setCell_same _ g 1 _ t b f;exact heap_setCell_same _ g 2 _ t c d
theorem put2 {w : World} {g : Nat} {x y a b : Value} {t : TypeId} (h : w.heap[g]? = some (.cells #[x, y] t (0, 0))) :
    ((w.setCell ⟨g, 0, none⟩ a).setCell ⟨g, 1, none⟩ b).heap[g]? = some (.cells #[a, b] t (0, 0)) := by
 have c := heap_setCell_same w g 0 _ t a h;exact heap_setCell_same _ g 1 _ t b c
theorem toWay_rep (l s : Int) (d : List Int) (a : Option Addr) (cap : Nat) (w : World) (i1 : In64 l) (i2 : In64 s) (h : SlRd intR w a d) (hm : intsM.bk d ≤ 1048576) :
    Calls Tryz.prog 91 #[.agg #[nI l, nI s, sL a d.length cap]] w fun e w' => ∃ m n, e = .returned (.agg #[nI l, nI s, sL m d.length n]) ∧ MadeR wayR w w' [nI l, nI s, sL m d.length n] (l, s, d) := by
 have H : Hid (∀ W, Bl w W → SlRd intR W a d) := fun W hb => slrd_keep h fun k hk => hb.block k hk;clear h;go_enter Tryz.func91, Tryz.ntmps91;go_wp2_with fail
 have r : Bl w (((w.alloc (.cells #[nI l, nI s, sL a d.length cap] 95)).alloc (.cells #[nI 0, nI 0, sL none 0 0] 64)).alloc (.cells #[nI l, nI s, sL none 0 0] 64)) := (((Below.refl _ w).alloc (Nat.le_refl _) _).alloc (by simp) _).alloc (by simp; omega) _;have f := heap_on (.cells #[nI l, nI s, sL none 0 0] 64) (heap_at (w.alloc (.cells #[nI l, nI s, sL a d.length cap] 95)) (.cells #[nI 0, nI 0, sL none 0 0] 64));have i := heap_at ((w.alloc (.cells #[nI l, nI s, sL a d.length cap] 95)).alloc (.cells #[nI 0, nI 0, sL none 0 0] 64)) (.cells #[nI l, nI s, sL none 0 0] 64);have D : (((w.alloc (.cells #[nI l, nI s, sL a d.length cap] 95)).alloc (.cells #[nI 0, nI 0, sL none 0 0] 64)).alloc (.cells #[nI l, nI s, sL none 0 0] 64)).heap.size = w.heap.size + 1 + 1 + 1 := by simp
 rw [alloc_len] at f;rw [alloc_len, alloc_len] at i;generalize ((w.alloc (.cells #[nI l, nI s, sL a d.length cap] 95)).alloc (.cells #[nI 0, nI 0, sL none 0 0] 64)).alloc (.cells #[nI l, nI s, sL none 0 0] 64) = W0 at r f i D ⊢;refine (toInt64S_rep _ d _ _ (H.out _ r) hm).mono ?_;rintro e w1 ⟨v, rfl, q⟩;obtain ⟨m, n, rfl⟩ := slown_val q.1;have p := q.2;have j := q.1;have E := below_step r p;replace f := row_keep p f;replace i := row_keep p i;obtain ⟨y0, y1, y2⟩ := cells_3 i;obtain ⟨f0, f1, f2⟩ := cells_froz i;obtain ⟨z0, z1, z2⟩ := cells_3 f;obtain ⟨g0, g1, g2⟩ := cells_froz f;have F : Hid _ := aI f i;have z : Hid _ := j;clear f i j q H;go_wp2;obtain ⟨f, i⟩ := F.out;have C := put3 (a := nI l) (b := nI s) (c := sL m d.length n) (heap_setC (g := w.heap.size + 1 + 1) (o := 2) (v := sL m d.length n) f (by omega));obtain ⟨B, A, y⟩ := cells_3 C;refine bodyPost_ret (v := .agg #[nI l, nI s, sL m d.length n]) (by simp [results, Tryz.results91, go_sem, B, A, y]) rfl ⟨m, n, rfl, own_way i1 i2 ?_, ?_⟩
 ·refine intsR.own_mono (own_setC (own_setC (own_setC (own_setC z.out (fun h => by have := h.1; omega)) (fun h => by have := h.1; omega)) (fun h => by have := h.1; omega)) (fun h => by have := h.1; omega)) ?_;exact rng_sub (by omega) (by simp)
 ·exact below_setC (below_setC (below_setC (below_setC E (by omega)) (by omega)) (by omega)) (by omega)
theorem Tryz.infoWay : (Tryz.prog.info? 64).map (fun i => (i.zero, i.size, i.bytes)) = some (some (.agg #[nI 0, nI 0, sL none 0 0]), 3, 40) := by kernel_rfl
theorem toWayS_rep (a : Option Addr) (xs : List (Int × Int × List Int)) (cap : Nat) (w : World) (h : SlRd wayR w a xs) (hm : waysM.bk xs ≤ 1048576) :
    Calls Tryz.prog 170 #[sL a xs.length cap] w fun e w' => ∃ v, e = .returned v ∧ MadeR waysR w w' [v] xs := by
 have y : waysM.bk xs = xs.length + sumbk wayM xs := rfl;have O : xs.length ≤ 1048576 := by omega
 have X : Hid (sumbk wayM xs ≤ 1048576) := by unfold Hid; omega
 have H0 : Hid (SlRd wayR w a xs) := h;clear y hm h;have s := run_make_wide (P := Tryz.prog) 112 64 (.agg #[nI 0, nI 0, sL none 0 0]) 3 40 Tryz.underlying112 Tryz.infoWay xs.length (by omega) (by omega);go_enter Tryz.func170, Tryz.ntmps170;go_wp2;go_loopw [4] (fun i wr => ∃ k : Nat, k ≤ xs.length ∧ i = nI k ∧ Fill 64 wayR w wr xs.length (xs.take k)) (fun i _ => xs.length - (intOf i).toNat)
 case atStart => exact ⟨0, Nat.zero_le _, rfl, by simpa using fillR_start (e := 64) (R := wayR) (w0 := w) (n := xs.length) (cs := madeCells #[nI 0, nI 0, sL none 0 0] (xs.length * 3)) (by unfold maxLen; omega) (by rw [size_madeCells]; rfl)⟩
 case round =>
  obtain ⟨k, hk, rfl, j⟩ := hrel;by_cases l : k < xs.length
  ·have H : (k : Int) < (xs.length : Int) := by omega
   obtain ⟨x, p⟩ : ∃ x, xs[k]? = some x := ⟨_, List.getElem?_eq_getElem l⟩;obtain ⟨b, f, cs, rfl, g, d⟩ := slrd_at (slrd_next H0.out (fill_below j)) p;obtain ⟨U, T, rfl, F, L, B, r, m⟩ := way_rd g;have K := d 0 _ rfl;have G := d 1 _ rfl;have M := d 2 _ rfl;rw [show f + (k * wayR.size + 0) = f + k * 3 from rfl] at K;rw [show f + (k * wayR.size + 1) = f + k * 3 + 1 from rfl] at G;rw [show f + (k * wayR.size + 2) = f + k * 3 + 2 from rfl] at M;have HX : Hid (intsM.bk x.2.2 ≤ 1048576) := by unfold Hid; have := sumbk_ge wayM xs p; rw [bk_way] at this; have := X.out; omega
   have Z : Hid (SlRd intR wr U x.2.2) := m;have N : Hid (In64 x.1 ∧ In64 x.2.1) := ⟨F, L⟩;have J : Hid (∀ w1 c, MadeR wayR wr w1 c x → _) := fun w1 c hm => fillR_step (w1 := w1) (c := c) j (by simp; omega) l hm;have Y : Hid (xs.take k ++ [x] = xs.take (k + 1)) := by unfold Hid; rw [List.take_add_one, p]; rfl
   clear p g d s j B r m F L;go_wp2_with fail
   refine (toWay_rep x.1 x.2.1 x.2.2 _ _ _ N.out.1 N.out.2 Z.out HX.out).mono ?_;rintro e w1 ⟨av, cv, rfl, I⟩;obtain ⟨o, q, z⟩ := J.out _ _ I;obtain ⟨v0, E⟩ := o 0 (by decide);obtain ⟨v1, D⟩ := o 1 (by decide);obtain ⟨v2, A⟩ := o 2 (by decide);have z0 := q (k * 3);have z1 := q (k * 3 + 1);have z2 := q (k * 3 + 2);rw [show k * wayR.size + 0 = k * 3 from rfl] at E;rw [show k * wayR.size + 1 = k * 3 + 1 from rfl] at D;rw [show k * wayR.size + 2 = k * 3 + 2 from rfl] at A;rw [Y.out] at z;have V : Hid _ := z;clear z I o q J K G M;go_wp2;go_roundw
   case rel => exact ⟨k + 1, by omega, by go_num, V.out⟩
   case measure => simp [intOf]; omega
  ·have C : k = xs.length := by omega
   subst C;rw [List.take_length] at j;have S := fillR_end j rfl;clear j;go_wp2;go_ret
   exact ⟨_, rfl, S⟩
theorem cell_kp {w w' : World} {D b o : Nat} {u : Value} (hb : Below D w w') (h : w.cell? ⟨b, o, none⟩ = some u) (hl : b < D) : w'.cell? ⟨b, o, none⟩ = some u :=
 (World.cell?_of_block (w := w) (a := ⟨b, o, none⟩) (hb.block b hl)).trans h
theorem cell_l {w : World} {b o : Nat} {u : Value} (h : w.cell? ⟨b, o, none⟩ = some u) : b < w.heap.size := World.block_lt_of_cell? w _ h
theorem Tryz.infoWayS : (Tryz.prog.info? 112).map (fun i => (i.zero, i.size, i.bytes)) = some (some (sL none 0 0), 1, 24) := by kernel_rfl
theorem toWaySS_rep (a : Option Addr) (xs : List (List (Int × Int × List Int))) (cap : Nat) (w : World) (h : SlRd waysR w a xs) (hm : setsM.bk xs ≤ 1048576) :
    Calls Tryz.prog 126 #[sL a xs.length cap] w fun e w' => ∃ v, e = .returned v ∧ MadeR setsR w w' [v] xs := by
 have o : setsM.bk xs = xs.length + sumbk waysM xs := rfl;have C : xs.length ≤ 1048576 := by omega
 have I : Hid (sumbk waysM xs ≤ 1048576) := by unfold Hid; omega
 have O : Hid (SlRd waysR w a xs) := h;clear o hm h;have m := Go.run_make_row' (P := Tryz.prog) 58 112 (sL none 0 0) 24 Tryz.underlying58 Tryz.infoWayS rfl .i64 .i64 xs.length (by omega) (by omega);go_enter Tryz.func126, Tryz.ntmps126;go_wp2;go_loopw [4] (fun i wr => ∃ k : Nat, k ≤ xs.length ∧ i = nI k ∧ Fill 112 waysR w wr xs.length (xs.take k)) (fun i _ => xs.length - (intOf i).toNat)
 case atStart => exact ⟨0, Nat.zero_le _, rfl, by simpa using fillR_start (e := 112) (R := waysR) (w0 := w) (n := xs.length) (cs := madeCells #[sL none 0 0] xs.length) (by unfold maxLen; omega) (by simp [size_madeCells]; exact (Nat.mul_one _).symm)⟩
 case round =>
  obtain ⟨k, hk, rfl, f⟩ := hrel;by_cases g : k < xs.length
  ·have y : (k : Int) < (xs.length : Int) := by omega
   obtain ⟨x, l⟩ : ∃ x, xs[k]? = some x := ⟨_, List.getElem?_eq_getElem g⟩;obtain ⟨b, G, c, rfl, ⟨aj, cj, rfl, K, D, j⟩, d⟩ := slrd_at (slrd_next O.out (fill_below f)) l;have B := d 0 _ rfl;rw [show k * waysR.size + 0 = k from Nat.mul_one k] at B;have L : Hid _ := j;have N : Hid (waysM.bk x ≤ 1048576) := by unfold Hid; have := sumbk_ge waysM xs l; have := I.out; omega
   have E : Hid (∀ w1 v, MadeR waysR wr w1 [v] x → _) := fun w1 v hm => fillR_step (w1 := w1) (c := [v]) f (by simp; omega) g hm;have J : Hid (xs.take k ++ [x] = xs.take (k + 1)) := by unfold Hid; rw [List.take_add_one, l]; rfl
   clear l j d m f;go_wp2_with (go_at_call 170; refine (toWayS_rep _ x _ _ L.out N.out).mono ?_; rintro e w1 ⟨v, rfl, q⟩; obtain ⟨av, cv, rfl⟩ := slown_val q.1; obtain ⟨z, A, p⟩ := E.out _ _ q; obtain ⟨v0, s⟩ := z 0 (Nat.zero_lt_one); have M := A k; rw [show k * waysR.size + 0 = k from Nat.mul_one k] at s; rw [show k * waysR.size = k from Nat.mul_one k, J.out] at p; have H : Hid _ := p; clear p q z A)
   go_roundw
   case rel => exact ⟨k + 1, by omega, by go_num, H.out⟩
   case measure => simp [intOf]; omega
  ·have r : k = xs.length := by omega
   subst r;rw [List.take_length] at f;have F := fillR_end f rfl;clear f;go_wp2;go_ret
   exact ⟨_, rfl, F⟩
theorem own_cache {w : World} {S S1 S2 : Foot} {c : List (List (Int × Int × List Int)) × List Int} {u v : Value} (h1 : setsR.own w S1 [u] c.1) (h2 : intsR.own w S2 [v] c.2) (s1 : Sub S1 S) (s2 : Sub S2 S) (hd : Dis S1 S2) : cacheR.own w S [u, v] c :=
 ⟨[_], [_], S1, S2, rfl, h1, h2, s1, s2, hd⟩
theorem cells_froz2 {w : World} {g : Nat} {cs : Array Value} {t : TypeId} (h : w.heap[g]? = some (.cells cs t (0, 0))) : w.frozen? ⟨g, 0, none⟩ = false ∧ w.frozen? ⟨g, 1, none⟩ = false :=
 ⟨frozen_of_row w g 0 _ t h, frozen_of_row w g 1 _ t h⟩
theorem toCache_rep (a b : Option Addr) (c : List (List (Int × Int × List Int)) × List Int) (cap cp : Nat) (w : World) (h1 : SlRd waysR w a c.1) (h2 : SlRd intR w b c.2) (hm : cacheM.bk c ≤ 1048576) :
    Calls Tryz.prog 89 #[.agg #[sL a c.1.length cap, sL b c.2.length cp]] w fun e w' => ∃ f i n p, e = .returned (.agg #[sL f c.1.length i, sL n c.2.length p]) ∧ MadeR cacheR w w' [sL f c.1.length i, sL n c.2.length p] c := by
 have I : cacheM.bk c = setsM.bk c.1 + intsM.bk c.2 := rfl;have L : Hid (∀ W, Bl w W → SlRd waysR W a c.1) := fun W hb => slrd_keep h1 fun k hk => hb.block k hk;have M : Hid (∀ W, Bl w W → SlRd intR W b c.2) := fun W hb => slrd_keep h2 fun k hk => hb.block k hk;have z : Hid (setsM.bk c.1 ≤ 1048576) := by unfold Hid; omega
 have B : Hid (intsM.bk c.2 ≤ 1048576) := by unfold Hid; omega
 clear h1 h2 I hm;go_enter Tryz.func89, Tryz.ntmps89;go_wp2_with fail
 have E : Bl w (((w.alloc (.cells #[sL a c.1.length cap, sL b c.2.length cp] 93)).alloc (.cells #[sL none 0 0, sL none 0 0] 61)).alloc (.cells #[sL none 0 0, sL none 0 0] 61)) := (((Below.refl _ w).alloc (Nat.le_refl _) _).alloc (by simp) _).alloc (by simp; omega) _;have A := heap_on (.cells #[sL none 0 0, sL none 0 0] 61) (heap_on (.cells #[sL none 0 0, sL none 0 0] 61) (heap_at w (.cells #[sL a c.1.length cap, sL b c.2.length cp] 93)));have l := heap_on (.cells #[sL none 0 0, sL none 0 0] 61) (heap_at (w.alloc (.cells #[sL a c.1.length cap, sL b c.2.length cp] 93)) (.cells #[sL none 0 0, sL none 0 0] 61));have j := heap_at ((w.alloc (.cells #[sL a c.1.length cap, sL b c.2.length cp] 93)).alloc (.cells #[sL none 0 0, sL none 0 0] 61)) (.cells #[sL none 0 0, sL none 0 0] 61);have e3 : (((w.alloc (.cells #[sL a c.1.length cap, sL b c.2.length cp] 93)).alloc (.cells #[sL none 0 0, sL none 0 0] 61)).alloc (.cells #[sL none 0 0, sL none 0 0] 61)).heap.size = w.heap.size + 1 + 1 + 1 := by simp
 rw [alloc_len] at l;rw [alloc_len, alloc_len] at j;generalize ((w.alloc (.cells #[sL a c.1.length cap, sL b c.2.length cp] 93)).alloc (.cells #[sL none 0 0, sL none 0 0] 61)).alloc (.cells #[sL none 0 0, sL none 0 0] 61) = W0 at E A l j e3 ⊢;refine (toWaySS_rep _ c.1 _ _ (L.out _ E) z.out).mono ?_;rintro e r ⟨v, rfl, d⟩;obtain ⟨f, i, rfl⟩ := slown_val d.1;have U := d.2.size;have N := below_step E d.2;have y : Hid (setsR.own r (rng W0.heap.size r.heap.size) [sL f c.1.length i] c.1) := d.1;replace A := row_keep d.2 A;replace l := row_keep d.2 l;replace j := row_keep d.2 j;obtain ⟨V, p1⟩ := cell_two A;obtain ⟨S, K⟩ := cell_two j;obtain ⟨R, O⟩ := cells_froz2 j;have F : Hid _ := aI l j;clear A l j d L z;go_wp2_with fail
 obtain ⟨l, j⟩ := F.out;have D := below_setC (g := w.heap.size + 1 + 1) (o := 0) (v := sL f c.1.length i) N (by omega);have q := heap_setCell_same r (w.heap.size + 1 + 1) 0 _ _ (sL f c.1.length i) j;have m := heap_setC (g := w.heap.size + 1 + 1) (o := 0) (v := sL f c.1.length i) l (by omega);have s := own_setC (g := w.heap.size + 1 + 1) (o := 0) (v := sL f c.1.length i) y.out (fun h => by have := h.1; omega);have H : (r.setCell ⟨w.heap.size + 1 + 1, 0, none⟩ (sL f c.1.length i)).heap.size = r.heap.size := by simp
 clear l j F y R O S K E N V p1;generalize r.setCell ⟨w.heap.size + 1 + 1, 0, none⟩ (sL f c.1.length i) = w2 at D m q s H ⊢;refine (toInt64S_rep _ c.2 _ _ (M.out _ D) B.out).mono ?_;rintro e C ⟨v, rfl, d⟩;obtain ⟨n, p, rfl⟩ := slown_val d.1;have aA := d.2.size;have T := below_step D d.2;have J : Hid (setsR.own C (rng W0.heap.size r.heap.size) [sL f c.1.length i] c.1) := own_stay s d.2 (by omega);have G : Hid (intsR.own C (rng w2.heap.size C.heap.size) [sL n c.2.length p] c.2) := d.1;replace m := row_keep d.2 m;replace q := row_keep d.2 q;obtain ⟨S, K⟩ := cell_two q;obtain ⟨R, O⟩ := cells_froz2 q;obtain ⟨z0, z1⟩ := cell_two m;obtain ⟨g0, g1⟩ := cells_froz2 m;have F : Hid _ := aI m q;clear m q d M B s D;go_wp2;obtain ⟨m, q⟩ := F.out;have Y := put2 (a := sL f c.1.length i) (b := sL n c.2.length p) (heap_setC (g := w.heap.size + 1 + 1) (o := 1) (v := sL n c.2.length p) m (by omega));obtain ⟨Z, X⟩ := cell_two Y;refine bodyPost_ret (v := .agg #[sL f c.1.length i, sL n c.2.length p]) (by simp [results, Tryz.results89, go_sem, Z, X]) rfl ⟨f, i, n, p, rfl, own_cache (S1 := rng W0.heap.size r.heap.size) (S2 := rng w2.heap.size C.heap.size) ?_ ?_ (rng_sub (by omega) (by simp; omega)) (rng_sub (by omega) (by simp)) (rng_dis (.inl (by omega))), ?_⟩
 ·exact own_setC (own_setC (own_setC J.out (fun h => by have := h.1; omega)) (fun h => by have := h.1; omega)) (fun h => by have := h.1; omega)
 ·exact own_setC (own_setC (own_setC G.out (fun h => by have := h.1; omega)) (fun h => by have := h.1; omega)) (fun h => by have := h.1; omega)
 ·exact below_setC (below_setC (below_setC T (by omega)) (by omega)) (by omega)
theorem eqWay_rep (l s : Int) (d : List Int) (a1 a2 : Option Addr) (c1 c2 : Nat) (w : World) (h1 : SlRd intR w a1 d) (h2 : SlRd intR w a2 d) (hm : intsM.bk d ≤ 1152921504606846976) :
    Calls Tryz.prog 120 #[.agg #[nI l, nI s, sL a1 d.length c1], .agg #[nI l, nI s, sL a2 d.length c2]] w fun e b => e = .returned (.bool true) ∧ Bl w b := by
 have a : Hid (∀ o o', Bl w ((w.alloc o).alloc o')) := fun o o' => below_step (box_below w o) (box_below _ o');have c : Hid (∀ W, Bl w W → SlRd intR W a1 d) := fun W hb => slrd_keep h1 fun k hk => hb.block k hk;have f : Hid (∀ W, Bl w W → SlRd intR W a2 d) := fun W hb => slrd_keep h2 fun k hk => hb.block k hk;clear h1 h2;go_enter Tryz.func120, Tryz.ntmps120;go_wp2_with fail
 refine (eqInt64S_rep a1 a2 d c1 c2 _ (c.out _ (a.out _ _)) (f.out _ (a.out _ _)) hm).mono ?_;rintro e b ⟨rfl, n, rfl⟩;go_wp2;go_ret
 exact ⟨rfl, be_drewN (a.out _ _) n⟩
theorem eqWayS_rep (a1 a2 : Option Addr) (xs : List (Int × Int × List Int)) (c1 c2 : Nat) (w : World) (h1 : SlRd wayR w a1 xs) (h2 : SlRd wayR w a2 xs) (hm : (slM wayM).bk xs ≤ 1152921504606846976) :
    Calls Tryz.prog 202 #[sL a1 xs.length c1, sL a2 xs.length c2] w fun e w' => e = .returned (.bool true) ∧ Bl w w' := by
 have M : (slM wayM).bk xs = xs.length + sumbk wayM xs := rfl;have U : xs.length ≤ 1152921504606846976 := by omega
 have Z : Hid (sumbk wayM xs ≤ 1152921504606846976) := by unfold Hid; omega
 have V : Hid (∀ W, Bl w W → SlRd wayR W a1 xs) := fun W hb => slrd_keep h1 fun k K => hb.block k K;have Y : Hid (∀ W, Bl w W → SlRd wayR W a2 xs) := fun W hb => slrd_keep h2 fun k K => hb.block k K;clear M hm h1 h2;go_enter Tryz.func202, Tryz.ntmps202;go_wp2;go_loopw [5] (fun i wr => ∃ k : Nat, k ≤ xs.length ∧ i = nI k ∧ Bl w wr) (fun i _ => xs.length - (intOf i).toNat)
 case atStart => exact ⟨0, Nat.zero_le _, rfl, Below.refl _ _⟩
 case round =>
  obtain ⟨k, K, rfl, s⟩ := hrel;by_cases N : k < xs.length
  ·have T : (k : Int) < (xs.length : Int) := by omega
   obtain ⟨x, J⟩ : ∃ x, xs[k]? = some x := ⟨_, List.getElem?_eq_getElem N⟩;have HX : Hid ((wayM).bk x ≤ 1152921504606846976) := by unfold Hid; have := sumbk_ge wayM xs J; have := Z.out; omega
   obtain ⟨L, a, aA, rfl, q, c⟩ := slrd_at (V.out _ s) J;obtain ⟨y, C, rfl, -, -, -, -, G⟩ := way_rd q;have g := c 0 _ rfl;have f := c 1 _ rfl;have o := c 2 _ rfl;rw [show a + (k * wayR.size + 0) = a + k * 3 from rfl] at g;rw [show a + (k * wayR.size + 1) = a + k * 3 + 1 from rfl] at f;rw [show a + (k * wayR.size + 2) = a + k * 3 + 2 from rfl] at o;have S : Hid (∀ n : Cls (fun wx => Bl wr wx), SlRd intR n.w y x.2.2) := fun n => slrd_next G n.h;clear c q G;obtain ⟨r, b, X, rfl, p, d⟩ := slrd_at (Y.out _ s) J;obtain ⟨I, B, rfl, -, -, -, -, v⟩ := way_rd p;have l := d 0 _ rfl;have j := d 1 _ rfl;have m := d 2 _ rfl;rw [show b + (k * wayR.size + 0) = b + k * 3 from rfl] at l;rw [show b + (k * wayR.size + 1) = b + k * 3 + 1 from rfl] at j;rw [show b + (k * wayR.size + 2) = b + k * 3 + 2 from rfl] at m;have R : Hid (∀ n : Cls (fun wx => Bl wr wx), SlRd intR n.w I x.2.2) := fun n => slrd_next v n.h;clear d p v;have z : ∀ n : Cls (fun wx => Bl wr wx), n.w.cell? ⟨L, a + k * 3, none⟩ = some (nI x.1) := fun n => cell_kp n.h g (cell_l g);have A : ∀ n : Cls (fun wx => Bl wr wx), n.w.cell? ⟨L, a + k * 3 + 1, none⟩ = some (nI x.2.1) := fun n => cell_kp n.h f (cell_l f);have H : ∀ n : Cls (fun wx => Bl wr wx), n.w.cell? ⟨L, a + k * 3 + 2, none⟩ = some (sL y x.2.2.length C) := fun n => cell_kp n.h o (cell_l o);have E : ∀ n : Cls (fun wx => Bl wr wx), n.w.cell? ⟨r, b + k * 3, none⟩ = some (nI x.1) := fun n => cell_kp n.h l (cell_l l);have D : ∀ n : Cls (fun wx => Bl wr wx), n.w.cell? ⟨r, b + k * 3 + 1, none⟩ = some (nI x.2.1) := fun n => cell_kp n.h j (cell_l j);have F : ∀ n : Cls (fun wx => Bl wr wx), n.w.cell? ⟨r, b + k * 3 + 2, none⟩ = some (sL I x.2.2.length B) := fun n => cell_kp n.h m (cell_l m);clear J g f o l j m;go_wp2_with fail
   refine region_class (fun wx => Bl wr wx) (by kernel_rfl) (by kernel_rfl) ((Below.refl _ wr).drew) ?_;intro O;repeat (quiet_step ((go_at_call 120; exact calls_class (eqWay_rep x.1 x.2.1 x.2.2 _ _ _ _ _ (S.out _) (R.out _) (by have := HX.out; rw [bk_way] at this; exact this)) (fun w' hc bb => below_step hc bb))))
   refine wpQuiet_nil ?_;intro wx r;replace s := below_step s r;clear r O z A H E D F;go_wp2;go_roundw
   case rel => exact ⟨k + 1, by omega, by go_num, s⟩
   case measure => simp [intOf]; omega
  ·go_wp2;go_ret
   exact ⟨rfl, s⟩
theorem eqWaySS_rep (a1 a2 : Option Addr) (xs : List (List (Int × Int × List Int))) (c1 c2 : Nat) (w : World) (h1 : SlRd waysR w a1 xs) (h2 : SlRd waysR w a2 xs) (hm : (slM waysM).bk xs ≤ 1152921504606846976) :
    Calls Tryz.prog 168 #[sL a1 xs.length c1, sL a2 xs.length c2] w fun e w' => e = .returned (.bool true) ∧ Bl w w' := by
 have z : (slM waysM).bk xs = xs.length + sumbk waysM xs := rfl;have I : xs.length ≤ 1152921504606846976 := by omega
 have M : Hid (sumbk waysM xs ≤ 1152921504606846976) := by unfold Hid; omega
 have J : Hid (∀ W, Bl w W → SlRd waysR W a1 xs) := fun W hb => slrd_keep h1 fun k y => hb.block k y;have L : Hid (∀ W, Bl w W → SlRd waysR W a2 xs) := fun W hb => slrd_keep h2 fun k y => hb.block k y;clear z hm h1 h2;go_enter Tryz.func168, Tryz.ntmps168;go_wp2;go_loopw [5] (fun i wr => ∃ k : Nat, k ≤ xs.length ∧ i = nI k ∧ Bl w wr) (fun i _ => xs.length - (intOf i).toNat)
 case atStart => exact ⟨0, Nat.zero_le _, rfl, Below.refl _ _⟩
 case round =>
  obtain ⟨k, y, rfl, f⟩ := hrel;by_cases A : k < xs.length
  ·have G : (k : Int) < (xs.length : Int) := by omega
   obtain ⟨x, v⟩ : ∃ x, xs[k]? = some x := ⟨_, List.getElem?_eq_getElem A⟩;have O : Hid ((waysM).bk x ≤ 1152921504606846976) := by unfold Hid; have := sumbk_ge waysM xs v; have := M.out; omega
   obtain ⟨H, j, N, rfl, ⟨p, F, rfl, -, -, o⟩, a⟩ := slrd_at (J.out _ f) v;have c := a 0 _ rfl;rw [show k * waysR.size + 0 = k from Nat.mul_one k] at c;have E : Hid (∀ n : Cls (fun wx => Bl wr wx), SlRd wayR n.w p x) := fun n => slrd_next o n.h;clear a o;obtain ⟨s, q, K, rfl, ⟨l, C, rfl, -, -, g⟩, b⟩ := slrd_at (L.out _ f) v;have d := b 0 _ rfl;rw [show k * waysR.size + 0 = k from Nat.mul_one k] at d;have D : Hid (∀ n : Cls (fun wx => Bl wr wx), SlRd wayR n.w l x) := fun n => slrd_next g n.h;clear b g;have r : ∀ n : Cls (fun wx => Bl wr wx), n.w.cell? ⟨H, j + k, none⟩ = some (sL p x.length F) := fun n => cell_kp n.h c (cell_l c);have m : ∀ n : Cls (fun wx => Bl wr wx), n.w.cell? ⟨s, q + k, none⟩ = some (sL l x.length C) := fun n => cell_kp n.h d (cell_l d);clear v c d;go_wp2_with fail
   refine region_class (fun wx => Bl wr wx) (by kernel_rfl) (by kernel_rfl) ((Below.refl _ wr).drew) ?_;intro B;repeat (quiet_step ((go_at_call 202; exact calls_class (eqWayS_rep _ _ x _ _ _ (E.out _) (D.out _) O.out) (fun w' hc bb => below_step hc bb))))
   refine wpQuiet_nil ?_;intro wx s;replace f := below_step f s;clear s B r m;go_wp2;go_roundw
   case rel => exact ⟨k + 1, by omega, by go_num, f⟩
   case measure => simp [intOf]; omega
  ·go_wp2;go_ret
   exact ⟨rfl, f⟩
theorem eqCache_rep (c : List (List (Int × Int × List Int)) × List Int) (a1 b1 a2 b2 : Option Addr) (c1 d1 c2 d2 : Nat) (w : World) (h1 : SlRd waysR w a1 c.1) (k1 : SlRd intR w b1 c.2) (h2 : SlRd waysR w a2 c.1) (k2 : SlRd intR w b2 c.2) (hm : cacheM.bk c ≤ 1152921504606846976) :
    Calls Tryz.prog 118 #[.agg #[sL a1 c.1.length c1, sL b1 c.2.length d1], .agg #[sL a2 c.1.length c2, sL b2 c.2.length d2]] w fun e w' => e = .returned (.bool true) ∧ Bl w w' := by
 have g : cacheM.bk c = setsM.bk c.1 + intsM.bk c.2 := rfl;have j : Hid (setsM.bk c.1 ≤ 1152921504606846976) := by unfold Hid; omega
 have l : Hid (intsM.bk c.2 ≤ 1152921504606846976) := by unfold Hid; omega
 have f : Hid (∀ W, Bl w W → SlRd waysR W a1 c.1 ∧ SlRd waysR W a2 c.1 ∧ SlRd intR W b1 c.2 ∧ SlRd intR W b2 c.2) := fun W hb => ⟨slrd_keep h1 fun k hk => hb.block k hk, slrd_keep h2 fun k hk => hb.block k hk, slrd_keep k1 fun k hk => hb.block k hk, slrd_keep k2 fun k hk => hb.block k hk⟩;clear h1 h2 k1 k2 g hm;have i := heap_on (.cells #[sL a2 c.1.length c2, sL b2 c.2.length d2] 61) (heap_at w (.cells #[sL a1 c.1.length c1, sL b1 c.2.length d1] 61));have d := heap_at (w.alloc (.cells #[sL a1 c.1.length c1, sL b1 c.2.length d1] 61)) (.cells #[sL a2 c.1.length c2, sL b2 c.2.length d2] 61);have b := below_step (box_below w (.cells #[sL a1 c.1.length c1, sL b1 c.2.length d1] 61)) (box_below _ (.cells #[sL a2 c.1.length c2, sL b2 c.2.length d2] 61));rw [alloc_len] at d;go_enter Tryz.func118, Tryz.ntmps118;go_wp2_with fail
 generalize (w.alloc (.cells #[sL a1 c.1.length c1, sL b1 c.2.length d1] 61)).alloc (.cells #[sL a2 c.1.length c2, sL b2 c.2.length d2] 61) = W0 at i d b ⊢;refine (eqWaySS_rep a1 a2 c.1 c1 c2 _ (f.out _ b).1 (f.out _ b).2.1 j.out).mono ?_;rintro e w1 ⟨rfl, a⟩;replace b := below_step b a;obtain ⟨r, m⟩ := cell_two (row_keep a i);obtain ⟨o, p⟩ := cell_two (row_keep a d);clear a i d;go_wp2_with fail
 refine (eqInt64S_rep b1 b2 c.2 d1 d2 _ (f.out _ b).2.2.1 (f.out _ b).2.2.2 l.out).mono ?_;rintro e w2 ⟨rfl, n, rfl⟩;have q := be_drewN b n;clear r m o p;go_wp2;go_ret
 exact ⟨rfl, q⟩
end Go.Proofs.YtglejdilghcbaaaGreatDoor
