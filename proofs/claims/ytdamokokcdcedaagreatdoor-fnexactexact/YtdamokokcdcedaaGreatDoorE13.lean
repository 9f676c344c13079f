import Derived.Test.YtdamokokcdcedaaGreatDoorE00Box
import Derived.Test.YtdamokokcdcedaaGreatDoorE08
namespace Go.Proofs.YtdamokokcdcedaaGreatDoor
set_option maxHeartbeats 1000000
open Go.ChangeShapes Go.WideShapes Go.ChangeAt Go.RowKit
set_option linter.unusedVariables false
theorem bk_way (u : Int × Int × List Int) : wayM.bk u = intsM.bk u.2.2 := by
 show 0 + (0 + intsM.bk u.2.2) = _
 omega
theorem szWayS_rep (a : Option Addr) (xs : List (Int × Int × List Int)) (cap : Nat) (left : Int) (w : World) (h : SlRd wayR w a xs) (h0 : 0 ≤ left) (h1 : left ≤ 1048576) (hm : xs.length ≤ maxLen) :
    Calls Tryz.prog 227 #[sL a xs.length cap, nI left] w fun e v => e = .returned (nI (szI ((slM wayM).bk xs) left)) ∧ Bl w v := by
 have L : xs.length ≤ 9223372036854775807 := hm;have j : (slM wayM).bk xs = xs.length + sumbk wayM xs := rfl;clear hm;by_cases hl : (xs.length : Int) ≤ left
 ·have C : ¬ (left - (xs.length : Int) < 0) := by omega
  have I : Hid _ := j;have U : Hid (SlRd wayR w a xs) := h;clear j h;go_enter Tryz.func227, Tryz.ntmps227;go_wp2;go_loopw [1, 5] (fun q i wr => ∃ k : Nat, k ≤ xs.length ∧ i = nI k ∧ (sumbk wayM (xs.take k) : Int) + xs.length ≤ left ∧ q = nI (left - (xs.length : Int) - sumbk wayM (xs.take k)) ∧ Bl w wr) (fun _ i _ => xs.length - (intOf i).toNat)
  case atStart => exact ⟨0, Nat.zero_le _, rfl, by simp [sumbk]; omega, by simp [sumbk], Below.refl _ _⟩
  case round =>
   obtain ⟨k, F, rfl, J, rfl, g⟩ := hrel;by_cases z : k < xs.length
   ·have G : (k : Int) < (xs.length : Int) := by omega
    obtain ⟨x, p⟩ : ∃ x, xs[k]? = some x := ⟨_, List.getElem?_eq_getElem z⟩;have E := slrd_keep U.out fun k F => g.block k F;obtain ⟨b, d, cs, rfl, f, c⟩ := slrd_at E p;obtain ⟨S, O, rfl, -, -, m, n, l⟩ := way_rd f;have V := c 0 _ rfl;have N := c 1 _ rfl;have R := c 2 _ rfl;rw [show d + (k * wayR.size + 0) = d + k * 3 from rfl] at V;rw [show d + (k * wayR.size + 1) = d + k * 3 + 1 from rfl] at N;rw [show d + (k * wayR.size + 2) = d + k * 3 + 2 from rfl] at R;have D : Hid (x.2.2.length ≤ maxLen) := Nat.le_trans m n;have HR : Hid (SlRd intR wr S x.2.2) := l;clear c f m n l;have r : Hid _ := sumbk_step (M := wayM) p;have y := sumbk_get (M := wayM) p;clear p E;generalize sumbk wayM (xs.take k) = T at J r y ⊢;by_cases H : (((wayM).bk x : Nat) : Int) ≤ left - (xs.length : Int) - (T : Int)
    ·have K : ¬ (left - (xs.length : Int) - (T : Int) - (((wayM).bk x : Nat) : Int) < 0) := by omega
     have A : Hid (szI ((wayM).bk x) (left - (xs.length : Int) - (T : Int)) = _) := szI_yes H;go_wp2_with (go_at_call 124; refine (szWay_rep x.1 x.2.1 x.2.2 _ _ _ _ (by omega) (by omega) D.out).mono ?_; rintro e v ⟨rfl, o⟩; replace g := below_step g o; clear o; rw [A.out])
     go_roundw
     case rel => exact ⟨k + 1, by omega, by go_num, by have := r.out; omega, by rw [r.out]; go_num, g⟩
     case measure => simp [intOf]; omega
    ·have A : Hid (szI ((wayM).bk x) (left - (xs.length : Int) - (T : Int)) = _) := szI_no H;have B : Hid (szI ((slM wayM).bk xs) left = -1) := by unfold Hid; rw [I.out]; exact szI_no (by omega)
     go_wp2_with (go_at_call 124; refine (szWay_rep x.1 x.2.1 x.2.2 _ _ _ _ (by omega) (by omega) D.out).mono ?_; rintro e v ⟨rfl, o⟩; replace g := below_step g o; clear o; rw [A.out])
     go_ret
     exact ⟨ret_int B.out.symm, g⟩
   ·have s : k = xs.length := by omega
    subst s;rw [List.take_length] at J ⊢;have B : Hid (szI ((slM wayM).bk xs) left = left - (xs.length : Int) - (sumbk wayM xs : Int)) := by unfold Hid; rw [I.out, szI_yes (by omega)]; omega
    go_wp2;go_ret
    exact ⟨ret_int B.out.symm, g⟩
 ·have C : left - (xs.length : Int) < 0 := by omega
  rw [szI_no (by omega)];clear j h;go_enter Tryz.func227, Tryz.ntmps227;go_wp2;go_ret
  exact ⟨rfl, Below.refl _ _⟩
theorem szWaySS_rep (a : Option Addr) (xs : List (List (Int × Int × List Int))) (cap : Nat) (left : Int) (w : World) (h : SlRd waysR w a xs) (h0 : 0 ≤ left) (h1 : left ≤ 1048576) (hm : xs.length ≤ maxLen) :
    Calls Tryz.prog 184 #[sL a xs.length cap, nI left] w fun e r => e = .returned (nI (szI ((slM waysM).bk xs) left)) ∧ Bl w r := by
 have K : xs.length ≤ 9223372036854775807 := hm;have f : (slM waysM).bk xs = xs.length + sumbk waysM xs := rfl;clear hm;by_cases hl : (xs.length : Int) ≤ left
 ·have A : ¬ (left - (xs.length : Int) < 0) := by omega
  have H : Hid _ := f;have O : Hid (SlRd waysR w a xs) := h;clear f h;go_enter Tryz.func184, Tryz.ntmps184;go_wp2;go_loopw [1, 5] (fun q i wr => ∃ k : Nat, k ≤ xs.length ∧ i = nI k ∧ (sumbk waysM (xs.take k) : Int) + xs.length ≤ left ∧ q = nI (left - (xs.length : Int) - sumbk waysM (xs.take k)) ∧ Bl w wr) (fun _ i _ => xs.length - (intOf i).toNat)
  case atStart => exact ⟨0, Nat.zero_le _, rfl, by simp [sumbk]; omega, by simp [sumbk], Below.refl _ _⟩
  case round =>
   obtain ⟨k, D, rfl, I, rfl, d⟩ := hrel;by_cases v : k < xs.length
   ·have E : (k : Int) < (xs.length : Int) := by omega
    obtain ⟨x, n⟩ : ∃ x, xs[k]? = some x := ⟨_, List.getElem?_eq_getElem v⟩;have C := slrd_keep O.out fun k D => d.block k D;obtain ⟨b, L, cs, rfl, ⟨N, cj, rfl, j, l, g⟩, c⟩ := slrd_at C n;have R := c 0 _ rfl;rw [show k * waysR.size + 0 = k from Nat.mul_one k] at R;have B : Hid (x.length ≤ maxLen) := Nat.le_trans j l;have F : Hid (SlRd wayR wr N x) := g;clear c j l g;have o : Hid _ := sumbk_step (M := waysM) n;have s := sumbk_get (M := waysM) n;clear n C;generalize sumbk waysM (xs.take k) = T at I o s ⊢;by_cases G : (((waysM).bk x : Nat) : Int) ≤ left - (xs.length : Int) - (T : Int)
    ·have J : ¬ (left - (xs.length : Int) - (T : Int) - (((waysM).bk x : Nat) : Int) < 0) := by omega
     have y : Hid (szI ((waysM).bk x) (left - (xs.length : Int) - (T : Int)) = _) := szI_yes G;go_wp2_with (go_at_call 227; refine (szWayS_rep _ x _ _ _ F.out (by omega) (by omega) B.out).mono ?_; rintro e r ⟨rfl, m⟩; replace d := below_step d m; clear m; rw [y.out])
     go_roundw
     case rel => exact ⟨k + 1, by omega, by go_num, by have := o.out; omega, by rw [o.out]; go_num, d⟩
     case measure => simp [intOf]; omega
    ·have y : Hid (szI ((waysM).bk x) (left - (xs.length : Int) - (T : Int)) = _) := szI_no G;have z : Hid (szI ((slM waysM).bk xs) left = -1) := by unfold Hid; rw [H.out]; exact szI_no (by omega)
     go_wp2_with (go_at_call 227; refine (szWayS_rep _ x _ _ _ F.out (by omega) (by omega) B.out).mono ?_; rintro e r ⟨rfl, m⟩; replace d := below_step d m; clear m; rw [y.out])
     go_ret
     exact ⟨ret_int z.out.symm, d⟩
   ·have p : k = xs.length := by omega
    subst p;rw [List.take_length] at I ⊢;have z : Hid (szI ((slM waysM).bk xs) left = left - (xs.length : Int) - (sumbk waysM xs : Int)) := by unfold Hid; rw [H.out, szI_yes (by omega)]; omega
    go_wp2;go_ret
    exact ⟨ret_int z.out.symm, d⟩
 ·have A : left - (xs.length : Int) < 0 := by omega
  rw [szI_no (by omega)];clear f h;go_enter Tryz.func184, Tryz.ntmps184;go_wp2;go_ret
  exact ⟨rfl, Below.refl _ _⟩
theorem szCache_rep (a b : Option Addr) (c : List (List (Int × Int × List Int)) × List Int) (cap cp : Nat) (left : Int) (w : World) (h : SlRd waysR w a c.1) (h0 : 0 ≤ left) (h1 : left ≤ 1048576) (m1 : c.1.length ≤ maxLen) (m2 : c.2.length ≤ maxLen) :
    Calls Tryz.prog 122 #[.agg #[sL a c.1.length cap, sL b c.2.length cp], nI left] w fun e k => e = .returned (nI (szI (cacheM.bk c) left)) ∧ Bl w k := by
 have l : cacheM.bk c = setsM.bk c.1 + intsM.bk c.2 := rfl;rw [l];have X := heap_alloc_new w (.cells #[sL a c.1.length cap, sL b c.2.length cp] 107);have j := box_below w (.cells #[sL a c.1.length cap, sL b c.2.length cp] 107);have H : Hid (∀ o, SlRd waysR (w.alloc o) a c.1) := fun o => slrd_next h (box_below w o);clear h l;generalize i : setsM.bk c.1 = n1;generalize g : intsM.bk c.2 = n2;have f := szWaySS_rep a c.1 cap left (w.alloc (.cells #[sL a c.1.length cap, sL b c.2.length cp] 107)) (H.out _) h0 h1 m1;rw [i] at f;by_cases r : (n1 : Int) ≤ left
 ·rw [szI_yes r] at f;have B : ¬ (left - (n1 : Int) < 0) := by omega
  have s : Hid (∀ W, Calls Tryz.prog 120 #[sL b c.2.length cp, nI (left - (n1 : Int))] W fun e k => e = .returned (nI (szI n2 (left - (n1 : Int)))) ∧ k = W) := fun W => by
   have := szInt64S_rep b c.2 cp (left - (n1 : Int)) W (by omega) (by omega) m2;rwa [g] at this
  clear i g H m1 m2;by_cases n : (n2 : Int) ≤ left - (n1 : Int)
  ·have m : Hid (szI (n1 + n2) left = left - (n1 : Int) - (n2 : Int)) := by unfold Hid; rw [szI_yes (by omega)]; omega
   have y : ¬ (left - (n1 : Int) - (n2 : Int) < 0) := by omega
   have q : Hid (szI n2 (left - (n1 : Int)) = left - (n1 : Int) - (n2 : Int)) := szI_yes n;go_enter Tryz.func122, Tryz.ntmps122;go_wp2_with fail
   refine f.mono ?_;rintro e v ⟨rfl, d⟩;obtain ⟨A, z⟩ := cell_two (row_keep d X);have p := below_step j d;clear d X j f;go_wp2_with (go_at_call 120; refine (s.out _).mono ?_; rintro e k ⟨rfl, rfl⟩; rw [q.out])
   go_ret
   exact ⟨ret_int m.out.symm, p⟩
  ·have m : Hid (szI (n1 + n2) left = -1) := by unfold Hid; exact szI_no (by omega)
   have q : Hid (szI n2 (left - (n1 : Int)) = -1) := szI_no n;go_enter Tryz.func122, Tryz.ntmps122;go_wp2_with fail
   refine f.mono ?_;rintro e v ⟨rfl, d⟩;obtain ⟨A, z⟩ := cell_two (row_keep d X);have p := below_step j d;clear d X j f;go_wp2_with (go_at_call 120; refine (s.out _).mono ?_; rintro e k ⟨rfl, rfl⟩; rw [q.out])
   go_ret
   exact ⟨ret_int m.out.symm, p⟩
 ·rw [szI_no r] at f;have m : Hid (szI (n1 + n2) left = -1) := by unfold Hid; exact szI_no (by omega)
  clear i g H m1 m2;go_enter Tryz.func122, Tryz.ntmps122;go_wp2_with fail
  refine f.mono ?_;rintro e v ⟨rfl, d⟩;obtain ⟨A, z⟩ := cell_two (row_keep d X);have p := below_step j d;clear d X j f;go_wp2;go_ret
  exact ⟨ret_int m.out.symm, p⟩
theorem cells_3 {w : World} {g : Nat} {x y z : Value} {t : TypeId} (h : w.heap[g]? = some (.cells #[x, y, z] t (0, 0))) :
    w.cell? ⟨g, 0, none⟩ = some x ∧ w.cell? ⟨g, 1, none⟩ = some y ∧ w.cell? ⟨g, 2, none⟩ = some z :=
 ⟨by rw [cell_of_row w g 0 _ t (0, 0) h]; rfl, by rw [cell_of_row w g 1 _ t (0, 0) h]; rfl, by rw [cell_of_row w g 2 _ t (0, 0) h]; rfl⟩
theorem cells_froz {w : World} {g : Nat} {cs : Array Value} {t : TypeId} (h : w.heap[g]? = some (.cells cs t (0, 0))) : w.frozen? ⟨g, 0, none⟩ = false ∧ w.frozen? ⟨g, 1, none⟩ = false ∧ w.frozen? ⟨g, 2, none⟩ = false :=
 ⟨frozen_of_row w g 0 _ t h, frozen_of_row w g 1 _ t h, frozen_of_row w g 2 _ t h⟩
theorem put3 {w : World} {g : Nat} {x y z a b c : Value} {t : TypeId} (h : w.heap[g]? = some (.cells #[x, y, z] t (0, 0))) :
    (((w.setCell ⟨g, 0, none⟩ a).setCell ⟨g, 1, none⟩ b).setCell ⟨g, 2, none⟩ c).heap[g]? = some (.cells #[a, b, c] t (0, 0)) := by
 have f := heap_setCell_same w g 0 _ t a h;have d := heap_setCell_same _ g 1 _ t b f;exact heap_setCell_same _ g 2 _ t c d
theorem put2 {w : World} {g : Nat} {x y a b : Value} {t : TypeId} (h : w.heap[g]? = some (.cells #[x, y] t (0, 0))) :
    ((w.setCell ⟨g, 0, none⟩ a).setCell ⟨g, 1, none⟩ b).heap[g]? = some (.cells #[a, b] t (0, 0)) := by
 have c := heap_setCell_same w g 0 _ t a h;exact heap_setCell_same _ g 1 _ t b c
theorem toWay_rep (l s : Int) (d : List Int) (a : Option Addr) (cap : Nat) (w : World) (i1 : In64 l) (i2 : In64 s) (h : SlRd intR w a d) (hm : intsM.bk d ≤ 1048576) :
    Calls Tryz.prog 142 #[.agg #[nI l, nI s, sL a d.length cap]] w fun e w' => ∃ p m, e = .returned (.agg #[nI l, nI s, sL p d.length m]) ∧ MadeR wayR w w' [nI l, nI s, sL p d.length m] (l, s, d) := by
 have H : Hid (∀ W, Bl w W → SlRd intR W a d) := fun W hb => slrd_keep h fun k hk => hb.block k hk;clear h;go_enter Tryz.func142, Tryz.ntmps142;go_wp2_with fail
 have r : Bl w (((w.alloc (.cells #[nI l, nI s, sL a d.length cap] 109)).alloc (.cells #[nI 0, nI 0, sL none 0 0] 74)).alloc (.cells #[nI l, nI s, sL none 0 0] 74)) := (((Below.refl _ w).alloc (Nat.le_refl _) _).alloc (by simp) _).alloc (by simp; omega) _;have f := heap_on (.cells #[nI l, nI s, sL none 0 0] 74) (heap_at (w.alloc (.cells #[nI l, nI s, sL a d.length cap] 109)) (.cells #[nI 0, nI 0, sL none 0 0] 74));have i := heap_at ((w.alloc (.cells #[nI l, nI s, sL a d.length cap] 109)).alloc (.cells #[nI 0, nI 0, sL none 0 0] 74)) (.cells #[nI l, nI s, sL none 0 0] 74);have F : (((w.alloc (.cells #[nI l, nI s, sL a d.length cap] 109)).alloc (.cells #[nI 0, nI 0, sL none 0 0] 74)).alloc (.cells #[nI l, nI s, sL none 0 0] 74)).heap.size = w.heap.size + 1 + 1 + 1 := by simp
 rw [alloc_len] at f;rw [alloc_len, alloc_len] at i;generalize ((w.alloc (.cells #[nI l, nI s, sL a d.length cap] 109)).alloc (.cells #[nI 0, nI 0, sL none 0 0] 74)).alloc (.cells #[nI l, nI s, sL none 0 0] 74) = W0 at r f i F ⊢;refine (toInt64S_rep _ d _ _ (H.out _ r) hm).mono ?_;rintro e w1 ⟨v, rfl, q⟩;obtain ⟨p, m, rfl⟩ := slown_val q.1;have n := q.2;have j := q.1;have B := below_step r n;replace f := row_keep n f;replace i := row_keep n i;obtain ⟨y0, y1, y2⟩ := cells_3 i;obtain ⟨f0, f1, f2⟩ := cells_froz i;obtain ⟨z0, z1, z2⟩ := cells_3 f;obtain ⟨g0, g1, g2⟩ := cells_froz f;have y : Hid _ := aI f i;have D : Hid _ := j;clear f i j q H;go_wp2;obtain ⟨f, i⟩ := y.out;have C := put3 (a := nI l) (b := nI s) (c := sL p d.length m) (heap_setC (g := w.heap.size + 1 + 1) (o := 2) (v := sL p d.length m) f (by omega));obtain ⟨z, A, E⟩ := cells_3 C;refine bodyPost_ret (v := .agg #[nI l, nI s, sL p d.length m]) (by simp [results, Tryz.results142, go_sem, z, A, E]) rfl ⟨p, m, rfl, own_way i1 i2 ?_, ?_⟩
 ·refine intsR.own_mono (own_setC (own_setC (own_setC (own_setC D.out (fun h => by have := h.1; omega)) (fun h => by have := h.1; omega)) (fun h => by have := h.1; omega)) (fun h => by have := h.1; omega)) ?_;exact rng_sub (by omega) (by simp)
 ·exact below_setC (below_setC (below_setC (below_setC B (by omega)) (by omega)) (by omega)) (by omega)
theorem Tryz.infoWay : (Tryz.prog.info? 74).map (fun i => (i.zero, i.size, i.bytes)) = some (some (.agg #[nI 0, nI 0, sL none 0 0]), 3, 40) := by kernel_rfl
theorem toWayS_rep (a : Option Addr) (xs : List (Int × Int × List Int)) (cap : Nat) (w : World) (h : SlRd wayR w a xs) (hm : waysM.bk xs ≤ 1048576) :
    Calls Tryz.prog 228 #[sL a xs.length cap] w fun e w' => ∃ v, e = .returned v ∧ MadeR waysR w w' [v] xs := by
 have s : waysM.bk xs = xs.length + sumbk wayM xs := rfl;have U : xs.length ≤ 1048576 := by omega
 have X : Hid (sumbk wayM xs ≤ 1048576) := by unfold Hid; omega
 have H0 : Hid (SlRd wayR w a xs) := h;clear s hm h;have z := run_make_wide (P := Tryz.prog) 127 74 (.agg #[nI 0, nI 0, sL none 0 0]) 3 40 Tryz.underlying127 Tryz.infoWay xs.length (by omega) (by omega);go_enter Tryz.func228, Tryz.ntmps228;go_wp2;go_loopw [4] (fun i wr => ∃ k : Nat, k ≤ xs.length ∧ i = nI k ∧ Fill 74 wayR w wr xs.length (xs.take k)) (fun i _ => xs.length - (intOf i).toNat)
 case atStart => exact ⟨0, Nat.zero_le _, rfl, by simpa using fillR_start (e := 74) (R := wayR) (w0 := w) (n := xs.length) (cs := madeCells #[nI 0, nI 0, sL none 0 0] (xs.length * 3)) (by unfold maxLen; omega) (by rw [size_madeCells]; rfl)⟩
 case round =>
  obtain ⟨k, hk, rfl, j⟩ := hrel;by_cases m : k < xs.length
  ·have G : (k : Int) < (xs.length : Int) := by omega
   obtain ⟨x, q⟩ : ∃ x, xs[k]? = some x := ⟨_, List.getElem?_eq_getElem m⟩;obtain ⟨b, f, cs, rfl, g, d⟩ := slrd_at (slrd_next H0.out (fill_below j)) q;obtain ⟨ad, Y, rfl, K, L, y, A, l⟩ := way_rd g;have N := d 0 _ rfl;have I := d 1 _ rfl;have M := d 2 _ rfl;rw [show f + (k * wayR.size + 0) = f + k * 3 from rfl] at N;rw [show f + (k * wayR.size + 1) = f + k * 3 + 1 from rfl] at I;rw [show f + (k * wayR.size + 2) = f + k * 3 + 2 from rfl] at M;have O : Hid (intsM.bk x.2.2 ≤ 1048576) := by unfold Hid; have := sumbk_ge wayM xs q; rw [bk_way] at this; have := X.out; omega
   have T : Hid (SlRd intR wr ad x.2.2) := l;have J : Hid (In64 x.1 ∧ In64 x.2.1) := ⟨K, L⟩;have F : Hid (∀ w1 c, MadeR wayR wr w1 c x → _) := fun w1 c hm => fillR_step (w1 := w1) (c := c) j (by simp; omega) m hm;have S : Hid (xs.take k ++ [x] = xs.take (k + 1)) := by unfold Hid; rw [List.take_add_one, q]; rfl
   clear q g d z j y A l K L;go_wp2_with fail
   refine (toWay_rep x.1 x.2.1 x.2.2 _ _ _ J.out.1 J.out.2 T.out O.out).mono ?_;rintro e w1 ⟨av, cv, rfl, H⟩;obtain ⟨o, p, B⟩ := F.out _ _ H;obtain ⟨v0, E⟩ := o 0 (by decide);obtain ⟨v1, C⟩ := o 1 (by decide);obtain ⟨v2, D⟩ := o 2 (by decide);have z0 := p (k * 3);have z1 := p (k * 3 + 1);have z2 := p (k * 3 + 2);rw [show k * wayR.size + 0 = k * 3 from rfl] at E;rw [show k * wayR.size + 1 = k * 3 + 1 from rfl] at C;rw [show k * wayR.size + 2 = k * 3 + 2 from rfl] at D;rw [S.out] at B;have Z : Hid _ := B;clear B H o p F N I M;go_wp2;go_roundw
   case rel => exact ⟨k + 1, by omega, by go_num, Z.out⟩
   case measure => simp [intOf]; omega
  ·have r : k = xs.length := by omega
   subst r;rw [List.take_length] at j;have V := fillR_end j rfl;clear j;go_wp2;go_ret
   exact ⟨_, rfl, V⟩
theorem cell_kp {w w' : World} {D b o : Nat} {u : Value} (hb : Below D w w') (h : w.cell? ⟨b, o, none⟩ = some u) (hl : b < D) : w'.cell? ⟨b, o, none⟩ = some u :=
 (World.cell?_of_block (w := w) (a := ⟨b, o, none⟩) (hb.block b hl)).trans h
theorem cell_l {w : World} {b o : Nat} {u : Value} (h : w.cell? ⟨b, o, none⟩ = some u) : b < w.heap.size := World.block_lt_of_cell? w _ h
theorem Tryz.infoWayS : (Tryz.prog.info? 127).map (fun i => (i.zero, i.size, i.bytes)) = some (some (sL none 0 0), 1, 24) := by kernel_rfl
theorem toWaySS_rep (a : Option Addr) (xs : List (List (Int × Int × List Int))) (cap : Nat) (w : World) (h : SlRd waysR w a xs) (hm : setsM.bk xs ≤ 1048576) :
    Calls Tryz.prog 187 #[sL a xs.length cap] w fun e w' => ∃ v, e = .returned v ∧ MadeR setsR w w' [v] xs := by
 have o : setsM.bk xs = xs.length + sumbk waysM xs := rfl;have I : xs.length ≤ 1048576 := by omega
 have L : Hid (sumbk waysM xs ≤ 1048576) := by unfold Hid; omega
 have O : Hid (SlRd waysR w a xs) := h;clear o hm h;have q := Go.run_make_row' (P := Tryz.prog) 93 127 (sL none 0 0) 24 Tryz.underlying93 Tryz.infoWayS rfl .i64 .i64 xs.length (by omega) (by omega);go_enter Tryz.func187, Tryz.ntmps187;go_wp2;go_loopw [4] (fun i wr => ∃ k : Nat, k ≤ xs.length ∧ i = nI k ∧ Fill 127 waysR w wr xs.length (xs.take k)) (fun i _ => xs.length - (intOf i).toNat)
 case atStart => exact ⟨0, Nat.zero_le _, rfl, by simpa using fillR_start (e := 127) (R := waysR) (w0 := w) (n := xs.length) (cs := madeCells #[sL none 0 0] xs.length) (by unfold maxLen; omega) (by simp [size_madeCells]; exact (Nat.mul_one _).symm)⟩
 case round =>
  obtain ⟨k, hk, rfl, f⟩ := hrel;by_cases g : k < xs.length
  ·have z : (k : Int) < (xs.length : Int) := by omega
   obtain ⟨x, l⟩ : ∃ x, xs[k]? = some x := ⟨_, List.getElem?_eq_getElem g⟩;obtain ⟨b, G, c, rfl, ⟨aj, cj, rfl, E, N, j⟩, d⟩ := slrd_at (slrd_next O.out (fill_below f)) l;have D := d 0 _ rfl;rw [show k * waysR.size + 0 = k from Nat.mul_one k] at D;have H : Hid _ := j;have B : Hid (waysM.bk x ≤ 1048576) := by unfold Hid; have := sumbk_ge waysM xs l; have := L.out; omega
   have C : Hid (∀ w1 v, MadeR waysR wr w1 [v] x → _) := fun w1 v hm => fillR_step (w1 := w1) (c := [v]) f (by simp; omega) g hm;have F : Hid (xs.take k ++ [x] = xs.take (k + 1)) := by unfold Hid; rw [List.take_add_one, l]; rfl
   clear l j d q f;go_wp2_with (go_at_call 228; refine (toWayS_rep _ x _ _ H.out B.out).mono ?_; rintro e w1 ⟨v, rfl, p⟩; obtain ⟨av, cv, rfl⟩ := slown_val p.1; obtain ⟨y, A, r⟩ := C.out _ _ p; obtain ⟨v0, s⟩ := y 0 (Nat.zero_lt_one); have J := A k; rw [show k * waysR.size + 0 = k from Nat.mul_one k] at s; rw [show k * waysR.size = k from Nat.mul_one k, F.out] at r; have M : Hid _ := r; clear r p y A)
   go_roundw
   case rel => exact ⟨k + 1, by omega, by go_num, M.out⟩
   case measure => simp [intOf]; omega
  ·have m : k = xs.length := by omega
   subst m;rw [List.take_length] at f;have K := fillR_end f rfl;clear f;go_wp2;go_ret
   exact ⟨_, rfl, K⟩
theorem own_cache {w : World} {S S1 S2 : Foot} {c : List (List (Int × Int × List Int)) × List Int} {u v : Value} (h1 : setsR.own w S1 [u] c.1) (h2 : intsR.own w S2 [v] c.2) (s1 : Sub S1 S) (s2 : Sub S2 S) (hd : Dis S1 S2) : cacheR.own w S [u, v] c :=
 ⟨[_], [_], S1, S2, rfl, h1, h2, s1, s2, hd⟩
theorem cells_froz2 {w : World} {g : Nat} {cs : Array Value} {t : TypeId} (h : w.heap[g]? = some (.cells cs t (0, 0))) : w.frozen? ⟨g, 0, none⟩ = false ∧ w.frozen? ⟨g, 1, none⟩ = false :=
 ⟨frozen_of_row w g 0 _ t h, frozen_of_row w g 1 _ t h⟩
theorem toCache_rep (a b : Option Addr) (c : List (List (Int × Int × List Int)) × List Int) (cap cp : Nat) (w : World) (h1 : SlRd waysR w a c.1) (h2 : SlRd intR w b c.2) (hm : cacheM.bk c ≤ 1048576) :
    Calls Tryz.prog 140 #[.agg #[sL a c.1.length cap, sL b c.2.length cp]] w fun e w' => ∃ i f q p, e = .returned (.agg #[sL i c.1.length f, sL q c.2.length p]) ∧ MadeR cacheR w w' [sL i c.1.length f, sL q c.2.length p] c := by
 have H : cacheM.bk c = setsM.bk c.1 + intsM.bk c.2 := rfl;have M : Hid (∀ W, Bl w W → SlRd waysR W a c.1) := fun W hb => slrd_keep h1 fun k hk => hb.block k hk;have L : Hid (∀ W, Bl w W → SlRd intR W b c.2) := fun W hb => slrd_keep h2 fun k hk => hb.block k hk;have y : Hid (setsM.bk c.1 ≤ 1048576) := by unfold Hid; omega
 have A : Hid (intsM.bk c.2 ≤ 1048576) := by unfold Hid; omega
 clear h1 h2 H hm;go_enter Tryz.func140, Tryz.ntmps140;go_wp2_with fail
 have F : Bl w (((w.alloc (.cells #[sL a c.1.length cap, sL b c.2.length cp] 107)).alloc (.cells #[sL none 0 0, sL none 0 0] 95)).alloc (.cells #[sL none 0 0, sL none 0 0] 95)) := (((Below.refl _ w).alloc (Nat.le_refl _) _).alloc (by simp) _).alloc (by simp; omega) _;have B := heap_on (.cells #[sL none 0 0, sL none 0 0] 95) (heap_on (.cells #[sL none 0 0, sL none 0 0] 95) (heap_at w (.cells #[sL a c.1.length cap, sL b c.2.length cp] 107)));have m := heap_on (.cells #[sL none 0 0, sL none 0 0] 95) (heap_at (w.alloc (.cells #[sL a c.1.length cap, sL b c.2.length cp] 107)) (.cells #[sL none 0 0, sL none 0 0] 95));have j := heap_at ((w.alloc (.cells #[sL a c.1.length cap, sL b c.2.length cp] 107)).alloc (.cells #[sL none 0 0, sL none 0 0] 95)) (.cells #[sL none 0 0, sL none 0 0] 95);have Z : (((w.alloc (.cells #[sL a c.1.length cap, sL b c.2.length cp] 107)).alloc (.cells #[sL none 0 0, sL none 0 0] 95)).alloc (.cells #[sL none 0 0, sL none 0 0] 95)).heap.size = w.heap.size + 1 + 1 + 1 := by simp
 rw [alloc_len] at m;rw [alloc_len, alloc_len] at j;generalize ((w.alloc (.cells #[sL a c.1.length cap, sL b c.2.length cp] 107)).alloc (.cells #[sL none 0 0, sL none 0 0] 95)).alloc (.cells #[sL none 0 0, sL none 0 0] 95) = W0 at F B m j Z ⊢;refine (toWaySS_rep _ c.1 _ _ (M.out _ F) y.out).mono ?_;rintro e n ⟨v, rfl, d⟩;obtain ⟨i, f, rfl⟩ := slown_val d.1;have T := d.2.size;have K := below_step F d.2;have z : Hid (setsR.own n (rng W0.heap.size n.heap.size) [sL i c.1.length f] c.1) := d.1;replace B := row_keep d.2 B;replace m := row_keep d.2 m;replace j := row_keep d.2 j;obtain ⟨Y, p1⟩ := cell_two B;obtain ⟨S, R⟩ := cell_two j;obtain ⟨O, N⟩ := cells_froz2 j;have C : Hid _ := aI m j;clear B m j d M y;go_wp2_with fail
 obtain ⟨m, j⟩ := C.out;have D := below_setC (g := w.heap.size + 1 + 1) (o := 0) (v := sL i c.1.length f) K (by omega);have r := heap_setCell_same n (w.heap.size + 1 + 1) 0 _ _ (sL i c.1.length f) j;have l := heap_setC (g := w.heap.size + 1 + 1) (o := 0) (v := sL i c.1.length f) m (by omega);have s := own_setC (g := w.heap.size + 1 + 1) (o := 0) (v := sL i c.1.length f) z.out (fun h => by have := h.1; omega);have I : (n.setCell ⟨w.heap.size + 1 + 1, 0, none⟩ (sL i c.1.length f)).heap.size = n.heap.size := by simp
 clear m j C z O N S R F K Y p1;generalize n.setCell ⟨w.heap.size + 1 + 1, 0, none⟩ (sL i c.1.length f) = w2 at D l r s I ⊢;refine (toInt64S_rep _ c.2 _ _ (L.out _ D) A.out).mono ?_;rintro e E ⟨v, rfl, d⟩;obtain ⟨q, p, rfl⟩ := slown_val d.1;have bA := d.2.size;have X := below_step D d.2;have J : Hid (setsR.own E (rng W0.heap.size n.heap.size) [sL i c.1.length f] c.1) := own_stay s d.2 (by omega);have G : Hid (intsR.own E (rng w2.heap.size E.heap.size) [sL q c.2.length p] c.2) := d.1;replace l := row_keep d.2 l;replace r := row_keep d.2 r;obtain ⟨S, R⟩ := cell_two r;obtain ⟨O, N⟩ := cells_froz2 r;obtain ⟨z0, z1⟩ := cell_two l;obtain ⟨g0, g1⟩ := cells_froz2 l;have C : Hid _ := aI l r;clear l r d L A s D;go_wp2;obtain ⟨l, r⟩ := C.out;have V1 := put2 (a := sL i c.1.length f) (b := sL q c.2.length p) (heap_setC (g := w.heap.size + 1 + 1) (o := 1) (v := sL q c.2.length p) l (by omega));obtain ⟨U, V⟩ := cell_two V1;refine bodyPost_ret (v := .agg #[sL i c.1.length f, sL q c.2.length p]) (by simp [results, Tryz.results140, go_sem, U, V]) rfl ⟨i, f, q, p, rfl, own_cache (S1 := rng W0.heap.size n.heap.size) (S2 := rng w2.heap.size E.heap.size) ?_ ?_ (rng_sub (by omega) (by simp; omega)) (rng_sub (by omega) (by simp)) (rng_dis (.inl (by omega))), ?_⟩
 ·exact own_setC (own_setC (own_setC J.out (fun h => by have := h.1; omega)) (fun h => by have := h.1; omega)) (fun h => by have := h.1; omega)
 ·exact own_setC (own_setC (own_setC G.out (fun h => by have := h.1; omega)) (fun h => by have := h.1; omega)) (fun h => by have := h.1; omega)
 ·exact below_setC (below_setC (below_setC X (by omega)) (by omega)) (by omega)
theorem eqWay_rep (l s : Int) (d : List Int) (a1 a2 : Option Addr) (c1 c2 : Nat) (w : World) (h1 : SlRd intR w a1 d) (h2 : SlRd intR w a2 d) (hm : intsM.bk d ≤ 1152921504606846976) :
    Calls Tryz.prog 166 #[.agg #[nI l, nI s, sL a1 d.length c1], .agg #[nI l, nI s, sL a2 d.length c2]] w fun e b => e = .returned (.bool true) ∧ Bl w b := by
 have a : Hid (∀ o o', Bl w ((w.alloc o).alloc o')) := fun o o' => below_step (box_below w o) (box_below _ o');have c : Hid (∀ W, Bl w W → SlRd intR W a1 d) := fun W hb => slrd_keep h1 fun k hk => hb.block k hk;have f : Hid (∀ W, Bl w W → SlRd intR W a2 d) := fun W hb => slrd_keep h2 fun k hk => hb.block k hk;clear h1 h2;go_enter Tryz.func166, Tryz.ntmps166;go_wp2_with fail
 refine (eqInt64S_rep a1 a2 d c1 c2 _ (c.out _ (a.out _ _)) (f.out _ (a.out _ _)) hm).mono ?_;rintro e b ⟨rfl, n, rfl⟩;go_wp2;go_ret
 exact ⟨rfl, be_drewN (a.out _ _) n⟩
theorem eqWayS_rep (a1 a2 : Option Addr) (xs : List (Int × Int × List Int)) (c1 c2 : Nat) (w : World) (h1 : SlRd wayR w a1 xs) (h2 : SlRd wayR w a2 xs) (hm : (slM wayM).bk xs ≤ 1152921504606846976) :
    Calls Tryz.prog 252 #[sL a1 xs.length c1, sL a2 xs.length c2] w fun e w' => e = .returned (.bool true) ∧ Bl w w' := by
 have M : (slM wayM).bk xs = xs.length + sumbk wayM xs := rfl;have Z : xs.length ≤ 1152921504606846976 := by omega
 have HB : Hid (sumbk wayM xs ≤ 1152921504606846976) := by unfold Hid; omega
 have H1 : Hid (∀ W, Bl w W → SlRd wayR W a1 xs) := fun W hb => slrd_keep h1 fun k J => hb.block k J;have X : Hid (∀ W, Bl w W → SlRd wayR W a2 xs) := fun W hb => slrd_keep h2 fun k J => hb.block k J;clear M hm h1 h2;go_enter Tryz.func252, Tryz.ntmps252;go_wp2;go_loopw [5] (fun i wr => ∃ k : Nat, k ≤ xs.length ∧ i = nI k ∧ Bl w wr) (fun i _ => xs.length - (intOf i).toNat)
 case atStart => exact ⟨0, Nat.zero_le _, rfl, Below.refl _ _⟩
 case round =>
  obtain ⟨k, J, rfl, s⟩ := hrel;by_cases O : k < xs.length
  ·have T : (k : Int) < (xs.length : Int) := by omega
   obtain ⟨x, K⟩ : ∃ x, xs[k]? = some x := ⟨_, List.getElem?_eq_getElem O⟩;have V : Hid ((wayM).bk x ≤ 1152921504606846976) := by unfold Hid; have := sumbk_ge wayM xs K; have := HB.out; omega
   obtain ⟨N, b, Y, rfl, q, c⟩ := slrd_at (H1.out _ s) K;obtain ⟨v, B, rfl, -, -, -, -, A⟩ := way_rd q;have j := c 0 _ rfl;have f := c 1 _ rfl;have l := c 2 _ rfl;rw [show b + (k * wayR.size + 0) = b + k * 3 from rfl] at j;rw [show b + (k * wayR.size + 1) = b + k * 3 + 1 from rfl] at f;rw [show b + (k * wayR.size + 2) = b + k * 3 + 2 from rfl] at l;have L : Hid (∀ n : Cls (fun wx => Bl wr wx), SlRd intR n.w v x.2.2) := fun n => slrd_next A n.h;clear c q A;obtain ⟨r, a, U, rfl, p, d⟩ := slrd_at (X.out _ s) K;obtain ⟨G, z, rfl, -, -, -, -, D⟩ := way_rd p;have g := d 0 _ rfl;have m := d 1 _ rfl;have o := d 2 _ rfl;rw [show a + (k * wayR.size + 0) = a + k * 3 from rfl] at g;rw [show a + (k * wayR.size + 1) = a + k * 3 + 1 from rfl] at m;rw [show a + (k * wayR.size + 2) = a + k * 3 + 2 from rfl] at o;have S : Hid (∀ n : Cls (fun wx => Bl wr wx), SlRd intR n.w G x.2.2) := fun n => slrd_next D n.h;clear d p D;have C : ∀ n : Cls (fun wx => Bl wr wx), n.w.cell? ⟨N, b + k * 3, none⟩ = some (nI x.1) := fun n => cell_kp n.h j (cell_l j);have F : ∀ n : Cls (fun wx => Bl wr wx), n.w.cell? ⟨N, b + k * 3 + 1, none⟩ = some (nI x.2.1) := fun n => cell_kp n.h f (cell_l f);have I : ∀ n : Cls (fun wx => Bl wr wx), n.w.cell? ⟨N, b + k * 3 + 2, none⟩ = some (sL v x.2.2.length B) := fun n => cell_kp n.h l (cell_l l);have y : ∀ n : Cls (fun wx => Bl wr wx), n.w.cell? ⟨r, a + k * 3, none⟩ = some (nI x.1) := fun n => cell_kp n.h g (cell_l g);have H : ∀ n : Cls (fun wx => Bl wr wx), n.w.cell? ⟨r, a + k * 3 + 1, none⟩ = some (nI x.2.1) := fun n => cell_kp n.h m (cell_l m);have E : ∀ n : Cls (fun wx => Bl wr wx), n.w.cell? ⟨r, a + k * 3 + 2, none⟩ = some (sL G x.2.2.length z) := fun n => cell_kp n.h o (cell_l o);clear K j f l g m o;go_wp2_with fail
   refine region_class (fun wx => Bl wr wx) (by kernel_rfl) (by kernel_rfl) ((Below.refl _ wr).drew) ?_;intro R;repeat (quiet_step ((go_at_call 166; exact calls_class (eqWay_rep x.1 x.2.1 x.2.2 _ _ _ _ _ (L.out _) (S.out _) (by have := V.out; rw [bk_way] at this; exact this)) (fun w' hc bb => below_step hc bb))))
   refine wpQuiet_nil ?_;intro wx r;replace s := below_step s r;clear r R C F I y H E;go_wp2;go_roundw
   case rel => exact ⟨k + 1, by omega, by go_num, s⟩
   case measure => simp [intOf]; omega
  ·go_wp2;go_ret
   exact ⟨rfl, s⟩
theorem eqWaySS_rep (a1 a2 : Option Addr) (xs : List (List (Int × Int × List Int))) (c1 c2 : Nat) (w : World) (h1 : SlRd waysR w a1 xs) (h2 : SlRd waysR w a2 xs) (hm : (slM waysM).bk xs ≤ 1152921504606846976) :
    Calls Tryz.prog 220 #[sL a1 xs.length c1, sL a2 xs.length c2] w fun e w' => e = .returned (.bool true) ∧ Bl w w' := by
 have A : (slM waysM).bk xs = xs.length + sumbk waysM xs := rfl;have M : xs.length ≤ 1152921504606846976 := by omega
 have O : Hid (sumbk waysM xs ≤ 1152921504606846976) := by unfold Hid; omega
 have N : Hid (∀ W, Bl w W → SlRd waysR W a1 xs) := fun W hb => slrd_keep h1 fun k s => hb.block k s;have J : Hid (∀ W, Bl w W → SlRd waysR W a2 xs) := fun W hb => slrd_keep h2 fun k s => hb.block k s;clear A hm h1 h2;go_enter Tryz.func220, Tryz.ntmps220;go_wp2;go_loopw [5] (fun i wr => ∃ k : Nat, k ≤ xs.length ∧ i = nI k ∧ Bl w wr) (fun i _ => xs.length - (intOf i).toNat)
 case atStart => exact ⟨0, Nat.zero_le _, rfl, Below.refl _ _⟩
 case round =>
  obtain ⟨k, s, rfl, f⟩ := hrel;by_cases C : k < xs.length
  ·have G : (k : Int) < (xs.length : Int) := by omega
   obtain ⟨x, y⟩ : ∃ x, xs[k]? = some x := ⟨_, List.getElem?_eq_getElem C⟩;have I : Hid ((waysM).bk x ≤ 1152921504606846976) := by unfold Hid; have := sumbk_ge waysM xs y; have := O.out; omega
   obtain ⟨L, r, K, rfl, ⟨l, F, rfl, -, -, j⟩, a⟩ := slrd_at (N.out _ f) y;have d := a 0 _ rfl;rw [show k * waysR.size + 0 = k from Nat.mul_one k] at d;have z : Hid (∀ n : Cls (fun wx => Bl wr wx), SlRd wayR n.w l x) := fun n => slrd_next j n.h;clear a j;obtain ⟨v, q, H, rfl, ⟨p, B, rfl, -, -, o⟩, b⟩ := slrd_at (J.out _ f) y;have c := b 0 _ rfl;rw [show k * waysR.size + 0 = k from Nat.mul_one k] at c;have E : Hid (∀ n : Cls (fun wx => Bl wr wx), SlRd wayR n.w p x) := fun n => slrd_next o n.h;clear b o;have m : ∀ n : Cls (fun wx => Bl wr wx), n.w.cell? ⟨L, r + k, none⟩ = some (sL l x.length F) := fun n => cell_kp n.h d (cell_l d);have g : ∀ n : Cls (fun wx => Bl wr wx), n.w.cell? ⟨v, q + k, none⟩ = some (sL p x.length B) := fun n => cell_kp n.h c (cell_l c);clear y d c;go_wp2_with fail
   refine region_class (fun wx => Bl wr wx) (by kernel_rfl) (by kernel_rfl) ((Below.refl _ wr).drew) ?_;intro D;repeat (quiet_step ((go_at_call 252; exact calls_class (eqWayS_rep _ _ x _ _ _ (z.out _) (E.out _) I.out) (fun w' hc bb => below_step hc bb))))
   refine wpQuiet_nil ?_;intro wx v;replace f := below_step f v;clear v D m g;go_wp2;go_roundw
   case rel => exact ⟨k + 1, by omega, by go_num, f⟩
   case measure => simp [intOf]; omega
  ·go_wp2;go_ret
   exact ⟨rfl, f⟩
theorem eqCache_rep (c : List (List (Int × Int × List Int)) × List Int) (a1 b1 a2 b2 : Option Addr) (c1 d1 c2 d2 : Nat) (w : World) (h1 : SlRd waysR w a1 c.1) (k1 : SlRd intR w b1 c.2) (h2 : SlRd waysR w a2 c.1) (k2 : SlRd intR w b2 c.2) (hm : cacheM.bk c ≤ 1152921504606846976) :
    Calls Tryz.prog 164 #[.agg #[sL a1 c.1.length c1, sL b1 c.2.length d1], .agg #[sL a2 c.1.length c2, sL b2 c.2.length d2]] w fun e w' => e = .returned (.bool true) ∧ Bl w w' := by
 have i : cacheM.bk c = setsM.bk c.1 + intsM.bk c.2 := rfl;have g : Hid (setsM.bk c.1 ≤ 1152921504606846976) := by unfold Hid; omega
 have j : Hid (intsM.bk c.2 ≤ 1152921504606846976) := by unfold Hid; omega
 have d : Hid (∀ W, Bl w W → SlRd waysR W a1 c.1 ∧ SlRd waysR W a2 c.1 ∧ SlRd intR W b1 c.2 ∧ SlRd intR W b2 c.2) := fun W hb => ⟨slrd_keep h1 fun k hk => hb.block k hk, slrd_keep h2 fun k hk => hb.block k hk, slrd_keep k1 fun k hk => hb.block k hk, slrd_keep k2 fun k hk => hb.block k hk⟩;clear h1 h2 k1 k2 i hm;have l := heap_on (.cells #[sL a2 c.1.length c2, sL b2 c.2.length d2] 95) (heap_at w (.cells #[sL a1 c.1.length c1, sL b1 c.2.length d1] 95));have f := heap_at (w.alloc (.cells #[sL a1 c.1.length c1, sL b1 c.2.length d1] 95)) (.cells #[sL a2 c.1.length c2, sL b2 c.2.length d2] 95);have b := below_step (box_below w (.cells #[sL a1 c.1.length c1, sL b1 c.2.length d1] 95)) (box_below _ (.cells #[sL a2 c.1.length c2, sL b2 c.2.length d2] 95));rw [alloc_len] at f;go_enter Tryz.func164, Tryz.ntmps164;go_wp2_with fail
 generalize (w.alloc (.cells #[sL a1 c.1.length c1, sL b1 c.2.length d1] 95)).alloc (.cells #[sL a2 c.1.length c2, sL b2 c.2.length d2] 95) = W0 at l f b ⊢;refine (eqWaySS_rep a1 a2 c.1 c1 c2 _ (d.out _ b).1 (d.out _ b).2.1 g.out).mono ?_;rintro e w1 ⟨rfl, a⟩;replace b := below_step b a;obtain ⟨r, m⟩ := cell_two (row_keep a l);obtain ⟨o, q⟩ := cell_two (row_keep a f);clear a l f;go_wp2_with fail
 refine (eqInt64S_rep b1 b2 c.2 d1 d2 _ (d.out _ b).2.2.1 (d.out _ b).2.2.2 j.out).mono ?_;rintro e w2 ⟨rfl, n, rfl⟩;have p := be_drewN b n;clear r m o q;go_wp2;go_ret
 exact ⟨rfl, p⟩
end Go.Proofs.YtdamokokcdcedaaGreatDoor
