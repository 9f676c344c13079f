import Derived.Test.YtdamokokcdcedaaGreatDoorG00Box
import Derived.Test.YtdamokokcdcedaaGreatDoorG08
namespace Go.Proofs.YtdamokokcdcedaaGreatDoor
set_option maxHeartbeats 1000000
open Go.ChangeShapes Go.WideShapes Go.ChangeAt Go.RowKit
set_option linter.unusedVariables false
theorem bk_way (u : Int × Int × List Int) : wayM.bk u = intsM.bk u.2.2 := by
 show 0 + (0 + intsM.bk u.2.2) = _
 omega
theorem szWayS_rep (a : Option Addr) (xs : List (Int × Int × List Int)) (cap : Nat) (left : Int) (w : World) (h : SlRd wayR w a xs) (h0 : 0 ≤ left) (h1 : left ≤ 1048576) (hm : xs.length ≤ maxLen) :
    Calls Tryz.prog 227 #[sL a xs.length cap, nI left] w fun e r => e = .returned (nI (szI ((slM wayM).bk xs) left)) ∧ Bl w r := by
 have S : xs.length ≤ 9223372036854775807 := hm;have j : (slM wayM).bk xs = xs.length + sumbk wayM xs := rfl;clear hm;by_cases hl : (xs.length : Int) ≤ left
 ·have A : ¬ (left - (xs.length : Int) < 0) := by omega
  have J : Hid _ := j;have U : Hid (SlRd wayR w a xs) := h;clear j h;go_enter Tryz.func227, Tryz.ntmps227;go_wp2;go_loopw [1, 5] (fun q i wr => ∃ k : Nat, k ≤ xs.length ∧ i = nI k ∧ (sumbk wayM (xs.take k) : Int) + xs.length ≤ left ∧ q = nI (left - (xs.length : Int) - sumbk wayM (xs.take k)) ∧ Bl w wr) (fun _ i _ => xs.length - (intOf i).toNat)
  case atStart => exact ⟨0, Nat.zero_le _, rfl, by simp [sumbk]; omega, by simp [sumbk], Below.refl _ _⟩
  case round =>
   obtain ⟨k, E, rfl, F, rfl, g⟩ := hrel;by_cases B : k < xs.length
   ·have G : (k : Int) < (xs.length : Int) := by omega
    obtain ⟨x, p⟩ : ∃ x, xs[k]? = some x := ⟨_, List.getElem?_eq_getElem B⟩;have I := slrd_keep U.out fun k E => g.block k E;obtain ⟨b, d, cs, rfl, f, c⟩ := slrd_at I p;obtain ⟨O, V, rfl, -, -, l, n, o⟩ := way_rd f;have K := c 0 _ rfl;have L := c 1 _ rfl;have N := c 2 _ rfl;rw [show d + (k * wayR.size + 0) = d + k * 3 from rfl] at K;rw [show d + (k * wayR.size + 1) = d + k * 3 + 1 from rfl] at L;rw [show d + (k * wayR.size + 2) = d + k * 3 + 2 from rfl] at N;have H : Hid (x.2.2.length ≤ maxLen) := Nat.le_trans l n;have HR : Hid (SlRd intR wr O x.2.2) := o;clear c f l n o;have s : Hid _ := sumbk_step (M := wayM) p;have y := sumbk_get (M := wayM) p;clear p I;generalize sumbk wayM (xs.take k) = T at F s y ⊢;by_cases D : (((wayM).bk x : Nat) : Int) ≤ left - (xs.length : Int) - (T : Int)
    ·have R : ¬ (left - (xs.length : Int) - (T : Int) - (((wayM).bk x : Nat) : Int) < 0) := by omega
     have v : Hid (szI ((wayM).bk x) (left - (xs.length : Int) - (T : Int)) = _) := szI_yes D;go_wp2_with (go_at_call 124; refine (szWay_rep x.1 x.2.1 x.2.2 _ _ _ _ (by omega) (by omega) H.out).mono ?_; rintro e r ⟨rfl, m⟩; replace g := below_step g m; clear m; rw [v.out])
     go_roundw
     case rel => exact ⟨k + 1, by omega, by go_num, by have := s.out; omega, by rw [s.out]; go_num, g⟩
     case measure => simp [intOf]; omega
    ·have v : Hid (szI ((wayM).bk x) (left - (xs.length : Int) - (T : Int)) = _) := szI_no D;have z : Hid (szI ((slM wayM).bk xs) left = -1) := by unfold Hid; rw [J.out]; exact szI_no (by omega)
     go_wp2_with (go_at_call 124; refine (szWay_rep x.1 x.2.1 x.2.2 _ _ _ _ (by omega) (by omega) H.out).mono ?_; rintro e r ⟨rfl, m⟩; replace g := below_step g m; clear m; rw [v.out])
     go_ret
     exact ⟨ret_int z.out.symm, g⟩
   ·have C : k = xs.length := by omega
    subst C;rw [List.take_length] at F ⊢;have z : Hid (szI ((slM wayM).bk xs) left = left - (xs.length : Int) - (sumbk wayM xs : Int)) := by unfold Hid; rw [J.out, szI_yes (by omega)]; omega
    go_wp2;go_ret
    exact ⟨ret_int z.out.symm, g⟩
 ·have A : left - (xs.length : Int) < 0 := by omega
  rw [szI_no (by omega)];clear j h;go_enter Tryz.func227, Tryz.ntmps227;go_wp2;go_ret
  exact ⟨rfl, Below.refl _ _⟩
theorem szWaySS_rep (a : Option Addr) (xs : List (List (Int × Int × List Int))) (cap : Nat) (left : Int) (w : World) (h : SlRd waysR w a xs) (h0 : 0 ≤ left) (h1 : left ≤ 1048576) (hm : xs.length ≤ maxLen) :
    Calls Tryz.prog 184 #[sL a xs.length cap, nI left] w fun e o => e = .returned (nI (szI ((slM waysM).bk xs) left)) ∧ Bl w o := by
 have N : xs.length ≤ 9223372036854775807 := hm;have f : (slM waysM).bk xs = xs.length + sumbk waysM xs := rfl;clear hm;by_cases hl : (xs.length : Int) ≤ left
 ·have y : ¬ (left - (xs.length : Int) < 0) := by omega
  have I : Hid _ := f;have O : Hid (SlRd waysR w a xs) := h;clear f h;go_enter Tryz.func184, Tryz.ntmps184;go_wp2;go_loopw [1, 5] (fun q i wr => ∃ k : Nat, k ≤ xs.length ∧ i = nI k ∧ (sumbk waysM (xs.take k) : Int) + xs.length ≤ left ∧ q = nI (left - (xs.length : Int) - sumbk waysM (xs.take k)) ∧ Bl w wr) (fun _ i _ => xs.length - (intOf i).toNat)
  case atStart => exact ⟨0, Nat.zero_le _, rfl, by simp [sumbk]; omega, by simp [sumbk], Below.refl _ _⟩
  case round =>
   obtain ⟨k, D, rfl, E, rfl, d⟩ := hrel;by_cases z : k < xs.length
   ·have F : (k : Int) < (xs.length : Int) := by omega
    obtain ⟨x, n⟩ : ∃ x, xs[k]? = some x := ⟨_, List.getElem?_eq_getElem z⟩;have H := slrd_keep O.out fun k D => d.block k D;obtain ⟨b, R, cs, rfl, ⟨K, cj, rfl, g, l, m⟩, c⟩ := slrd_at H n;have J := c 0 _ rfl;rw [show k * waysR.size + 0 = k from Nat.mul_one k] at J;have G : Hid (x.length ≤ maxLen) := Nat.le_trans g l;have B : Hid (SlRd wayR wr K x) := m;clear c g l m;have p : Hid _ := sumbk_step (M := waysM) n;have s := sumbk_get (M := waysM) n;clear n H;generalize sumbk waysM (xs.take k) = T at E p s ⊢;by_cases C : (((waysM).bk x : Nat) : Int) ≤ left - (xs.length : Int) - (T : Int)
    ·have L : ¬ (left - (xs.length : Int) - (T : Int) - (((waysM).bk x : Nat) : Int) < 0) := by omega
     have r : Hid (szI ((waysM).bk x) (left - (xs.length : Int) - (T : Int)) = _) := szI_yes C;go_wp2_with (go_at_call 227; refine (szWayS_rep _ x _ _ _ B.out (by omega) (by omega) G.out).mono ?_; rintro e o ⟨rfl, j⟩; replace d := below_step d j; clear j; rw [r.out])
     go_roundw
     case rel => exact ⟨k + 1, by omega, by go_num, by have := p.out; omega, by rw [p.out]; go_num, d⟩
     case measure => simp [intOf]; omega
    ·have r : Hid (szI ((waysM).bk x) (left - (xs.length : Int) - (T : Int)) = _) := szI_no C;have v : Hid (szI ((slM waysM).bk xs) left = -1) := by unfold Hid; rw [I.out]; exact szI_no (by omega)
     go_wp2_with (go_at_call 227; refine (szWayS_rep _ x _ _ _ B.out (by omega) (by omega) G.out).mono ?_; rintro e o ⟨rfl, j⟩; replace d := below_step d j; clear j; rw [r.out])
     go_ret
     exact ⟨ret_int v.out.symm, d⟩
   ·have A : k = xs.length := by omega
    subst A;rw [List.take_length] at E ⊢;have v : Hid (szI ((slM waysM).bk xs) left = left - (xs.length : Int) - (sumbk waysM xs : Int)) := by unfold Hid; rw [I.out, szI_yes (by omega)]; omega
    go_wp2;go_ret
    exact ⟨ret_int v.out.symm, d⟩
 ·have y : left - (xs.length : Int) < 0 := by omega
  rw [szI_no (by omega)];clear f h;go_enter Tryz.func184, Tryz.ntmps184;go_wp2;go_ret
  exact ⟨rfl, Below.refl _ _⟩
theorem szCache_rep (a b : Option Addr) (c : List (List (Int × Int × List Int)) × List Int) (cap cp : Nat) (left : Int) (w : World) (h : SlRd waysR w a c.1) (h0 : 0 ≤ left) (h1 : left ≤ 1048576) (m1 : c.1.length ≤ maxLen) (m2 : c.2.length ≤ maxLen) :
    Calls Tryz.prog 122 #[.agg #[sL a c.1.length cap, sL b c.2.length cp], nI left] w fun e n => e = .returned (nI (szI (cacheM.bk c) left)) ∧ Bl w n := by
 have l : cacheM.bk c = setsM.bk c.1 + intsM.bk c.2 := rfl;rw [l];have X := heap_alloc_new w (.cells #[sL a c.1.length cap, sL b c.2.length cp] 107);have j := box_below w (.cells #[sL a c.1.length cap, sL b c.2.length cp] 107);have H : Hid (∀ o, SlRd waysR (w.alloc o) a c.1) := fun o => slrd_next h (box_below w o);clear h l;generalize g : setsM.bk c.1 = n1;generalize i : intsM.bk c.2 = n2;have f := szWaySS_rep a c.1 cap left (w.alloc (.cells #[sL a c.1.length cap, sL b c.2.length cp] 107)) (H.out _) h0 h1 m1;rw [g] at f;by_cases s : (n1 : Int) ≤ left
 ·rw [szI_yes s] at f;have B : ¬ (left - (n1 : Int) < 0) := by omega
  have y : Hid (∀ W, Calls Tryz.prog 120 #[sL b c.2.length cp, nI (left - (n1 : Int))] W fun e n => e = .returned (nI (szI n2 (left - (n1 : Int)))) ∧ n = W) := fun W => by
   have := szInt64S_rep b c.2 cp (left - (n1 : Int)) W (by omega) (by omega) m2;rwa [i] at this
  clear g i H m1 m2;by_cases m : (n2 : Int) ≤ left - (n1 : Int)
  ·have k : Hid (szI (n1 + n2) left = left - (n1 : Int) - (n2 : Int)) := by unfold Hid; rw [szI_yes (by omega)]; omega
   have A : ¬ (left - (n1 : Int) - (n2 : Int) < 0) := by omega
   have q : Hid (szI n2 (left - (n1 : Int)) = left - (n1 : Int) - (n2 : Int)) := szI_yes m;go_enter Tryz.func122, Tryz.ntmps122;go_wp2_with fail
   refine f.mono ?_;rintro e r ⟨rfl, d⟩;obtain ⟨z, v⟩ := cell_two (row_keep d X);have p := below_step j d;clear d X j f;go_wp2_with (go_at_call 120; refine (y.out _).mono ?_; rintro e n ⟨rfl, rfl⟩; rw [q.out])
   go_ret
   exact ⟨ret_int k.out.symm, p⟩
  ·have k : Hid (szI (n1 + n2) left = -1) := by unfold Hid; exact szI_no (by omega)
   have q : Hid (szI n2 (left - (n1 : Int)) = -1) := szI_no m;go_enter Tryz.func122, Tryz.ntmps122;go_wp2_with fail
   refine f.mono ?_;rintro e r ⟨rfl, d⟩;obtain ⟨z, v⟩ := cell_two (row_keep d X);have p := below_step j d;clear d X j f;go_wp2_with (go_at_call 120; refine (y.out _).mono ?_; rintro e n ⟨rfl, rfl⟩; rw [q.out])
   go_ret
   exact ⟨ret_int k.out.symm, p⟩
 ·rw [szI_no s] at f;have k : Hid (szI (n1 + n2) left = -1) := by unfold Hid; exact szI_no (by omega)
  clear g i H m1 m2;go_enter Tryz.func122, Tryz.ntmps122;go_wp2_with fail
  refine f.mono ?_;rintro e r ⟨rfl, d⟩;obtain ⟨z, v⟩ := cell_two (row_keep d X);have p := below_step j d;clear d X j f;go_wp2;go_ret
  exact ⟨ret_int k.out.symm, p⟩
theorem cells_3 {w : World} {g : Nat} {x y z : Value} {t : TypeId} (h : w.heap[g]? = some (.cells #[x, y, z] t (0, 0))) :
    w.cell? ⟨g, 0, none⟩ = some x ∧ w.cell? ⟨g, 1, none⟩ = some y ∧ w.cell? ⟨g, 2, none⟩ = some z :=
 ⟨by rw [cell_of_row w g 0 _ t (0, 0) h]; rfl, by rw [cell_of_row w g 1 _ t (0, 0) h]; rfl, by rw [cell_of_row w g 2 _ t (0, 0) h]; rfl⟩
theorem cells_froz {w : World} {g : Nat} {cs : Array Value} {t : TypeId} (h : w.heap[g]? = some (.cells cs t (0, 0))) : w.frozen? ⟨g, 0, none⟩ = false ∧ w.frozen? ⟨g, 1, none⟩ = false ∧ w.frozen? ⟨g, 2, none⟩ = false :=
 ⟨frozen_of_row w g 0 _ t h, frozen_of_row w g 1 _ t h, frozen_of_row w g 2 _ t h⟩
theorem put3 {w : World} {g : Nat} {x y z a b c : Value} {t : TypeId} (h : w.heap[g]? = some (.cells #[x, y, z] t (0, 0))) :
    (((w.setCell ⟨g, 0, none⟩ a).setCell ⟨g, 1, none⟩ b).setCell ⟨g, 2, none⟩ c).heap[g]? = some (.cells #[a, b, c] t (0, 0)) := by
 have f := heap_setCell_same w g 0 _ t a h;have d := heap_setCell_same _ g 1 _ t b f;exact heap_setCell_same _ g 2 _ t c d
theorem put2 {w : World} {g : Nat} {x y a b : Value} {t : TypeId} (h : w.heap[g]? = some (.cells #[x, y] t (0, 0))) :
    ((w.setCell ⟨g, 0, none⟩ a).setCell ⟨g, 1, none⟩ b).heap[g]? = some (.cells #[a, b] t (0, 0)) := by
 have c := heap_setCell_same w g 0 _ t a h;exact heap_setCell_same _ g 1 _ t b c
theorem toWay_rep (l s : Int) (d : List Int) (a : Option Addr) (cap : Nat) (w : World) (i1 : In64 l) (i2 : In64 s) (h : SlRd intR w a d) (hm : intsM.bk d ≤ 1048576) :
    Calls Tryz.prog 142 #[.agg #[nI l, nI s, sL a d.length cap]] w fun e w' => ∃ m p, e = .returned (.agg #[nI l, nI s, sL m d.length p]) ∧ MadeR wayR w w' [nI l, nI s, sL m d.length p] (l, s, d) := by
 have H : Hid (∀ W, Bl w W → SlRd intR W a d) := fun W hb => slrd_keep h fun k hk => hb.block k hk;clear h;go_enter Tryz.func142, Tryz.ntmps142;go_wp2_with fail
 have r : Bl w (((w.alloc (.cells #[nI l, nI s, sL a d.length cap] 109)).alloc (.cells #[nI 0, nI 0, sL none 0 0] 74)).alloc (.cells #[nI l, nI s, sL none 0 0] 74)) := (((Below.refl _ w).alloc (Nat.le_refl _) _).alloc (by simp) _).alloc (by simp; omega) _;have f := heap_on (.cells #[nI l, nI s, sL none 0 0] 74) (heap_at (w.alloc (.cells #[nI l, nI s, sL a d.length cap] 109)) (.cells #[nI 0, nI 0, sL none 0 0] 74));have i := heap_at ((w.alloc (.cells #[nI l, nI s, sL a d.length cap] 109)).alloc (.cells #[nI 0, nI 0, sL none 0 0] 74)) (.cells #[nI l, nI s, sL none 0 0] 74);have E : (((w.alloc (.cells #[nI l, nI s, sL a d.length cap] 109)).alloc (.cells #[nI 0, nI 0, sL none 0 0] 74)).alloc (.cells #[nI l, nI s, sL none 0 0] 74)).heap.size = w.heap.size + 1 + 1 + 1 := by simp
 rw [alloc_len] at f;rw [alloc_len, alloc_len] at i;generalize ((w.alloc (.cells #[nI l, nI s, sL a d.length cap] 109)).alloc (.cells #[nI 0, nI 0, sL none 0 0] 74)).alloc (.cells #[nI l, nI s, sL none 0 0] 74) = W0 at r f i E ⊢;refine (toInt64S_rep _ d _ _ (H.out _ r) hm).mono ?_;rintro e w1 ⟨v, rfl, q⟩;obtain ⟨m, p, rfl⟩ := slown_val q.1;have n := q.2;have j := q.1;have F := below_step r n;replace f := row_keep n f;replace i := row_keep n i;obtain ⟨y0, y1, y2⟩ := cells_3 i;obtain ⟨f0, f1, f2⟩ := cells_froz i;obtain ⟨z0, z1, z2⟩ := cells_3 f;obtain ⟨g0, g1, g2⟩ := cells_froz f;have D : Hid _ := aI f i;have B : Hid _ := j;clear f i j q H;go_wp2;obtain ⟨f, i⟩ := D.out;have A := put3 (a := nI l) (b := nI s) (c := sL m d.length p) (heap_setC (g := w.heap.size + 1 + 1) (o := 2) (v := sL m d.length p) f (by omega));obtain ⟨y, z, C⟩ := cells_3 A;refine bodyPost_ret (v := .agg #[nI l, nI s, sL m d.length p]) (by simp [results, Tryz.results142, go_sem, y, z, C]) rfl ⟨m, p, rfl, own_way i1 i2 ?_, ?_⟩
 ·refine intsR.own_mono (own_setC (own_setC (own_setC (own_setC B.out (fun h => by have := h.1; omega)) (fun h => by have := h.1; omega)) (fun h => by have := h.1; omega)) (fun h => by have := h.1; omega)) ?_;exact rng_sub (by omega) (by simp)
 ·exact below_setC (below_setC (below_setC (below_setC F (by omega)) (by omega)) (by omega)) (by omega)
theorem Tryz.infoWay : (Tryz.prog.info? 74).map (fun i => (i.zero, i.size, i.bytes)) = some (some (.agg #[nI 0, nI 0, sL none 0 0]), 3, 40) := by kernel_rfl
theorem toWayS_rep (a : Option Addr) (xs : List (Int × Int × List Int)) (cap : Nat) (w : World) (h : SlRd wayR w a xs) (hm : waysM.bk xs ≤ 1048576) :
    Calls Tryz.prog 228 #[sL a xs.length cap] w fun e w' => ∃ v, e = .returned v ∧ MadeR waysR w w' [v] xs := by
 have D : waysM.bk xs = xs.length + sumbk wayM xs := rfl;have T : xs.length ≤ 1048576 := by omega
 have HB : Hid (sumbk wayM xs ≤ 1048576) := by unfold Hid; omega
 have Z : Hid (SlRd wayR w a xs) := h;clear D hm h;have y := run_make_wide (P := Tryz.prog) 127 74 (.agg #[nI 0, nI 0, sL none 0 0]) 3 40 Tryz.underlying127 Tryz.infoWay xs.length (by omega) (by omega);go_enter Tryz.func228, Tryz.ntmps228;go_wp2;go_loopw [4] (fun i wr => ∃ k : Nat, k ≤ xs.length ∧ i = nI k ∧ Fill 74 wayR w wr xs.length (xs.take k)) (fun i _ => xs.length - (intOf i).toNat)
 case atStart => exact ⟨0, Nat.zero_le _, rfl, by simpa using fillR_start (e := 74) (R := wayR) (w0 := w) (n := xs.length) (cs := madeCells #[nI 0, nI 0, sL none 0 0] (xs.length * 3)) (by unfold maxLen; omega) (by rw [size_madeCells]; rfl)⟩
 case round =>
  obtain ⟨k, hk, rfl, j⟩ := hrel;by_cases m : k < xs.length
  ·have I : (k : Int) < (xs.length : Int) := by omega
   obtain ⟨x, p⟩ : ∃ x, xs[k]? = some x := ⟨_, List.getElem?_eq_getElem m⟩;obtain ⟨b, f, cs, rfl, g, d⟩ := slrd_at (slrd_next Z.out (fill_below j)) p;obtain ⟨V, bA, rfl, N, L, r, A, l⟩ := way_rd g;have F := d 0 _ rfl;have G := d 1 _ rfl;have H := d 2 _ rfl;rw [show f + (k * wayR.size + 0) = f + k * 3 from rfl] at F;rw [show f + (k * wayR.size + 1) = f + k * 3 + 1 from rfl] at G;rw [show f + (k * wayR.size + 2) = f + k * 3 + 2 from rfl] at H;have X : Hid (intsM.bk x.2.2 ≤ 1048576) := by unfold Hid; have := sumbk_ge wayM xs p; rw [bk_way] at this; have := HB.out; omega
   have O : Hid (SlRd intR wr V x.2.2) := l;have K : Hid (In64 x.1 ∧ In64 x.2.1) := ⟨N, L⟩;have J : Hid (∀ w1 c, MadeR wayR wr w1 c x → _) := fun w1 c hm => fillR_step (w1 := w1) (c := c) j (by simp; omega) m hm;have U : Hid (xs.take k ++ [x] = xs.take (k + 1)) := by unfold Hid; rw [List.take_add_one, p]; rfl
   clear p g d y j r A l N L;go_wp2_with fail
   refine (toWay_rep x.1 x.2.1 x.2.2 _ _ _ K.out.1 K.out.2 O.out X.out).mono ?_;rintro e w1 ⟨av, cv, rfl, M⟩;obtain ⟨q, o, C⟩ := J.out _ _ M;obtain ⟨v0, s⟩ := q 0 (by decide);obtain ⟨v1, z⟩ := q 1 (by decide);obtain ⟨v2, B⟩ := q 2 (by decide);have z0 := o (k * 3);have z1 := o (k * 3 + 1);have z2 := o (k * 3 + 2);rw [show k * wayR.size + 0 = k * 3 from rfl] at s;rw [show k * wayR.size + 1 = k * 3 + 1 from rfl] at z;rw [show k * wayR.size + 2 = k * 3 + 2 from rfl] at B;rw [U.out] at C;have Y : Hid _ := C;clear C M q o J F G H;go_wp2;go_roundw
   case rel => exact ⟨k + 1, by omega, by go_num, Y.out⟩
   case measure => simp [intOf]; omega
  ·have E : k = xs.length := by omega
   subst E;rw [List.take_length] at j;have S := fillR_end j rfl;clear j;go_wp2;go_ret
   exact ⟨_, rfl, S⟩
theorem cell_kp {w w' : World} {D b o : Nat} {u : Value} (hb : Below D w w') (h : w.cell? ⟨b, o, none⟩ = some u) (hl : b < D) : w'.cell? ⟨b, o, none⟩ = some u :=
 (World.cell?_of_block (w := w) (a := ⟨b, o, none⟩) (hb.block b hl)).trans h
theorem cell_l {w : World} {b o : Nat} {u : Value} (h : w.cell? ⟨b, o, none⟩ = some u) : b < w.heap.size := World.block_lt_of_cell? w _ h
theorem Tryz.infoWayS : (Tryz.prog.info? 127).map (fun i => (i.zero, i.size, i.bytes)) = some (some (sL none 0 0), 1, 24) := by kernel_rfl
theorem toWaySS_rep (a : Option Addr) (xs : List (List (Int × Int × List Int))) (cap : Nat) (w : World) (h : SlRd waysR w a xs) (hm : setsM.bk xs ≤ 1048576) :
    Calls Tryz.prog 187 #[sL a xs.length cap] w fun e w' => ∃ v, e = .returned v ∧ MadeR setsR w w' [v] xs := by
 have r : setsM.bk xs = xs.length + sumbk waysM xs := rfl;have G : xs.length ≤ 1048576 := by omega
 have N : Hid (sumbk waysM xs ≤ 1048576) := by unfold Hid; omega
 have M : Hid (SlRd waysR w a xs) := h;clear r hm h;have o := Go.run_make_row' (P := Tryz.prog) 93 127 (sL none 0 0) 24 Tryz.underlying93 Tryz.infoWayS rfl .i64 .i64 xs.length (by omega) (by omega);go_enter Tryz.func187, Tryz.ntmps187;go_wp2;go_loopw [4] (fun i wr => ∃ k : Nat, k ≤ xs.length ∧ i = nI k ∧ Fill 127 waysR w wr xs.length (xs.take k)) (fun i _ => xs.length - (intOf i).toNat)
 case atStart => exact ⟨0, Nat.zero_le _, rfl, by simpa using fillR_start (e := 127) (R := waysR) (w0 := w) (n := xs.length) (cs := madeCells #[sL none 0 0] xs.length) (by unfold maxLen; omega) (by simp [size_madeCells]; exact (Nat.mul_one _).symm)⟩
 case round =>
  obtain ⟨k, hk, rfl, f⟩ := hrel;by_cases j : k < xs.length
  ·have z : (k : Int) < (xs.length : Int) := by omega
   obtain ⟨x, l⟩ : ∃ x, xs[k]? = some x := ⟨_, List.getElem?_eq_getElem j⟩;obtain ⟨b, O, c, rfl, ⟨aj, cj, rfl, D, E, g⟩, d⟩ := slrd_at (slrd_next M.out (fill_below f)) l;have C := d 0 _ rfl;rw [show k * waysR.size + 0 = k from Nat.mul_one k] at C;have B : Hid _ := g;have K : Hid (waysM.bk x ≤ 1048576) := by unfold Hid; have := sumbk_ge waysM xs l; have := N.out; omega
   have I : Hid (∀ w1 v, MadeR waysR wr w1 [v] x → _) := fun w1 v hm => fillR_step (w1 := w1) (c := [v]) f (by simp; omega) j hm;have H : Hid (xs.take k ++ [x] = xs.take (k + 1)) := by unfold Hid; rw [List.take_add_one, l]; rfl
   clear l g d o f;go_wp2_with (go_at_call 228; refine (toWayS_rep _ x _ _ B.out K.out).mono ?_; rintro e w1 ⟨v, rfl, p⟩; obtain ⟨av, cv, rfl⟩ := slown_val p.1; obtain ⟨A, y, q⟩ := I.out _ _ p; obtain ⟨v0, m⟩ := A 0 (Nat.zero_lt_one); have J := y k; rw [show k * waysR.size + 0 = k from Nat.mul_one k] at m; rw [show k * waysR.size = k from Nat.mul_one k, H.out] at q; have L : Hid _ := q; clear q p A y)
   go_roundw
   case rel => exact ⟨k + 1, by omega, by go_num, L.out⟩
   case measure => simp [intOf]; omega
  ·have s : k = xs.length := by omega
   subst s;rw [List.take_length] at f;have F := fillR_end f rfl;clear f;go_wp2;go_ret
   exact ⟨_, rfl, F⟩
theorem own_cache {w : World} {S S1 S2 : Foot} {c : List (List (Int × Int × List Int)) × List Int} {u v : Value} (h1 : setsR.own w S1 [u] c.1) (h2 : intsR.own w S2 [v] c.2) (s1 : Sub S1 S) (s2 : Sub S2 S) (hd : Dis S1 S2) : cacheR.own w S [u, v] c :=
 ⟨[_], [_], S1, S2, rfl, h1, h2, s1, s2, hd⟩
theorem cache_own {w : World} {S : Foot} {cs : List Value} {c : List (List (Int × Int × List Int)) × List Int} (h : cacheR.own w S cs c) : ∃ u v b a, cs = [u, v] ∧ setsR.own w b [u] c.1 ∧ intsR.own w a [v] c.2 ∧ Sub b S ∧ Sub a S ∧ Dis b a := by
 obtain ⟨k, i, b, a, rfl, g, f, j, l, d⟩ := h;obtain ⟨u, rfl⟩ : ∃ u, k = [u] := List.length_eq_one_iff.1 (setsR.rd_len (setsR.own_rd g));obtain ⟨v, rfl⟩ : ∃ v, i = [v] := List.length_eq_one_iff.1 (intsR.rd_len (intsR.own_rd f));exact ⟨u, v, b, a, rfl, g, f, j, l, d⟩
theorem cells_froz2 {w : World} {g : Nat} {cs : Array Value} {t : TypeId} (h : w.heap[g]? = some (.cells cs t (0, 0))) : w.frozen? ⟨g, 0, none⟩ = false ∧ w.frozen? ⟨g, 1, none⟩ = false :=
 ⟨frozen_of_row w g 0 _ t h, frozen_of_row w g 1 _ t h⟩
theorem toCache_rep (a b : Option Addr) (c : List (List (Int × Int × List Int)) × List Int) (cap cp : Nat) (w : World) (h1 : SlRd waysR w a c.1) (h2 : SlRd intR w b c.2) (hm : cacheM.bk c ≤ 1048576) :
    Calls Tryz.prog 140 #[.agg #[sL a c.1.length cap, sL b c.2.length cp]] w fun e w' => ∃ i f q r, e = .returned (.agg #[sL i c.1.length f, sL q c.2.length r]) ∧ MadeR cacheR w w' [sL i c.1.length f, sL q c.2.length r] c := by
 have J : cacheM.bk c = setsM.bk c.1 + intsM.bk c.2 := rfl;have K : Hid (∀ W, Bl w W → SlRd waysR W a c.1) := fun W hb => slrd_keep h1 fun k hk => hb.block k hk;have O : Hid (∀ W, Bl w W → SlRd intR W b c.2) := fun W hb => slrd_keep h2 fun k hk => hb.block k hk;have B : Hid (setsM.bk c.1 ≤ 1048576) := by unfold Hid; omega
 have A : Hid (intsM.bk c.2 ≤ 1048576) := by unfold Hid; omega
 clear h1 h2 J hm;go_enter Tryz.func140, Tryz.ntmps140;go_wp2_with fail
 have F : Bl w (((w.alloc (.cells #[sL a c.1.length cap, sL b c.2.length cp] 107)).alloc (.cells #[sL none 0 0, sL none 0 0] 95)).alloc (.cells #[sL none 0 0, sL none 0 0] 95)) := (((Below.refl _ w).alloc (Nat.le_refl _) _).alloc (by simp) _).alloc (by simp; omega) _;have z := heap_on (.cells #[sL none 0 0, sL none 0 0] 95) (heap_on (.cells #[sL none 0 0, sL none 0 0] 95) (heap_at w (.cells #[sL a c.1.length cap, sL b c.2.length cp] 107)));have l := heap_on (.cells #[sL none 0 0, sL none 0 0] 95) (heap_at (w.alloc (.cells #[sL a c.1.length cap, sL b c.2.length cp] 107)) (.cells #[sL none 0 0, sL none 0 0] 95));have j := heap_at ((w.alloc (.cells #[sL a c.1.length cap, sL b c.2.length cp] 107)).alloc (.cells #[sL none 0 0, sL none 0 0] 95)) (.cells #[sL none 0 0, sL none 0 0] 95);have Z : (((w.alloc (.cells #[sL a c.1.length cap, sL b c.2.length cp] 107)).alloc (.cells #[sL none 0 0, sL none 0 0] 95)).alloc (.cells #[sL none 0 0, sL none 0 0] 95)).heap.size = w.heap.size + 1 + 1 + 1 := by simp
 rw [alloc_len] at l;rw [alloc_len, alloc_len] at j;generalize ((w.alloc (.cells #[sL a c.1.length cap, sL b c.2.length cp] 107)).alloc (.cells #[sL none 0 0, sL none 0 0] 95)).alloc (.cells #[sL none 0 0, sL none 0 0] 95) = W0 at F z l j Z ⊢;refine (toWaySS_rep _ c.1 _ _ (K.out _ F) B.out).mono ?_;rintro e p ⟨v, rfl, d⟩;obtain ⟨i, f, rfl⟩ := slown_val d.1;have aA := d.2.size;have R := below_step F d.2;have y : Hid (setsR.own p (rng W0.heap.size p.heap.size) [sL i c.1.length f] c.1) := d.1;replace z := row_keep d.2 z;replace l := row_keep d.2 l;replace j := row_keep d.2 j;obtain ⟨p0, X⟩ := cell_two z;obtain ⟨N, L⟩ := cell_two j;obtain ⟨S, M⟩ := cells_froz2 j;have E : Hid _ := aI l j;clear z l j d K B;go_wp2_with fail
 obtain ⟨l, j⟩ := E.out;have D := below_setC (g := w.heap.size + 1 + 1) (o := 0) (v := sL i c.1.length f) R (by omega);have n := heap_setCell_same p (w.heap.size + 1 + 1) 0 _ _ (sL i c.1.length f) j;have m := heap_setC (g := w.heap.size + 1 + 1) (o := 0) (v := sL i c.1.length f) l (by omega);have s := own_setC (g := w.heap.size + 1 + 1) (o := 0) (v := sL i c.1.length f) y.out (fun h => by have := h.1; omega);have G : (p.setCell ⟨w.heap.size + 1 + 1, 0, none⟩ (sL i c.1.length f)).heap.size = p.heap.size := by simp
 clear l j E y S M N L F R p0 X;generalize p.setCell ⟨w.heap.size + 1 + 1, 0, none⟩ (sL i c.1.length f) = w2 at D m n s G ⊢;refine (toInt64S_rep _ c.2 _ _ (O.out _ D) A.out).mono ?_;rintro e C ⟨v, rfl, d⟩;obtain ⟨q, r, rfl⟩ := slown_val d.1;have Y := d.2.size;have B3 := below_step D d.2;have I : Hid (setsR.own C (rng W0.heap.size p.heap.size) [sL i c.1.length f] c.1) := own_stay s d.2 (by omega);have H : Hid (intsR.own C (rng w2.heap.size C.heap.size) [sL q c.2.length r] c.2) := d.1;replace m := row_keep d.2 m;replace n := row_keep d.2 n;obtain ⟨N, L⟩ := cell_two n;obtain ⟨S, M⟩ := cells_froz2 n;obtain ⟨z0, z1⟩ := cell_two m;obtain ⟨g0, g1⟩ := cells_froz2 m;have E : Hid _ := aI m n;clear m n d O A s D;go_wp2;obtain ⟨m, n⟩ := E.out;have V := put2 (a := sL i c.1.length f) (b := sL q c.2.length r) (heap_setC (g := w.heap.size + 1 + 1) (o := 1) (v := sL q c.2.length r) m (by omega));obtain ⟨T, U⟩ := cell_two V;refine bodyPost_ret (v := .agg #[sL i c.1.length f, sL q c.2.length r]) (by simp [results, Tryz.results140, go_sem, T, U]) rfl ⟨i, f, q, r, rfl, own_cache (S1 := rng W0.heap.size p.heap.size) (S2 := rng w2.heap.size C.heap.size) ?_ ?_ (rng_sub (by omega) (by simp; omega)) (rng_sub (by omega) (by simp)) (rng_dis (.inl (by omega))), ?_⟩
 ·exact own_setC (own_setC (own_setC I.out (fun h => by have := h.1; omega)) (fun h => by have := h.1; omega)) (fun h => by have := h.1; omega)
 ·exact own_setC (own_setC (own_setC H.out (fun h => by have := h.1; omega)) (fun h => by have := h.1; omega)) (fun h => by have := h.1; omega)
 ·exact below_setC (below_setC (below_setC B3 (by omega)) (by omega)) (by omega)
theorem eqWay_rep (l s : Int) (d : List Int) (a1 a2 : Option Addr) (c1 c2 : Nat) (w : World) (h1 : SlRd intR w a1 d) (h2 : SlRd intR w a2 d) (hm : intsM.bk d ≤ 1152921504606846976) :
    Calls Tryz.prog 166 #[.agg #[nI l, nI s, sL a1 d.length c1], .agg #[nI l, nI s, sL a2 d.length c2]] w fun e b => e = .returned (.bool true) ∧ Bl w b := by
 have a : Hid (∀ o o', Bl w ((w.alloc o).alloc o')) := fun o o' => below_step (box_below w o) (box_below _ o');have f : Hid (∀ W, Bl w W → SlRd intR W a1 d) := fun W hb => slrd_keep h1 fun k hk => hb.block k hk;have c : Hid (∀ W, Bl w W → SlRd intR W a2 d) := fun W hb => slrd_keep h2 fun k hk => hb.block k hk;clear h1 h2;go_enter Tryz.func166, Tryz.ntmps166;go_wp2_with fail
 refine (eqInt64S_rep a1 a2 d c1 c2 _ (f.out _ (a.out _ _)) (c.out _ (a.out _ _)) hm).mono ?_;rintro e b ⟨rfl, n, rfl⟩;go_wp2;go_ret
 exact ⟨rfl, be_drewN (a.out _ _) n⟩
theorem eqWayS_rep (a1 a2 : Option Addr) (xs : List (Int × Int × List Int)) (c1 c2 : Nat) (w : World) (h1 : SlRd wayR w a1 xs) (h2 : SlRd wayR w a2 xs) (hm : (slM wayM).bk xs ≤ 1152921504606846976) :
    Calls Tryz.prog 252 #[sL a1 xs.length c1, sL a2 xs.length c2] w fun e w' => e = .returned (.bool true) ∧ Bl w w' := by
 have S : (slM wayM).bk xs = xs.length + sumbk wayM xs := rfl;have V : xs.length ≤ 1152921504606846976 := by omega
 have HB : Hid (sumbk wayM xs ≤ 1152921504606846976) := by unfold Hid; omega
 have U : Hid (∀ W, Bl w W → SlRd wayR W a1 xs) := fun W hb => slrd_keep h1 fun k J => hb.block k J;have Z : Hid (∀ W, Bl w W → SlRd wayR W a2 xs) := fun W hb => slrd_keep h2 fun k J => hb.block k J;clear S hm h1 h2;go_enter Tryz.func252, Tryz.ntmps252;go_wp2;go_loopw [5] (fun i wr => ∃ k : Nat, k ≤ xs.length ∧ i = nI k ∧ Bl w wr) (fun i _ => xs.length - (intOf i).toNat)
 case atStart => exact ⟨0, Nat.zero_le _, rfl, Below.refl _ _⟩
 case round =>
  obtain ⟨k, J, rfl, s⟩ := hrel;by_cases R : k < xs.length
  ·have T : (k : Int) < (xs.length : Int) := by omega
   obtain ⟨x, K⟩ : ∃ x, xs[k]? = some x := ⟨_, List.getElem?_eq_getElem R⟩;have Y : Hid ((wayM).bk x ≤ 1152921504606846976) := by unfold Hid; have := sumbk_ge wayM xs K; have := HB.out; omega
   obtain ⟨L, a, bA, rfl, p, c⟩ := slrd_at (U.out _ s) K;obtain ⟨E, D, rfl, -, -, -, -, z⟩ := way_rd p;have f := c 0 _ rfl;have m := c 1 _ rfl;have l := c 2 _ rfl;rw [show a + (k * wayR.size + 0) = a + k * 3 from rfl] at f;rw [show a + (k * wayR.size + 1) = a + k * 3 + 1 from rfl] at m;rw [show a + (k * wayR.size + 2) = a + k * 3 + 2 from rfl] at l;have N : Hid (∀ n : Cls (fun wx => Bl wr wx), SlRd intR n.w E x.2.2) := fun n => slrd_next z n.h;clear c p z;obtain ⟨r, b, X, rfl, q, d⟩ := slrd_at (Z.out _ s) K;obtain ⟨C, A, rfl, -, -, -, -, H⟩ := way_rd q;have g := d 0 _ rfl;have j := d 1 _ rfl;have o := d 2 _ rfl;rw [show b + (k * wayR.size + 0) = b + k * 3 from rfl] at g;rw [show b + (k * wayR.size + 1) = b + k * 3 + 1 from rfl] at j;rw [show b + (k * wayR.size + 2) = b + k * 3 + 2 from rfl] at o;have O : Hid (∀ n : Cls (fun wx => Bl wr wx), SlRd intR n.w C x.2.2) := fun n => slrd_next H n.h;clear d q H;have I : ∀ n : Cls (fun wx => Bl wr wx), n.w.cell? ⟨L, a + k * 3, none⟩ = some (nI x.1) := fun n => cell_kp n.h f (cell_l f);have y : ∀ n : Cls (fun wx => Bl wr wx), n.w.cell? ⟨L, a + k * 3 + 1, none⟩ = some (nI x.2.1) := fun n => cell_kp n.h m (cell_l m);have B : ∀ n : Cls (fun wx => Bl wr wx), n.w.cell? ⟨L, a + k * 3 + 2, none⟩ = some (sL E x.2.2.length D) := fun n => cell_kp n.h l (cell_l l);have G : ∀ n : Cls (fun wx => Bl wr wx), n.w.cell? ⟨r, b + k * 3, none⟩ = some (nI x.1) := fun n => cell_kp n.h g (cell_l g);have v : ∀ n : Cls (fun wx => Bl wr wx), n.w.cell? ⟨r, b + k * 3 + 1, none⟩ = some (nI x.2.1) := fun n => cell_kp n.h j (cell_l j);have F : ∀ n : Cls (fun wx => Bl wr wx), n.w.cell? ⟨r, b + k * 3 + 2, none⟩ = some (sL C x.2.2.length A) := fun n => cell_kp n.h o (cell_l o);clear K f m l g j o;go_wp2_with fail
   refine region_class (fun wx => Bl wr wx) (by kernel_rfl) (by kernel_rfl) ((Below.refl _ wr).drew) ?_;intro M;repeat (quiet_step ((go_at_call 166; exact calls_class (eqWay_rep x.1 x.2.1 x.2.2 _ _ _ _ _ (N.out _) (O.out _) (by have := Y.out; rw [bk_way] at this; exact this)) (fun w' hc bb => below_step hc bb))))
   refine wpQuiet_nil ?_;intro wx r;replace s := below_step s r;clear r M I y B G v F;go_wp2;go_roundw
   case rel => exact ⟨k + 1, by omega, by go_num, s⟩
   case measure => simp [intOf]; omega
  ·go_wp2;go_ret
   exact ⟨rfl, s⟩
theorem eqWaySS_rep (a1 a2 : Option Addr) (xs : List (List (Int × Int × List Int))) (c1 c2 : Nat) (w : World) (h1 : SlRd waysR w a1 xs) (h2 : SlRd waysR w a2 xs) (hm : (slM waysM).bk xs ≤ 1152921504606846976) :
    Calls Tryz.prog 220 #[sL a1 xs.length c1, sL a2 xs.length c2] w fun e w' => e = .returned (.bool true) ∧ Bl w w' := by
 have F : (slM waysM).bk xs = xs.length + sumbk waysM xs := rfl;have J : xs.length ≤ 1152921504606846976 := by omega
 have N : Hid (sumbk waysM xs ≤ 1152921504606846976) := by unfold Hid; omega
 have I : Hid (∀ W, Bl w W → SlRd waysR W a1 xs) := fun W hb => slrd_keep h1 fun k v => hb.block k v;have M : Hid (∀ W, Bl w W → SlRd waysR W a2 xs) := fun W hb => slrd_keep h2 fun k v => hb.block k v;clear F hm h1 h2;go_enter Tryz.func220, Tryz.ntmps220;go_wp2;go_loopw [5] (fun i wr => ∃ k : Nat, k ≤ xs.length ∧ i = nI k ∧ Bl w wr) (fun i _ => xs.length - (intOf i).toNat)
 case atStart => exact ⟨0, Nat.zero_le _, rfl, Below.refl _ _⟩
 case round =>
  obtain ⟨k, v, rfl, f⟩ := hrel;by_cases E : k < xs.length
  ·have G : (k : Int) < (xs.length : Int) := by omega
   obtain ⟨x, y⟩ : ∃ x, xs[k]? = some x := ⟨_, List.getElem?_eq_getElem E⟩;have L : Hid ((waysM).bk x ≤ 1152921504606846976) := by unfold Hid; have := sumbk_ge waysM xs y; have := N.out; omega
   obtain ⟨H, l, O, rfl, ⟨m, C, rfl, -, -, g⟩, a⟩ := slrd_at (I.out _ f) y;have c := a 0 _ rfl;rw [show k * waysR.size + 0 = k from Nat.mul_one k] at c;have A : Hid (∀ n : Cls (fun wx => Bl wr wx), SlRd wayR n.w m x) := fun n => slrd_next g n.h;clear a g;obtain ⟨s, o, K, rfl, ⟨j, B, rfl, -, -, q⟩, b⟩ := slrd_at (M.out _ f) y;have d := b 0 _ rfl;rw [show k * waysR.size + 0 = k from Nat.mul_one k] at d;have D : Hid (∀ n : Cls (fun wx => Bl wr wx), SlRd wayR n.w j x) := fun n => slrd_next q n.h;clear b q;have r : ∀ n : Cls (fun wx => Bl wr wx), n.w.cell? ⟨H, l + k, none⟩ = some (sL m x.length C) := fun n => cell_kp n.h c (cell_l c);have p : ∀ n : Cls (fun wx => Bl wr wx), n.w.cell? ⟨s, o + k, none⟩ = some (sL j x.length B) := fun n => cell_kp n.h d (cell_l d);clear y c d;go_wp2_with fail
   refine region_class (fun wx => Bl wr wx) (by kernel_rfl) (by kernel_rfl) ((Below.refl _ wr).drew) ?_;intro z;repeat (quiet_step ((go_at_call 252; exact calls_class (eqWayS_rep _ _ x _ _ _ (A.out _) (D.out _) L.out) (fun w' hc bb => below_step hc bb))))
   refine wpQuiet_nil ?_;intro wx s;replace f := below_step f s;clear s z r p;go_wp2;go_roundw
   case rel => exact ⟨k + 1, by omega, by go_num, f⟩
   case measure => simp [intOf]; omega
  ·go_wp2;go_ret
   exact ⟨rfl, f⟩
theorem eqCache_rep (c : List (List (Int × Int × List Int)) × List Int) (a1 b1 a2 b2 : Option Addr) (c1 d1 c2 d2 : Nat) (w : World) (h1 : SlRd waysR w a1 c.1) (k1 : SlRd intR w b1 c.2) (h2 : SlRd waysR w a2 c.1) (k2 : SlRd intR w b2 c.2) (hm : cacheM.bk c ≤ 1152921504606846976) :
    Calls Tryz.prog 164 #[.agg #[sL a1 c.1.length c1, sL b1 c.2.length d1], .agg #[sL a2 c.1.length c2, sL b2 c.2.length d2]] w fun e w' => e = .returned (.bool true) ∧ Bl w w' := by
 have j : cacheM.bk c = setsM.bk c.1 + intsM.bk c.2 := rfl;have g : Hid (setsM.bk c.1 ≤ 1152921504606846976) := by unfold Hid; omega
 have i : Hid (intsM.bk c.2 ≤ 1152921504606846976) := by unfold Hid; omega
 have f : Hid (∀ W, Bl w W → SlRd waysR W a1 c.1 ∧ SlRd waysR W a2 c.1 ∧ SlRd intR W b1 c.2 ∧ SlRd intR W b2 c.2) := fun W hb => ⟨slrd_keep h1 fun k hk => hb.block k hk, slrd_keep h2 fun k hk => hb.block k hk, slrd_keep k1 fun k hk => hb.block k hk, slrd_keep k2 fun k hk => hb.block k hk⟩;clear h1 h2 k1 k2 j hm;have l := heap_on (.cells #[sL a2 c.1.length c2, sL b2 c.2.length d2] 95) (heap_at w (.cells #[sL a1 c.1.length c1, sL b1 c.2.length d1] 95));have d := heap_at (w.alloc (.cells #[sL a1 c.1.length c1, sL b1 c.2.length d1] 95)) (.cells #[sL a2 c.1.length c2, sL b2 c.2.length d2] 95);have b := below_step (box_below w (.cells #[sL a1 c.1.length c1, sL b1 c.2.length d1] 95)) (box_below _ (.cells #[sL a2 c.1.length c2, sL b2 c.2.length d2] 95));rw [alloc_len] at d;go_enter Tryz.func164, Tryz.ntmps164;go_wp2_with fail
 generalize (w.alloc (.cells #[sL a1 c.1.length c1, sL b1 c.2.length d1] 95)).alloc (.cells #[sL a2 c.1.length c2, sL b2 c.2.length d2] 95) = W0 at l d b ⊢;refine (eqWaySS_rep a1 a2 c.1 c1 c2 _ (f.out _ b).1 (f.out _ b).2.1 g.out).mono ?_;rintro e w1 ⟨rfl, a⟩;replace b := below_step b a;obtain ⟨o, m⟩ := cell_two (row_keep a l);obtain ⟨r, q⟩ := cell_two (row_keep a d);clear a l d;go_wp2_with fail
 refine (eqInt64S_rep b1 b2 c.2 d1 d2 _ (f.out _ b).2.2.1 (f.out _ b).2.2.2 i.out).mono ?_;rintro e w2 ⟨rfl, n, rfl⟩;have p := be_drewN b n;clear o m r q;go_wp2;go_ret
 exact ⟨rfl, p⟩
end Go.Proofs.YtdamokokcdcedaaGreatDoor
