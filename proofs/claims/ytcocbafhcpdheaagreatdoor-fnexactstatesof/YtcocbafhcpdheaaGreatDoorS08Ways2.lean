import Derived.Test.YtcocbafhcpdheaaGreatDoorS00Box
import Derived.Test.YtcocbafhcpdheaaGreatDoorS07Range
namespace Go.Proofs.YtcocbafhcpdheaaGreatDoor
set_option maxHeartbeats 1000000
open Go.ChangeShapes Go.WideShapes Go.ChangeAt Go.RowKit
set_option linter.unusedVariables false
theorem bk_way (u : Int × Int × List Int) : wayM.bk u = intsM.bk u.2.2 := by
 show 0 + (0 + intsM.bk u.2.2) = _
 omega
theorem szWayS_rep (a : Option Addr) (xs : List (Int × Int × List Int)) (cap : Nat) (left : Int) (w : World) (h : SlRd wayR w a xs) (h0 : 0 ≤ left) (h1 : left ≤ 1048576) (hm : xs.length ≤ maxLen) :
    Calls Tryz.prog 202 #[.slice a xs.length cap, .int .i64 left] w fun e y => e = .returned (.int .i64 (szI ((slM wayM).bk xs) left)) ∧ Below w.heap.size w y := by
 have K : xs.length ≤ 9223372036854775807 := hm;have j : (slM wayM).bk xs = xs.length + sumbk wayM xs := rfl;clear hm;by_cases hl : (xs.length : Int) ≤ left
 ·have C : ¬ (left - (xs.length : Int) < 0) := by omega
  have F : Hid _ := j;have S : Hid (SlRd wayR w a xs) := h;clear j h;go_enter Tryz.func202, Tryz.ntmps202;go_wp2;go_loopw [1, 5] (fun q i wr => ∃ k : Nat, k ≤ xs.length ∧ i = .int .i64 k ∧ (sumbk wayM (xs.take k) : Int) + xs.length ≤ left ∧ q = .int .i64 (left - (xs.length : Int) - sumbk wayM (xs.take k)) ∧ Below w.heap.size w wr) (fun _ i _ => xs.length - (intOf i).toNat)
  case atStart => exact ⟨0, Nat.zero_le _, rfl, by simp [sumbk]; omega, by simp [sumbk], Below.refl _ _⟩
  case round =>
   obtain ⟨k, G, rfl, H, rfl, g⟩ := hrel;by_cases A : k < xs.length
   ·have J : (k : Int) < (xs.length : Int) := by omega
    obtain ⟨x, p⟩ : ∃ x, xs[k]? = some x := ⟨_, List.getElem?_eq_getElem A⟩;have E := slrd_keep S.out fun k G => g.block k G;obtain ⟨b, d, cs, rfl, f, c⟩ := slrd_at E p;obtain ⟨U, N, rfl, -, -, m, l, n⟩ := way_rd f;have O := c 0 _ rfl;have R := c 1 _ rfl;have V := c 2 _ rfl;rw [show d + (k * wayR.size + 0) = d + k * 3 from rfl] at O;rw [show d + (k * wayR.size + 1) = d + k * 3 + 1 from rfl] at R;rw [show d + (k * wayR.size + 2) = d + k * 3 + 2 from rfl] at V;have D : Hid (x.2.2.length ≤ maxLen) := Nat.le_trans m l;have HR : Hid (SlRd intR wr U x.2.2) := n;clear c f m l n;have v : Hid _ := sumbk_step (M := wayM) p;have z := sumbk_get (M := wayM) p;clear p E;generalize sumbk wayM (xs.take k) = T at H v z ⊢;by_cases I : (((wayM).bk x : Nat) : Int) ≤ left - (xs.length : Int) - (T : Int)
    ·have L : ¬ (left - (xs.length : Int) - (T : Int) - (((wayM).bk x : Nat) : Int) < 0) := by omega
     have r : Hid (szI ((wayM).bk x) (left - (xs.length : Int) - (T : Int)) = _) := szI_yes I;go_wp2_with (go_at_call 110; refine (szWay_rep x.1 x.2.1 x.2.2 _ _ _ _ (by omega) (by omega) D.out).mono ?_; rintro e y ⟨rfl, o⟩; replace g := below_step g o; clear o; rw [r.out])
     go_roundw
     case rel => exact ⟨k + 1, by omega, by go_num, by have := v.out; omega, by rw [v.out]; go_num, g⟩
     case measure => simp [intOf]; omega
    ·have r : Hid (szI ((wayM).bk x) (left - (xs.length : Int) - (T : Int)) = _) := szI_no I;have B : Hid (szI ((slM wayM).bk xs) left = -1) := by unfold Hid; rw [F.out]; exact szI_no (by omega)
     go_wp2_with (go_at_call 110; refine (szWay_rep x.1 x.2.1 x.2.2 _ _ _ _ (by omega) (by omega) D.out).mono ?_; rintro e y ⟨rfl, o⟩; replace g := below_step g o; clear o; rw [r.out])
     go_ret
     exact ⟨ret_int B.out.symm, g⟩
   ·have s : k = xs.length := by omega
    subst s;rw [List.take_length] at H ⊢;have B : Hid (szI ((slM wayM).bk xs) left = left - (xs.length : Int) - (sumbk wayM xs : Int)) := by unfold Hid; rw [F.out, szI_yes (by omega)]; omega
    go_wp2;go_ret
    exact ⟨ret_int B.out.symm, g⟩
 ·have C : left - (xs.length : Int) < 0 := by omega
  rw [szI_no (by omega)];clear j h;go_enter Tryz.func202, Tryz.ntmps202;go_wp2;go_ret
  exact ⟨rfl, Below.refl _ _⟩
theorem szWaySS_rep (a : Option Addr) (xs : List (List (Int × Int × List Int))) (cap : Nat) (left : Int) (w : World) (h : SlRd waysR w a xs) (h0 : 0 ≤ left) (h1 : left ≤ 1048576) (hm : xs.length ≤ maxLen) :
    Calls Tryz.prog 157 #[.slice a xs.length cap, .int .i64 left] w fun e s => e = .returned (.int .i64 (szI ((slM waysM).bk xs) left)) ∧ Below w.heap.size w s := by
 have J : xs.length ≤ 9223372036854775807 := hm;have f : (slM waysM).bk xs = xs.length + sumbk waysM xs := rfl;clear hm;by_cases hl : (xs.length : Int) ≤ left
 ·have A : ¬ (left - (xs.length : Int) < 0) := by omega
  have D : Hid _ := f;have R : Hid (SlRd waysR w a xs) := h;clear f h;go_enter Tryz.func157, Tryz.ntmps157;go_wp2;go_loopw [1, 5] (fun q i wr => ∃ k : Nat, k ≤ xs.length ∧ i = .int .i64 k ∧ (sumbk waysM (xs.take k) : Int) + xs.length ≤ left ∧ q = .int .i64 (left - (xs.length : Int) - sumbk waysM (xs.take k)) ∧ Below w.heap.size w wr) (fun _ i _ => xs.length - (intOf i).toNat)
  case atStart => exact ⟨0, Nat.zero_le _, rfl, by simp [sumbk]; omega, by simp [sumbk], Below.refl _ _⟩
  case round =>
   obtain ⟨k, E, rfl, F, rfl, d⟩ := hrel;by_cases y : k < xs.length
   ·have I : (k : Int) < (xs.length : Int) := by omega
    obtain ⟨x, n⟩ : ∃ x, xs[k]? = some x := ⟨_, List.getElem?_eq_getElem y⟩;have C := slrd_keep R.out fun k E => d.block k E;obtain ⟨b, L, cs, rfl, ⟨O, cj, rfl, j, g, l⟩, c⟩ := slrd_at C n;have N := c 0 _ rfl;rw [show k * waysR.size + 0 = k from Nat.mul_one k] at N;have B : Hid (x.length ≤ maxLen) := Nat.le_trans j g;have H : Hid (SlRd wayR wr O x) := l;clear c j g l;have r : Hid _ := sumbk_step (M := waysM) n;have v := sumbk_get (M := waysM) n;clear n C;generalize sumbk waysM (xs.take k) = T at F r v ⊢;by_cases G : (((waysM).bk x : Nat) : Int) ≤ left - (xs.length : Int) - (T : Int)
    ·have K : ¬ (left - (xs.length : Int) - (T : Int) - (((waysM).bk x : Nat) : Int) < 0) := by omega
     have o : Hid (szI ((waysM).bk x) (left - (xs.length : Int) - (T : Int)) = _) := szI_yes G;go_wp2_with (go_at_call 202; refine (szWayS_rep _ x _ _ _ H.out (by omega) (by omega) B.out).mono ?_; rintro e s ⟨rfl, m⟩; replace d := below_step d m; clear m; rw [o.out])
     go_roundw
     case rel => exact ⟨k + 1, by omega, by go_num, by have := r.out; omega, by rw [r.out]; go_num, d⟩
     case measure => simp [intOf]; omega
    ·have o : Hid (szI ((waysM).bk x) (left - (xs.length : Int) - (T : Int)) = _) := szI_no G;have z : Hid (szI ((slM waysM).bk xs) left = -1) := by unfold Hid; rw [D.out]; exact szI_no (by omega)
     go_wp2_with (go_at_call 202; refine (szWayS_rep _ x _ _ _ H.out (by omega) (by omega) B.out).mono ?_; rintro e s ⟨rfl, m⟩; replace d := below_step d m; clear m; rw [o.out])
     go_ret
     exact ⟨ret_int z.out.symm, d⟩
   ·have p : k = xs.length := by omega
    subst p;rw [List.take_length] at F ⊢;have z : Hid (szI ((slM waysM).bk xs) left = left - (xs.length : Int) - (sumbk waysM xs : Int)) := by unfold Hid; rw [D.out, szI_yes (by omega)]; omega
    go_wp2;go_ret
    exact ⟨ret_int z.out.symm, d⟩
 ·have A : left - (xs.length : Int) < 0 := by omega
  rw [szI_no (by omega)];clear f h;go_enter Tryz.func157, Tryz.ntmps157;go_wp2;go_ret
  exact ⟨rfl, Below.refl _ _⟩
theorem szCache_rep (a b : Option Addr) (c : List (List (Int × Int × List Int)) × List Int) (cap cp : Nat) (left : Int) (w : World) (h : SlRd waysR w a c.1) (h0 : 0 ≤ left) (h1 : left ≤ 1048576) (m1 : c.1.length ≤ maxLen) (m2 : c.2.length ≤ maxLen) :
    Calls Tryz.prog 108 #[.agg #[.slice a c.1.length cap, .slice b c.2.length cp], .int .i64 left] w fun e l => e = .returned (.int .i64 (szI (cacheM.bk c) left)) ∧ Below w.heap.size w l := by
 have k : cacheM.bk c = setsM.bk c.1 + intsM.bk c.2 := rfl;rw [k];have X := heap_alloc_new w (.cells #[.slice a c.1.length cap, .slice b c.2.length cp] 101);have j := box_below w (.cells #[.slice a c.1.length cap, .slice b c.2.length cp] 101);have H : Hid (∀ o, SlRd waysR (w.alloc o) a c.1) := fun o => slrd_next h (box_below w o);clear h k;generalize i : setsM.bk c.1 = n1;generalize g : intsM.bk c.2 = n2;have f := szWaySS_rep a c.1 cap left (w.alloc (.cells #[.slice a c.1.length cap, .slice b c.2.length cp] 101)) (H.out _) h0 h1 m1;rw [i] at f;by_cases y : (n1 : Int) ≤ left
 ·rw [szI_yes y] at f;have B : ¬ (left - (n1 : Int) < 0) := by omega
  have v : Hid (∀ W, Calls Tryz.prog 106 #[.slice b c.2.length cp, .int .i64 (left - (n1 : Int))] W fun e l => e = .returned (.int .i64 (szI n2 (left - (n1 : Int)))) ∧ l = W) := fun W => by
   have := szInt64S_rep b c.2 cp (left - (n1 : Int)) W (by omega) (by omega) m2;rwa [g] at this
  clear i g H m1 m2;by_cases m : (n2 : Int) ≤ left - (n1 : Int)
  ·have p : Hid (szI (n1 + n2) left = left - (n1 : Int) - (n2 : Int)) := by unfold Hid; rw [szI_yes (by omega)]; omega
   have A : ¬ (left - (n1 : Int) - (n2 : Int) < 0) := by omega
   have q : Hid (szI n2 (left - (n1 : Int)) = left - (n1 : Int) - (n2 : Int)) := szI_yes m;go_enter Tryz.func108, Tryz.ntmps108;go_wp2_with fail
   refine f.mono ?_;rintro e r ⟨rfl, d⟩;obtain ⟨s, z⟩ := cell_two (row_keep d X);have n := below_step j d;clear d X j f;go_wp2_with (go_at_call 106; refine (v.out _).mono ?_; rintro e l ⟨rfl, rfl⟩; rw [q.out])
   go_ret
   exact ⟨ret_int p.out.symm, n⟩
  ·have p : Hid (szI (n1 + n2) left = -1) := by unfold Hid; exact szI_no (by omega)
   have q : Hid (szI n2 (left - (n1 : Int)) = -1) := szI_no m;go_enter Tryz.func108, Tryz.ntmps108;go_wp2_with fail
   refine f.mono ?_;rintro e r ⟨rfl, d⟩;obtain ⟨s, z⟩ := cell_two (row_keep d X);have n := below_step j d;clear d X j f;go_wp2_with (go_at_call 106; refine (v.out _).mono ?_; rintro e l ⟨rfl, rfl⟩; rw [q.out])
   go_ret
   exact ⟨ret_int p.out.symm, n⟩
 ·rw [szI_no y] at f;have p : Hid (szI (n1 + n2) left = -1) := by unfold Hid; exact szI_no (by omega)
  clear i g H m1 m2;go_enter Tryz.func108, Tryz.ntmps108;go_wp2_with fail
  refine f.mono ?_;rintro e r ⟨rfl, d⟩;obtain ⟨s, z⟩ := cell_two (row_keep d X);have n := below_step j d;clear d X j f;go_wp2;go_ret
  exact ⟨ret_int p.out.symm, n⟩
theorem cells_3 {w : World} {g : Nat} {x y z : Value} {t : TypeId} (h : w.heap[g]? = some (.cells #[x, y, z] t (0, 0))) :
    w.cell? ⟨g, 0, none⟩ = some x ∧ w.cell? ⟨g, 1, none⟩ = some y ∧ w.cell? ⟨g, 2, none⟩ = some z :=
 ⟨by rw [cell_of_row w g 0 _ t (0, 0) h]; rfl, by rw [cell_of_row w g 1 _ t (0, 0) h]; rfl, by rw [cell_of_row w g 2 _ t (0, 0) h]; rfl⟩
theorem cells_froz {w : World} {g : Nat} {cs : Array Value} {t : TypeId} (h : w.heap[g]? = some (.cells cs t (0, 0))) : w.frozen? ⟨g, 0, none⟩ = false ∧ w.frozen? ⟨g, 1, none⟩ = false ∧ w.frozen? ⟨g, 2, none⟩ = false :=
 ⟨frozen_of_row w g 0 _ t h, frozen_of_row w g 1 _ t h, frozen_of_row w g 2 _ t h⟩
theorem put3 {w : World} {g : Nat} {x y z a b c : Value} {t : TypeId} (h : w.heap[g]? = some (.cells #[x, y, z] t (0, 0))) :
    (((w.setCell ⟨g, 0, none⟩ a).setCell ⟨g, 1, none⟩ b).setCell ⟨g, 2, none⟩ c).heap[g]? = some (.cells #[a, b, c] t (0, 0)) := by
 have d := heap_setCell_same w g 0 _ t a h;have f := heap_setCell_same _ g 1 _ t b d;exact heap_setCell_same _ g 2 _ t c f
theorem put2 {w : World} {g : Nat} {x y a b : Value} {t : TypeId} (h : w.heap[g]? = some (.cells #[x, y] t (0, 0))) :
    ((w.setCell ⟨g, 0, none⟩ a).setCell ⟨g, 1, none⟩ b).heap[g]? = some (.cells #[a, b] t (0, 0)) := by
 have c := heap_setCell_same w g 0 _ t a h;exact heap_setCell_same _ g 1 _ t b c
theorem toWay_rep (l s : Int) (d : List Int) (a : Option Addr) (cap : Nat) (w : World) (i1 : In64 l) (i2 : In64 s) (h : SlRd intR w a d) (hm : intsM.bk d ≤ 1048576) :
    Calls Tryz.prog 116 #[.agg #[.int .i64 l, .int .i64 s, .slice a d.length cap]] w fun e w' => ∃ p m, e = .returned (.agg #[.int .i64 l, .int .i64 s, .slice p d.length m]) ∧ MadeR wayR w w' [.int .i64 l, .int .i64 s, .slice p d.length m] (l, s, d) := by
 have H : Hid (∀ W, Below w.heap.size w W → SlRd intR W a d) := fun W hb => slrd_keep h fun k hk => hb.block k hk;clear h;go_enter Tryz.func116, Tryz.ntmps116;go_wp2_with fail
 have r : Below w.heap.size w (((w.alloc (.cells #[.int .i64 l, .int .i64 s, .slice a d.length cap] 103)).alloc (.cells #[.int .i64 0, .int .i64 0, .slice none 0 0] 88)).alloc (.cells #[.int .i64 l, .int .i64 s, .slice none 0 0] 88)) := (((Below.refl _ w).alloc (Nat.le_refl _) _).alloc (by simp) _).alloc (by simp; omega) _;have f := heap_on (.cells #[.int .i64 l, .int .i64 s, .slice none 0 0] 88) (heap_at (w.alloc (.cells #[.int .i64 l, .int .i64 s, .slice a d.length cap] 103)) (.cells #[.int .i64 0, .int .i64 0, .slice none 0 0] 88));have i := heap_at ((w.alloc (.cells #[.int .i64 l, .int .i64 s, .slice a d.length cap] 103)).alloc (.cells #[.int .i64 0, .int .i64 0, .slice none 0 0] 88)) (.cells #[.int .i64 l, .int .i64 s, .slice none 0 0] 88);have D : (((w.alloc (.cells #[.int .i64 l, .int .i64 s, .slice a d.length cap] 103)).alloc (.cells #[.int .i64 0, .int .i64 0, .slice none 0 0] 88)).alloc (.cells #[.int .i64 l, .int .i64 s, .slice none 0 0] 88)).heap.size = w.heap.size + 1 + 1 + 1 := by simp
 rw [alloc_len] at f;rw [alloc_len, alloc_len] at i;generalize ((w.alloc (.cells #[.int .i64 l, .int .i64 s, .slice a d.length cap] 103)).alloc (.cells #[.int .i64 0, .int .i64 0, .slice none 0 0] 88)).alloc (.cells #[.int .i64 l, .int .i64 s, .slice none 0 0] 88) = W0 at r f i D ⊢;refine (toInt64S_rep _ d _ _ (H.out _ r) hm).mono ?_;rintro e w1 ⟨v, rfl, q⟩;obtain ⟨p, m, rfl⟩ := slown_val q.1;have n := q.2;have j := q.1;have C := below_step r n;replace f := row_keep n f;replace i := row_keep n i;obtain ⟨y0, y1, y2⟩ := cells_3 i;obtain ⟨f0, f1, f2⟩ := cells_froz i;obtain ⟨z0, z1, z2⟩ := cells_3 f;obtain ⟨g0, g1, g2⟩ := cells_froz f;have y : Hid _ := And.intro f i;have E : Hid _ := j;clear f i j q H;go_wp2;obtain ⟨f, i⟩ := y.out;have A := put3 (a := .int .i64 l) (b := .int .i64 s) (c := .slice p d.length m) (heap_setC (g := w.heap.size + 1 + 1) (o := 2) (v := .slice p d.length m) f (by omega));obtain ⟨F, z, B⟩ := cells_3 A;refine bodyPost_ret (v := .agg #[.int .i64 l, .int .i64 s, .slice p d.length m]) (by simp [results, Tryz.results116, go_sem, F, z, B]) rfl ⟨p, m, rfl, own_way i1 i2 ?_, ?_⟩
 ·refine intsR.own_mono (own_setC (own_setC (own_setC (own_setC E.out (fun h => by have := h.1; omega)) (fun h => by have := h.1; omega)) (fun h => by have := h.1; omega)) (fun h => by have := h.1; omega)) ?_;exact rng_sub (by omega) (by simp)
 ·exact below_setC (below_setC (below_setC (below_setC C (by omega)) (by omega)) (by omega)) (by omega)
theorem Tryz.infoWay : (Tryz.prog.info? 88).map (fun i => (i.zero, i.size, i.bytes)) = some (some (.agg #[.int .i64 0, .int .i64 0, .slice none 0 0]), 3, 40) := by kernel_rfl
theorem toWayS_rep (a : Option Addr) (xs : List (Int × Int × List Int)) (cap : Nat) (w : World) (h : SlRd wayR w a xs) (hm : waysM.bk xs ≤ 1048576) :
    Calls Tryz.prog 203 #[.slice a xs.length cap] w fun e w' => ∃ v, e = .returned v ∧ MadeR waysR w w' [v] xs := by
 have r : waysM.bk xs = xs.length + sumbk wayM xs := rfl;have Z : xs.length ≤ 1048576 := by omega
 have V : Hid (sumbk wayM xs ≤ 1048576) := by unfold Hid; omega
 have H0 : Hid (SlRd wayR w a xs) := h;clear r hm h;have z := run_make_wide (P := Tryz.prog) 143 88 (.agg #[.int .i64 0, .int .i64 0, .slice none 0 0]) 3 40 Tryz.underlying143 Tryz.infoWay xs.length (by omega) (by omega);go_enter Tryz.func203, Tryz.ntmps203;go_wp2;go_loopw [4] (fun i wr => ∃ k : Nat, k ≤ xs.length ∧ i = .int .i64 k ∧ Fill 88 wayR w wr xs.length (xs.take k)) (fun i _ => xs.length - (intOf i).toNat)
 case atStart => exact ⟨0, Nat.zero_le _, rfl, by simpa using fillR_start (e := 88) (R := wayR) (w0 := w) (n := xs.length) (cs := madeCells #[.int .i64 0, .int .i64 0, .slice none 0 0] (xs.length * 3)) (by unfold maxLen; omega) (by rw [size_madeCells]; rfl)⟩
 case round =>
  obtain ⟨k, hk, rfl, j⟩ := hrel;by_cases m : k < xs.length
  ·have L : (k : Int) < (xs.length : Int) := by omega
   obtain ⟨x, q⟩ : ∃ x, xs[k]? = some x := ⟨_, List.getElem?_eq_getElem m⟩;obtain ⟨b, f, cs, rfl, g, d⟩ := slrd_at (slrd_next H0.out (fill_below j)) q;obtain ⟨ad, T, rfl, J, H, B, A, l⟩ := way_rd g;have I := d 0 _ rfl;have M := d 1 _ rfl;have N := d 2 _ rfl;rw [show f + (k * wayR.size + 0) = f + k * 3 from rfl] at I;rw [show f + (k * wayR.size + 1) = f + k * 3 + 1 from rfl] at M;rw [show f + (k * wayR.size + 2) = f + k * 3 + 2 from rfl] at N;have O : Hid (intsM.bk x.2.2 ≤ 1048576) := by unfold Hid; have := sumbk_ge wayM xs q; rw [bk_way] at this; have := V.out; omega
   have X : Hid (SlRd intR wr ad x.2.2) := l;have K : Hid (In64 x.1 ∧ In64 x.2.1) := ⟨J, H⟩;have F : Hid (∀ w1 c, MadeR wayR wr w1 c x → _) := fun w1 c hm => fillR_step (w1 := w1) (c := c) j (by simp; omega) m hm;have S : Hid (xs.take k ++ [x] = xs.take (k + 1)) := by unfold Hid; rw [List.take_add_one, q]; rfl
   clear q g d z j B A l J H;go_wp2_with fail
   refine (toWay_rep x.1 x.2.1 x.2.2 _ _ _ K.out.1 K.out.2 X.out O.out).mono ?_;rintro e w1 ⟨av, cv, rfl, G⟩;obtain ⟨p, o, y⟩ := F.out _ _ G;obtain ⟨v0, C⟩ := p 0 (by decide);obtain ⟨v1, E⟩ := p 1 (by decide);obtain ⟨v2, D⟩ := p 2 (by decide);have z0 := o (k * 3);have z1 := o (k * 3 + 1);have z2 := o (k * 3 + 2);rw [show k * wayR.size + 0 = k * 3 from rfl] at C;rw [show k * wayR.size + 1 = k * 3 + 1 from rfl] at E;rw [show k * wayR.size + 2 = k * 3 + 2 from rfl] at D;rw [S.out] at y;have U : Hid _ := y;clear y G p o F I M N;go_wp2;go_roundw
   case rel => exact ⟨k + 1, by omega, by go_num, U.out⟩
   case measure => simp [intOf]; omega
  ·have s : k = xs.length := by omega
   subst s;rw [List.take_length] at j;have Y := fillR_end j rfl;clear j;go_wp2;go_ret
   exact ⟨_, rfl, Y⟩
theorem cell_kp {w w' : World} {D b o : Nat} {u : Value} (hb : Below D w w') (h : w.cell? ⟨b, o, none⟩ = some u) (hl : b < D) : w'.cell? ⟨b, o, none⟩ = some u :=
 (World.cell?_of_block (w := w) (a := ⟨b, o, none⟩) (hb.block b hl)).trans h
theorem cell_l {w : World} {b o : Nat} {u : Value} (h : w.cell? ⟨b, o, none⟩ = some u) : b < w.heap.size := World.block_lt_of_cell? w _ h
theorem Tryz.infoWayS : (Tryz.prog.info? 143).map (fun i => (i.zero, i.size, i.bytes)) = some (some (.slice none 0 0), 1, 24) := by kernel_rfl
theorem toWaySS_rep (a : Option Addr) (xs : List (List (Int × Int × List Int))) (cap : Nat) (w : World) (h : SlRd waysR w a xs) (hm : setsM.bk xs ≤ 1048576) :
    Calls Tryz.prog 158 #[.slice a xs.length cap] w fun e w' => ∃ v, e = .returned v ∧ MadeR setsR w w' [v] xs := by
 have m : setsM.bk xs = xs.length + sumbk waysM xs := rfl;have M : xs.length ≤ 1048576 := by omega
 have G : Hid (sumbk waysM xs ≤ 1048576) := by unfold Hid; omega
 have N : Hid (SlRd waysR w a xs) := h;clear m hm h;have r := Go.run_make_row' (P := Tryz.prog) 90 143 (.slice none 0 0) 24 Tryz.underlying90 Tryz.infoWayS rfl .i64 .i64 xs.length (by omega) (by omega);go_enter Tryz.func158, Tryz.ntmps158;go_wp2;go_loopw [4] (fun i wr => ∃ k : Nat, k ≤ xs.length ∧ i = .int .i64 k ∧ Fill 143 waysR w wr xs.length (xs.take k)) (fun i _ => xs.length - (intOf i).toNat)
 case atStart => exact ⟨0, Nat.zero_le _, rfl, by simpa using fillR_start (e := 143) (R := waysR) (w0 := w) (n := xs.length) (cs := madeCells #[.slice none 0 0] xs.length) (by unfold maxLen; omega) (by simp [size_madeCells]; exact (Nat.mul_one _).symm)⟩
 case round =>
  obtain ⟨k, hk, rfl, f⟩ := hrel;by_cases j : k < xs.length
  ·have A : (k : Int) < (xs.length : Int) := by omega
   obtain ⟨x, l⟩ : ∃ x, xs[k]? = some x := ⟨_, List.getElem?_eq_getElem j⟩;obtain ⟨b, E, c, rfl, ⟨aj, cj, rfl, J, H, g⟩, d⟩ := slrd_at (slrd_next N.out (fill_below f)) l;have O := d 0 _ rfl;rw [show k * waysR.size + 0 = k from Nat.mul_one k] at O;have K : Hid _ := g;have B : Hid (waysM.bk x ≤ 1048576) := by unfold Hid; have := sumbk_ge waysM xs l; have := G.out; omega
   have D : Hid (∀ w1 v, MadeR waysR wr w1 [v] x → _) := fun w1 v hm => fillR_step (w1 := w1) (c := [v]) f (by simp; omega) j hm;have C : Hid (xs.take k ++ [x] = xs.take (k + 1)) := by unfold Hid; rw [List.take_add_one, l]; rfl
   clear l g d r f;go_wp2_with (go_at_call 203; refine (toWayS_rep _ x _ _ K.out B.out).mono ?_; rintro e w1 ⟨v, rfl, p⟩; obtain ⟨av, cv, rfl⟩ := slown_val p.1; obtain ⟨z, y, q⟩ := D.out _ _ p; obtain ⟨v0, s⟩ := z 0 (Nat.zero_lt_one); have I := y k; rw [show k * waysR.size + 0 = k from Nat.mul_one k] at s; rw [show k * waysR.size = k from Nat.mul_one k, C.out] at q; have F : Hid _ := q; clear q p z y)
   go_roundw
   case rel => exact ⟨k + 1, by omega, by go_num, F.out⟩
   case measure => simp [intOf]; omega
  ·have o : k = xs.length := by omega
   subst o;rw [List.take_length] at f;have L := fillR_end f rfl;clear f;go_wp2;go_ret
   exact ⟨_, rfl, L⟩
theorem own_cache {w : World} {S S1 S2 : Foot} {c : List (List (Int × Int × List Int)) × List Int} {u v : Value} (h1 : setsR.own w S1 [u] c.1) (h2 : intsR.own w S2 [v] c.2) (s1 : Sub S1 S) (s2 : Sub S2 S) (hd : Dis S1 S2) : cacheR.own w S [u, v] c :=
 ⟨[_], [_], S1, S2, rfl, h1, h2, s1, s2, hd⟩
theorem cache_own {w : World} {S : Foot} {cs : List Value} {c : List (List (Int × Int × List Int)) × List Int} (h : cacheR.own w S cs c) : ∃ u v a b, cs = [u, v] ∧ setsR.own w a [u] c.1 ∧ intsR.own w b [v] c.2 ∧ Sub a S ∧ Sub b S ∧ Dis a b := by
 obtain ⟨l, j, a, b, rfl, f, g, i, k, d⟩ := h;obtain ⟨u, rfl⟩ : ∃ u, l = [u] := List.length_eq_one_iff.1 (setsR.rd_len (setsR.own_rd f));obtain ⟨v, rfl⟩ : ∃ v, j = [v] := List.length_eq_one_iff.1 (intsR.rd_len (intsR.own_rd g));exact ⟨u, v, a, b, rfl, f, g, i, k, d⟩
theorem cells_froz2 {w : World} {g : Nat} {cs : Array Value} {t : TypeId} (h : w.heap[g]? = some (.cells cs t (0, 0))) : w.frozen? ⟨g, 0, none⟩ = false ∧ w.frozen? ⟨g, 1, none⟩ = false :=
 ⟨frozen_of_row w g 0 _ t h, frozen_of_row w g 1 _ t h⟩
theorem toCache_rep (a b : Option Addr) (c : List (List (Int × Int × List Int)) × List Int) (cap cp : Nat) (w : World) (h1 : SlRd waysR w a c.1) (h2 : SlRd intR w b c.2) (hm : cacheM.bk c ≤ 1048576) :
    Calls Tryz.prog 114 #[.agg #[.slice a c.1.length cap, .slice b c.2.length cp]] w fun e w' => ∃ i f q p, e = .returned (.agg #[.slice i c.1.length f, .slice q c.2.length p]) ∧ MadeR cacheR w w' [.slice i c.1.length f, .slice q c.2.length p] c := by
 have G : cacheM.bk c = setsM.bk c.1 + intsM.bk c.2 := rfl;have S : Hid (∀ W, Below w.heap.size w W → SlRd waysR W a c.1) := fun W hb => slrd_keep h1 fun k hk => hb.block k hk;have L : Hid (∀ W, Below w.heap.size w W → SlRd intR W b c.2) := fun W hb => slrd_keep h2 fun k hk => hb.block k hk;have y : Hid (setsM.bk c.1 ≤ 1048576) := by unfold Hid; omega
 have A : Hid (intsM.bk c.2 ≤ 1048576) := by unfold Hid; omega
 clear h1 h2 G hm;go_enter Tryz.func114, Tryz.ntmps114;go_wp2_with fail
 have E : Below w.heap.size w (((w.alloc (.cells #[.slice a c.1.length cap, .slice b c.2.length cp] 101)).alloc (.cells #[.slice none 0 0, .slice none 0 0] 92)).alloc (.cells #[.slice none 0 0, .slice none 0 0] 92)) := (((Below.refl _ w).alloc (Nat.le_refl _) _).alloc (by simp) _).alloc (by simp; omega) _;have B := heap_on (.cells #[.slice none 0 0, .slice none 0 0] 92) (heap_on (.cells #[.slice none 0 0, .slice none 0 0] 92) (heap_at w (.cells #[.slice a c.1.length cap, .slice b c.2.length cp] 101)));have l := heap_on (.cells #[.slice none 0 0, .slice none 0 0] 92) (heap_at (w.alloc (.cells #[.slice a c.1.length cap, .slice b c.2.length cp] 101)) (.cells #[.slice none 0 0, .slice none 0 0] 92));have j := heap_at ((w.alloc (.cells #[.slice a c.1.length cap, .slice b c.2.length cp] 101)).alloc (.cells #[.slice none 0 0, .slice none 0 0] 92)) (.cells #[.slice none 0 0, .slice none 0 0] 92);have X : (((w.alloc (.cells #[.slice a c.1.length cap, .slice b c.2.length cp] 101)).alloc (.cells #[.slice none 0 0, .slice none 0 0] 92)).alloc (.cells #[.slice none 0 0, .slice none 0 0] 92)).heap.size = w.heap.size + 1 + 1 + 1 := by simp
 rw [alloc_len] at l;rw [alloc_len, alloc_len] at j;generalize ((w.alloc (.cells #[.slice a c.1.length cap, .slice b c.2.length cp] 101)).alloc (.cells #[.slice none 0 0, .slice none 0 0] 92)).alloc (.cells #[.slice none 0 0, .slice none 0 0] 92) = W0 at E B l j X ⊢;refine (toWaySS_rep _ c.1 _ _ (S.out _ E) y.out).mono ?_;rintro e n ⟨v, rfl, d⟩;obtain ⟨i, f, rfl⟩ := slown_val d.1;have U := d.2.size;have N := below_step E d.2;have z : Hid (setsR.own n (rng W0.heap.size n.heap.size) [.slice i c.1.length f] c.1) := d.1;replace B := row_keep d.2 B;replace l := row_keep d.2 l;replace j := row_keep d.2 j;obtain ⟨Z, p1⟩ := cell_two B;obtain ⟨K, O⟩ := cell_two j;obtain ⟨R, M⟩ := cells_froz2 j;have C : Hid _ := And.intro l j;clear B l j d S y;go_wp2_with fail
 obtain ⟨l, j⟩ := C.out;have D := below_setC (g := w.heap.size + 1 + 1) (o := 0) (v := .slice i c.1.length f) N (by omega);have r := heap_setCell_same n (w.heap.size + 1 + 1) 0 _ _ (.slice i c.1.length f) j;have m := heap_setC (g := w.heap.size + 1 + 1) (o := 0) (v := .slice i c.1.length f) l (by omega);have s := own_setC (g := w.heap.size + 1 + 1) (o := 0) (v := .slice i c.1.length f) z.out (fun h => by have := h.1; omega);have J : (n.setCell ⟨w.heap.size + 1 + 1, 0, none⟩ (.slice i c.1.length f)).heap.size = n.heap.size := by simp
 clear l j C z R M K O E N Z p1;generalize n.setCell ⟨w.heap.size + 1 + 1, 0, none⟩ (.slice i c.1.length f) = w2 at D m r s J ⊢;refine (toInt64S_rep _ c.2 _ _ (L.out _ D) A.out).mono ?_;rintro e F ⟨v, rfl, d⟩;obtain ⟨q, p, rfl⟩ := slown_val d.1;have V := d.2.size;have B3 := below_step D d.2;have I : Hid (setsR.own F (rng W0.heap.size n.heap.size) [.slice i c.1.length f] c.1) := own_stay s d.2 (by omega);have H : Hid (intsR.own F (rng w2.heap.size F.heap.size) [.slice q c.2.length p] c.2) := d.1;replace m := row_keep d.2 m;replace r := row_keep d.2 r;obtain ⟨K, O⟩ := cell_two r;obtain ⟨R, M⟩ := cells_froz2 r;obtain ⟨z0, z1⟩ := cell_two m;obtain ⟨g0, g1⟩ := cells_froz2 m;have C : Hid _ := And.intro m r;clear m r d L A s D;go_wp2;obtain ⟨m, r⟩ := C.out;have Y := put2 (a := .slice i c.1.length f) (b := .slice q c.2.length p) (heap_setC (g := w.heap.size + 1 + 1) (o := 1) (v := .slice q c.2.length p) m (by omega));obtain ⟨r0, T⟩ := cell_two Y;refine bodyPost_ret (v := .agg #[.slice i c.1.length f, .slice q c.2.length p]) (by simp [results, Tryz.results114, go_sem, r0, T]) rfl ⟨i, f, q, p, rfl, own_cache (S1 := rng W0.heap.size n.heap.size) (S2 := rng w2.heap.size F.heap.size) ?_ ?_ (rng_sub (by omega) (by simp; omega)) (rng_sub (by omega) (by simp)) (rng_dis (.inl (by omega))), ?_⟩
 ·exact own_setC (own_setC (own_setC I.out (fun h => by have := h.1; omega)) (fun h => by have := h.1; omega)) (fun h => by have := h.1; omega)
 ·exact own_setC (own_setC (own_setC H.out (fun h => by have := h.1; omega)) (fun h => by have := h.1; omega)) (fun h => by have := h.1; omega)
 ·exact below_setC (below_setC (below_setC B3 (by omega)) (by omega)) (by omega)
theorem eqWay_rep (l s : Int) (d : List Int) (a1 a2 : Option Addr) (c1 c2 : Nat) (w : World) (h1 : SlRd intR w a1 d) (h2 : SlRd intR w a2 d) (hm : intsM.bk d ≤ 1152921504606846976) :
    Calls Tryz.prog 136 #[.agg #[.int .i64 l, .int .i64 s, .slice a1 d.length c1], .agg #[.int .i64 l, .int .i64 s, .slice a2 d.length c2]] w fun e b => e = .returned (.bool true) ∧ Below w.heap.size w b := by
 have a : Hid (∀ o o', Below w.heap.size w ((w.alloc o).alloc o')) := fun o o' => below_step (box_below w o) (box_below _ o');have c : Hid (∀ W, Below w.heap.size w W → SlRd intR W a1 d) := fun W hb => slrd_keep h1 fun k hk => hb.block k hk;have f : Hid (∀ W, Below w.heap.size w W → SlRd intR W a2 d) := fun W hb => slrd_keep h2 fun k hk => hb.block k hk;clear h1 h2;go_enter Tryz.func136, Tryz.ntmps136;go_wp2_with fail
 refine (eqInt64S_rep a1 a2 d c1 c2 _ (c.out _ (a.out _ _)) (f.out _ (a.out _ _)) hm).mono ?_;rintro e b ⟨rfl, n, rfl⟩;go_wp2;go_ret
 exact ⟨rfl, be_drewN (a.out _ _) n⟩
theorem eqWayS_rep (a1 a2 : Option Addr) (xs : List (Int × Int × List Int)) (c1 c2 : Nat) (w : World) (h1 : SlRd wayR w a1 xs) (h2 : SlRd wayR w a2 xs) (hm : (slM wayM).bk xs ≤ 1152921504606846976) :
    Calls Tryz.prog 238 #[.slice a1 xs.length c1, .slice a2 xs.length c2] w fun e w' => e = .returned (.bool true) ∧ Below w.heap.size w w' := by
 have M : (slM wayM).bk xs = xs.length + sumbk wayM xs := rfl;have bA : xs.length ≤ 1152921504606846976 := by omega
 have Y : Hid (sumbk wayM xs ≤ 1152921504606846976) := by unfold Hid; omega
 have H1 : Hid (∀ W, Below w.heap.size w W → SlRd wayR W a1 xs) := fun W hb => slrd_keep h1 fun k J => hb.block k J;have X : Hid (∀ W, Below w.heap.size w W → SlRd wayR W a2 xs) := fun W hb => slrd_keep h2 fun k J => hb.block k J;clear M hm h1 h2;go_enter Tryz.func238, Tryz.ntmps238;go_wp2;go_loopw [5] (fun i wr => ∃ k : Nat, k ≤ xs.length ∧ i = .int .i64 k ∧ Below w.heap.size w wr) (fun i _ => xs.length - (intOf i).toNat)
 case atStart => exact ⟨0, Nat.zero_le _, rfl, Below.refl _ _⟩
 case round =>
  obtain ⟨k, J, rfl, s⟩ := hrel;by_cases S : k < xs.length
  ·have T : (k : Int) < (xs.length : Int) := by omega
   obtain ⟨x, K⟩ : ∃ x, xs[k]? = some x := ⟨_, List.getElem?_eq_getElem S⟩;have U : Hid ((wayM).bk x ≤ 1152921504606846976) := by unfold Hid; have := sumbk_ge wayM xs K; have := Y.out; omega
   obtain ⟨L, a, Z, rfl, p, c⟩ := slrd_at (H1.out _ s) K;obtain ⟨F, E, rfl, -, -, -, -, D⟩ := way_rd p;have g := c 0 _ rfl;have m := c 1 _ rfl;have l := c 2 _ rfl;rw [show a + (k * wayR.size + 0) = a + k * 3 from rfl] at g;rw [show a + (k * wayR.size + 1) = a + k * 3 + 1 from rfl] at m;rw [show a + (k * wayR.size + 2) = a + k * 3 + 2 from rfl] at l;have O : Hid (∀ n : Cls (fun wx => Below wr.heap.size wr wx), SlRd intR n.w F x.2.2) := fun n => slrd_next D n.h;clear c p D;obtain ⟨r, b, V, rfl, q, d⟩ := slrd_at (X.out _ s) K;obtain ⟨I, A, rfl, -, -, -, -, C⟩ := way_rd q;have f := d 0 _ rfl;have j := d 1 _ rfl;have o := d 2 _ rfl;rw [show b + (k * wayR.size + 0) = b + k * 3 from rfl] at f;rw [show b + (k * wayR.size + 1) = b + k * 3 + 1 from rfl] at j;rw [show b + (k * wayR.size + 2) = b + k * 3 + 2 from rfl] at o;have N : Hid (∀ n : Cls (fun wx => Below wr.heap.size wr wx), SlRd intR n.w I x.2.2) := fun n => slrd_next C n.h;clear d q C;have H : ∀ n : Cls (fun wx => Below wr.heap.size wr wx), n.w.cell? ⟨L, a + k * 3, none⟩ = some (.int .i64 x.1) := fun n => cell_kp n.h g (cell_l g);have v : ∀ n : Cls (fun wx => Below wr.heap.size wr wx), n.w.cell? ⟨L, a + k * 3 + 1, none⟩ = some (.int .i64 x.2.1) := fun n => cell_kp n.h m (cell_l m);have z : ∀ n : Cls (fun wx => Below wr.heap.size wr wx), n.w.cell? ⟨L, a + k * 3 + 2, none⟩ = some (.slice F x.2.2.length E) := fun n => cell_kp n.h l (cell_l l);have y : ∀ n : Cls (fun wx => Below wr.heap.size wr wx), n.w.cell? ⟨r, b + k * 3, none⟩ = some (.int .i64 x.1) := fun n => cell_kp n.h f (cell_l f);have B : ∀ n : Cls (fun wx => Below wr.heap.size wr wx), n.w.cell? ⟨r, b + k * 3 + 1, none⟩ = some (.int .i64 x.2.1) := fun n => cell_kp n.h j (cell_l j);have G : ∀ n : Cls (fun wx => Below wr.heap.size wr wx), n.w.cell? ⟨r, b + k * 3 + 2, none⟩ = some (.slice I x.2.2.length A) := fun n => cell_kp n.h o (cell_l o);clear K g m l f j o;go_wp2_with fail
   refine region_class (fun wx => Below wr.heap.size wr wx) (by kernel_rfl) (by kernel_rfl) ((Below.refl _ wr).drew) ?_;intro R;repeat (quiet_step ((go_at_call 136; exact calls_class (eqWay_rep x.1 x.2.1 x.2.2 _ _ _ _ _ (O.out _) (N.out _) (by have := U.out; rw [bk_way] at this; exact this)) (fun w' hc bb => below_step hc bb))))
   refine wpQuiet_nil ?_;intro wx r;replace s := below_step s r;clear r R H v z y B G;go_wp2;go_roundw
   case rel => exact ⟨k + 1, by omega, by go_num, s⟩
   case measure => simp [intOf]; omega
  ·go_wp2;go_ret
   exact ⟨rfl, s⟩
theorem eqWaySS_rep (a1 a2 : Option Addr) (xs : List (List (Int × Int × List Int))) (c1 c2 : Nat) (w : World) (h1 : SlRd waysR w a1 xs) (h2 : SlRd waysR w a2 xs) (hm : (slM waysM).bk xs ≤ 1152921504606846976) :
    Calls Tryz.prog 198 #[.slice a1 xs.length c1, .slice a2 xs.length c2] w fun e w' => e = .returned (.bool true) ∧ Below w.heap.size w w' := by
 have z : (slM waysM).bk xs = xs.length + sumbk waysM xs := rfl;have O : xs.length ≤ 1152921504606846976 := by omega
 have L : Hid (sumbk waysM xs ≤ 1152921504606846976) := by unfold Hid; omega
 have N : Hid (∀ W, Below w.heap.size w W → SlRd waysR W a1 xs) := fun W hb => slrd_keep h1 fun k s => hb.block k s;have K : Hid (∀ W, Below w.heap.size w W → SlRd waysR W a2 xs) := fun W hb => slrd_keep h2 fun k s => hb.block k s;clear z hm h1 h2;go_enter Tryz.func198, Tryz.ntmps198;go_wp2;go_loopw [5] (fun i wr => ∃ k : Nat, k ≤ xs.length ∧ i = .int .i64 k ∧ Below w.heap.size w wr) (fun i _ => xs.length - (intOf i).toNat)
 case atStart => exact ⟨0, Nat.zero_le _, rfl, Below.refl _ _⟩
 case round =>
  obtain ⟨k, s, rfl, f⟩ := hrel;by_cases F : k < xs.length
  ·have G : (k : Int) < (xs.length : Int) := by omega
   obtain ⟨x, y⟩ : ∃ x, xs[k]? = some x := ⟨_, List.getElem?_eq_getElem F⟩;have H : Hid ((waysM).bk x ≤ 1152921504606846976) := by unfold Hid; have := sumbk_ge waysM xs y; have := L.out; omega
   obtain ⟨I, p, M, rfl, ⟨j, D, rfl, -, -, m⟩, a⟩ := slrd_at (N.out _ f) y;have d := a 0 _ rfl;rw [show k * waysR.size + 0 = k from Nat.mul_one k] at d;have B : Hid (∀ n : Cls (fun wx => Below wr.heap.size wr wx), SlRd wayR n.w j x) := fun n => slrd_next m n.h;clear a m;obtain ⟨v, q, J, rfl, ⟨o, C, rfl, -, -, l⟩, b⟩ := slrd_at (K.out _ f) y;have c := b 0 _ rfl;rw [show k * waysR.size + 0 = k from Nat.mul_one k] at c;have A : Hid (∀ n : Cls (fun wx => Below wr.heap.size wr wx), SlRd wayR n.w o x) := fun n => slrd_next l n.h;clear b l;have r : ∀ n : Cls (fun wx => Below wr.heap.size wr wx), n.w.cell? ⟨I, p + k, none⟩ = some (.slice j x.length D) := fun n => cell_kp n.h d (cell_l d);have g : ∀ n : Cls (fun wx => Below wr.heap.size wr wx), n.w.cell? ⟨v, q + k, none⟩ = some (.slice o x.length C) := fun n => cell_kp n.h c (cell_l c);clear y d c;go_wp2_with fail
   refine region_class (fun wx => Below wr.heap.size wr wx) (by kernel_rfl) (by kernel_rfl) ((Below.refl _ wr).drew) ?_;intro E;repeat (quiet_step ((go_at_call 238; exact calls_class (eqWayS_rep _ _ x _ _ _ (B.out _) (A.out _) H.out) (fun w' hc bb => below_step hc bb))))
   refine wpQuiet_nil ?_;intro wx v;replace f := below_step f v;clear v E r g;go_wp2;go_roundw
   case rel => exact ⟨k + 1, by omega, by go_num, f⟩
   case measure => simp [intOf]; omega
  ·go_wp2;go_ret
   exact ⟨rfl, f⟩
theorem eqCache_rep (c : List (List (Int × Int × List Int)) × List Int) (a1 b1 a2 b2 : Option Addr) (c1 d1 c2 d2 : Nat) (w : World) (h1 : SlRd waysR w a1 c.1) (k1 : SlRd intR w b1 c.2) (h2 : SlRd waysR w a2 c.1) (k2 : SlRd intR w b2 c.2) (hm : cacheM.bk c ≤ 1152921504606846976) :
    Calls Tryz.prog 134 #[.agg #[.slice a1 c.1.length c1, .slice b1 c.2.length d1], .agg #[.slice a2 c.1.length c2, .slice b2 c.2.length d2]] w fun e w' => e = .returned (.bool true) ∧ Below w.heap.size w w' := by
 have g : cacheM.bk c = setsM.bk c.1 + intsM.bk c.2 := rfl;have i : Hid (setsM.bk c.1 ≤ 1152921504606846976) := by unfold Hid; omega
 have l : Hid (intsM.bk c.2 ≤ 1152921504606846976) := by unfold Hid; omega
 have f : Hid (∀ W, Below w.heap.size w W → SlRd waysR W a1 c.1 ∧ SlRd waysR W a2 c.1 ∧ SlRd intR W b1 c.2 ∧ SlRd intR W b2 c.2) := fun W hb => ⟨slrd_keep h1 fun k hk => hb.block k hk, slrd_keep h2 fun k hk => hb.block k hk, slrd_keep k1 fun k hk => hb.block k hk, slrd_keep k2 fun k hk => hb.block k hk⟩;clear h1 h2 k1 k2 g hm;have j := heap_on (.cells #[.slice a2 c.1.length c2, .slice b2 c.2.length d2] 92) (heap_at w (.cells #[.slice a1 c.1.length c1, .slice b1 c.2.length d1] 92));have d := heap_at (w.alloc (.cells #[.slice a1 c.1.length c1, .slice b1 c.2.length d1] 92)) (.cells #[.slice a2 c.1.length c2, .slice b2 c.2.length d2] 92);have b := below_step (box_below w (.cells #[.slice a1 c.1.length c1, .slice b1 c.2.length d1] 92)) (box_below _ (.cells #[.slice a2 c.1.length c2, .slice b2 c.2.length d2] 92));rw [alloc_len] at d;go_enter Tryz.func134, Tryz.ntmps134;go_wp2_with fail
 generalize (w.alloc (.cells #[.slice a1 c.1.length c1, .slice b1 c.2.length d1] 92)).alloc (.cells #[.slice a2 c.1.length c2, .slice b2 c.2.length d2] 92) = W0 at j d b ⊢;refine (eqWaySS_rep a1 a2 c.1 c1 c2 _ (f.out _ b).1 (f.out _ b).2.1 i.out).mono ?_;rintro e w1 ⟨rfl, a⟩;replace b := below_step b a;obtain ⟨p, r⟩ := cell_two (row_keep a j);obtain ⟨q, m⟩ := cell_two (row_keep a d);clear a j d;go_wp2_with fail
 refine (eqInt64S_rep b1 b2 c.2 d1 d2 _ (f.out _ b).2.2.1 (f.out _ b).2.2.2 l.out).mono ?_;rintro e w2 ⟨rfl, n, rfl⟩;have o := be_drewN b n;clear p r q m;go_wp2;go_ret
 exact ⟨rfl, o⟩
end Go.Proofs.YtcocbafhcpdheaaGreatDoor
