import Derived.Test.YtcocbafhcpdheaaGreatDoorS00Box
import Derived.Test.YtcocbafhcpdheaaGreatDoorS07
namespace Go.Proofs.YtcocbafhcpdheaaGreatDoor
set_option maxHeartbeats 1000000
open Go.ChangeShapes Go.WideShapes Go.ChangeAt Go.RowKit
set_option linter.unusedVariables false
theorem bk_way (u : Int × Int × List Int) : wayM.bk u = intsM.bk u.2.2 := by
 show 0 + (0 + intsM.bk u.2.2) = _
 omega
theorem szWayS_rep (a : Option Addr) (xs : List (Int × Int × List Int)) (cap : Nat) (left : Int) (w : World) (h : SlRd wayR w a xs) (h0 : 0 ≤ left) (h1 : left ≤ 1048576) (hm : xs.length ≤ maxLen) :
    Calls Tryz.prog 202 #[.slice a xs.length cap, .int .i64 left] w fun e r => e = .returned (.int .i64 (szI ((slM wayM).bk xs) left)) ∧ Below w.heap.size w r := by
 have K : xs.length ≤ 9223372036854775807 := hm;have j : (slM wayM).bk xs = xs.length + sumbk wayM xs := rfl;clear hm;by_cases hl : (xs.length : Int) ≤ left
 ·have A : ¬ (left - (xs.length : Int) < 0) := by omega
  have E : Hid _ := j;have R : Hid (SlRd wayR w a xs) := h;clear j h;go_enter Tryz.func202, Tryz.ntmps202;go_wp2;go_loopw [1, 5] (fun q i wr => ∃ k : Nat, k ≤ xs.length ∧ i = .int .i64 k ∧ (sumbk wayM (xs.take k) : Int) + xs.length ≤ left ∧ q = .int .i64 (left - (xs.length : Int) - sumbk wayM (xs.take k)) ∧ Below w.heap.size w wr) (fun _ i _ => xs.length - (intOf i).toNat)
  case atStart => exact ⟨0, Nat.zero_le _, rfl, by simp [sumbk]; omega, by simp [sumbk], Below.refl _ _⟩
  case round =>
   obtain ⟨k, J, rfl, D, rfl, g⟩ := hrel;by_cases s : k < xs.length
   ·have I : (k : Int) < (xs.length : Int) := by omega
    obtain ⟨x, p⟩ : ∃ x, xs[k]? = some x := ⟨_, List.getElem?_eq_getElem s⟩;have F := slrd_keep R.out fun k J => g.block k J;obtain ⟨b, d, cs, rfl, f, c⟩ := slrd_at F p;obtain ⟨O, N, rfl, -, -, n, m, l⟩ := way_rd f;have L := c 0 _ rfl;have S := c 1 _ rfl;have U := c 2 _ rfl;rw [show d + (k * wayR.size + 0) = d + k * 3 from rfl] at L;rw [show d + (k * wayR.size + 1) = d + k * 3 + 1 from rfl] at S;rw [show d + (k * wayR.size + 2) = d + k * 3 + 2 from rfl] at U;have H : Hid (x.2.2.length ≤ maxLen) := Nat.le_trans n m;have HR : Hid (SlRd intR wr O x.2.2) := l;clear c f n m l;have y : Hid _ := sumbk_step (M := wayM) p;have z := sumbk_get (M := wayM) p;clear p F;generalize sumbk wayM (xs.take k) = T at D y z ⊢;by_cases G : (((wayM).bk x : Nat) : Int) ≤ left - (xs.length : Int) - (T : Int)
    ·have V : ¬ (left - (xs.length : Int) - (T : Int) - (((wayM).bk x : Nat) : Int) < 0) := by omega
     have v : Hid (szI ((wayM).bk x) (left - (xs.length : Int) - (T : Int)) = _) := szI_yes G;go_wp2_with (go_at_call 110; refine (szWay_rep x.1 x.2.1 x.2.2 _ _ _ _ (by omega) (by omega) H.out).mono ?_; rintro e r ⟨rfl, o⟩; replace g := below_step g o; clear o; rw [v.out])
     go_roundw
     case rel => exact ⟨k + 1, by omega, by go_num, by have := y.out; omega, by rw [y.out]; go_num, g⟩
     case measure => simp [intOf]; omega
    ·have v : Hid (szI ((wayM).bk x) (left - (xs.length : Int) - (T : Int)) = _) := szI_no G;have B : Hid (szI ((slM wayM).bk xs) left = -1) := by unfold Hid; rw [E.out]; exact szI_no (by omega)
     go_wp2_with (go_at_call 110; refine (szWay_rep x.1 x.2.1 x.2.2 _ _ _ _ (by omega) (by omega) H.out).mono ?_; rintro e r ⟨rfl, o⟩; replace g := below_step g o; clear o; rw [v.out])
     go_ret
     exact ⟨ret_int B.out.symm, g⟩
   ·have C : k = xs.length := by omega
    subst C;rw [List.take_length] at D ⊢;have B : Hid (szI ((slM wayM).bk xs) left = left - (xs.length : Int) - (sumbk wayM xs : Int)) := by unfold Hid; rw [E.out, szI_yes (by omega)]; omega
    go_wp2;go_ret
    exact ⟨ret_int B.out.symm, g⟩
 ·have A : left - (xs.length : Int) < 0 := by omega
  rw [szI_no (by omega)];clear j h;go_enter Tryz.func202, Tryz.ntmps202;go_wp2;go_ret
  exact ⟨rfl, Below.refl _ _⟩
theorem szWaySS_rep (a : Option Addr) (xs : List (List (Int × Int × List Int))) (cap : Nat) (left : Int) (w : World) (h : SlRd waysR w a xs) (h0 : 0 ≤ left) (h1 : left ≤ 1048576) (hm : xs.length ≤ maxLen) :
    Calls Tryz.prog 157 #[.slice a xs.length cap, .int .i64 left] w fun e o => e = .returned (.int .i64 (szI ((slM waysM).bk xs) left)) ∧ Below w.heap.size w o := by
 have J : xs.length ≤ 9223372036854775807 := hm;have f : (slM waysM).bk xs = xs.length + sumbk waysM xs := rfl;clear hm;by_cases hl : (xs.length : Int) ≤ left
 ·have y : ¬ (left - (xs.length : Int) < 0) := by omega
  have C : Hid _ := f;have N : Hid (SlRd waysR w a xs) := h;clear f h;go_enter Tryz.func157, Tryz.ntmps157;go_wp2;go_loopw [1, 5] (fun q i wr => ∃ k : Nat, k ≤ xs.length ∧ i = .int .i64 k ∧ (sumbk waysM (xs.take k) : Int) + xs.length ≤ left ∧ q = .int .i64 (left - (xs.length : Int) - sumbk waysM (xs.take k)) ∧ Below w.heap.size w wr) (fun _ i _ => xs.length - (intOf i).toNat)
  case atStart => exact ⟨0, Nat.zero_le _, rfl, by simp [sumbk]; omega, by simp [sumbk], Below.refl _ _⟩
  case round =>
   obtain ⟨k, I, rfl, B, rfl, d⟩ := hrel;by_cases p : k < xs.length
   ·have G : (k : Int) < (xs.length : Int) := by omega
    obtain ⟨x, n⟩ : ∃ x, xs[k]? = some x := ⟨_, List.getElem?_eq_getElem p⟩;have D := slrd_keep N.out fun k I => d.block k I;obtain ⟨b, K, cs, rfl, ⟨O, cj, rfl, l, j, g⟩, c⟩ := slrd_at D n;have L := c 0 _ rfl;rw [show k * waysR.size + 0 = k from Nat.mul_one k] at L;have F : Hid (x.length ≤ maxLen) := Nat.le_trans l j;have H : Hid (SlRd wayR wr O x) := g;clear c l j g;have s : Hid _ := sumbk_step (M := waysM) n;have v := sumbk_get (M := waysM) n;clear n D;generalize sumbk waysM (xs.take k) = T at B s v ⊢;by_cases E : (((waysM).bk x : Nat) : Int) ≤ left - (xs.length : Int) - (T : Int)
    ·have R : ¬ (left - (xs.length : Int) - (T : Int) - (((waysM).bk x : Nat) : Int) < 0) := by omega
     have r : Hid (szI ((waysM).bk x) (left - (xs.length : Int) - (T : Int)) = _) := szI_yes E;go_wp2_with (go_at_call 202; refine (szWayS_rep _ x _ _ _ H.out (by omega) (by omega) F.out).mono ?_; rintro e o ⟨rfl, m⟩; replace d := below_step d m; clear m; rw [r.out])
     go_roundw
     case rel => exact ⟨k + 1, by omega, by go_num, by have := s.out; omega, by rw [s.out]; go_num, d⟩
     case measure => simp [intOf]; omega
    ·have r : Hid (szI ((waysM).bk x) (left - (xs.length : Int) - (T : Int)) = _) := szI_no E;have z : Hid (szI ((slM waysM).bk xs) left = -1) := by unfold Hid; rw [C.out]; exact szI_no (by omega)
     go_wp2_with (go_at_call 202; refine (szWayS_rep _ x _ _ _ H.out (by omega) (by omega) F.out).mono ?_; rintro e o ⟨rfl, m⟩; replace d := below_step d m; clear m; rw [r.out])
     go_ret
     exact ⟨ret_int z.out.symm, d⟩
   ·have A : k = xs.length := by omega
    subst A;rw [List.take_length] at B ⊢;have z : Hid (szI ((slM waysM).bk xs) left = left - (xs.length : Int) - (sumbk waysM xs : Int)) := by unfold Hid; rw [C.out, szI_yes (by omega)]; omega
    go_wp2;go_ret
    exact ⟨ret_int z.out.symm, d⟩
 ·have y : left - (xs.length : Int) < 0 := by omega
  rw [szI_no (by omega)];clear f h;go_enter Tryz.func157, Tryz.ntmps157;go_wp2;go_ret
  exact ⟨rfl, Below.refl _ _⟩
theorem szCache_rep (a b : Option Addr) (c : List (List (Int × Int × List Int)) × List Int) (cap cp : Nat) (left : Int) (w : World) (h : SlRd waysR w a c.1) (h0 : 0 ≤ left) (h1 : left ≤ 1048576) (m1 : c.1.length ≤ maxLen) (m2 : c.2.length ≤ maxLen) :
    Calls Tryz.prog 108 #[.agg #[.slice a c.1.length cap, .slice b c.2.length cp], .int .i64 left] w fun e k => e = .returned (.int .i64 (szI (cacheM.bk c) left)) ∧ Below w.heap.size w k := by
 have n : cacheM.bk c = setsM.bk c.1 + intsM.bk c.2 := rfl;rw [n];have X := heap_alloc_new w (.cells #[.slice a c.1.length cap, .slice b c.2.length cp] 101);have j := box_below w (.cells #[.slice a c.1.length cap, .slice b c.2.length cp] 101);have H : Hid (∀ o, SlRd waysR (w.alloc o) a c.1) := fun o => slrd_next h (box_below w o);clear h n;generalize i : setsM.bk c.1 = n1;generalize g : intsM.bk c.2 = n2;have f := szWaySS_rep a c.1 cap left (w.alloc (.cells #[.slice a c.1.length cap, .slice b c.2.length cp] 101)) (H.out _) h0 h1 m1;rw [i] at f;by_cases A : (n1 : Int) ≤ left
 ·rw [szI_yes A] at f;have B : ¬ (left - (n1 : Int) < 0) := by omega
  have s : Hid (∀ W, Calls Tryz.prog 106 #[.slice b c.2.length cp, .int .i64 (left - (n1 : Int))] W fun e k => e = .returned (.int .i64 (szI n2 (left - (n1 : Int)))) ∧ k = W) := fun W => by
   have := szInt64S_rep b c.2 cp (left - (n1 : Int)) W (by omega) (by omega) m2;rwa [g] at this
  clear i g H m1 m2;by_cases l : (n2 : Int) ≤ left - (n1 : Int)
  ·have p : Hid (szI (n1 + n2) left = left - (n1 : Int) - (n2 : Int)) := by unfold Hid; rw [szI_yes (by omega)]; omega
   have y : ¬ (left - (n1 : Int) - (n2 : Int) < 0) := by omega
   have q : Hid (szI n2 (left - (n1 : Int)) = left - (n1 : Int) - (n2 : Int)) := szI_yes l;go_enter Tryz.func108, Tryz.ntmps108;go_wp2_with fail
   refine f.mono ?_;rintro e r ⟨rfl, d⟩;obtain ⟨z, v⟩ := cell_two (row_keep d X);have m := below_step j d;clear d X j f;go_wp2_with (go_at_call 106; refine (s.out _).mono ?_; rintro e k ⟨rfl, rfl⟩; rw [q.out])
   go_ret
   exact ⟨ret_int p.out.symm, m⟩
  ·have p : Hid (szI (n1 + n2) left = -1) := by unfold Hid; exact szI_no (by omega)
   have q : Hid (szI n2 (left - (n1 : Int)) = -1) := szI_no l;go_enter Tryz.func108, Tryz.ntmps108;go_wp2_with fail
   refine f.mono ?_;rintro e r ⟨rfl, d⟩;obtain ⟨z, v⟩ := cell_two (row_keep d X);have m := below_step j d;clear d X j f;go_wp2_with (go_at_call 106; refine (s.out _).mono ?_; rintro e k ⟨rfl, rfl⟩; rw [q.out])
   go_ret
   exact ⟨ret_int p.out.symm, m⟩
 ·rw [szI_no A] at f;have p : Hid (szI (n1 + n2) left = -1) := by unfold Hid; exact szI_no (by omega)
  clear i g H m1 m2;go_enter Tryz.func108, Tryz.ntmps108;go_wp2_with fail
  refine f.mono ?_;rintro e r ⟨rfl, d⟩;obtain ⟨z, v⟩ := cell_two (row_keep d X);have m := below_step j d;clear d X j f;go_wp2;go_ret
  exact ⟨ret_int p.out.symm, m⟩
theorem cells_3 {w : World} {g : Nat} {x y z : Value} {t : TypeId} (h : w.heap[g]? = some (.cells #[x, y, z] t (0, 0))) :
    w.cell? ⟨g, 0, none⟩ = some x ∧ w.cell? ⟨g, 1, none⟩ = some y ∧ w.cell? ⟨g, 2, none⟩ = some z :=
 ⟨by rw [cell_of_row w g 0 _ t (0, 0) h]; rfl, by rw [cell_of_row w g 1 _ t (0, 0) h]; rfl, by rw [cell_of_row w g 2 _ t (0, 0) h]; rfl⟩
theorem cells_froz {w : World} {g : Nat} {cs : Array Value} {t : TypeId} (h : w.heap[g]? = some (.cells cs t (0, 0))) : w.frozen? ⟨g, 0, none⟩ = false ∧ w.frozen? ⟨g, 1, none⟩ = false ∧ w.frozen? ⟨g, 2, none⟩ = false :=
 ⟨frozen_of_row w g 0 _ t h, frozen_of_row w g 1 _ t h, frozen_of_row w g 2 _ t h⟩
theorem put3 {w : World} {g : Nat} {x y z a b c : Value} {t : TypeId} (h : w.heap[g]? = some (.cells #[x, y, z] t (0, 0))) :
    (((w.setCell ⟨g, 0, none⟩ a).setCell ⟨g, 1, none⟩ b).setCell ⟨g, 2, none⟩ c).heap[g]? = some (.cells #[a, b, c] t (0, 0)) := by
 have d := heap_setCell_same w g 0 _ t a h;have f := heap_setCell_same _ g 1 _ t b d;exact heap_setCell_same _ g 2 _ t c f
theorem put2 {w : World} {g : Nat} {x y a b : Value} {t : TypeId} (h : w.heap[g]? = some (.cells #[x, y] t (0, 0))) :
    ((w.setCell ⟨g, 0, none⟩ a).setCell ⟨g, 1, none⟩ b).heap[g]? = some (.cells #[a, b] t (0, 0)) := by
 have c := heap_setCell_same w g 0 _ t a h;exact heap_setCell_same _ g 1 _ t b c
theorem toWay_rep (l s : Int) (d : List Int) (a : Option Addr) (cap : Nat) (w : World) (i1 : In64 l) (i2 : In64 s) (h : SlRd intR w a d) (hm : intsM.bk d ≤ 1048576) :
    Calls Tryz.prog 116 #[.agg #[.int .i64 l, .int .i64 s, .slice a d.length cap]] w fun e w' => ∃ p n, e = .returned (.agg #[.int .i64 l, .int .i64 s, .slice p d.length n]) ∧ MadeR wayR w w' [.int .i64 l, .int .i64 s, .slice p d.length n] (l, s, d) := by
 have H : Hid (∀ W, Below w.heap.size w W → SlRd intR W a d) := fun W hb => slrd_keep h fun k hk => hb.block k hk;clear h;go_enter Tryz.func116, Tryz.ntmps116;go_wp2_with fail
 have r : Below w.heap.size w (((w.alloc (.cells #[.int .i64 l, .int .i64 s, .slice a d.length cap] 103)).alloc (.cells #[.int .i64 0, .int .i64 0, .slice none 0 0] 88)).alloc (.cells #[.int .i64 l, .int .i64 s, .slice none 0 0] 88)) := (((Below.refl _ w).alloc (Nat.le_refl _) _).alloc (by simp) _).alloc (by simp; omega) _;have f := heap_on (.cells #[.int .i64 l, .int .i64 s, .slice none 0 0] 88) (heap_at (w.alloc (.cells #[.int .i64 l, .int .i64 s, .slice a d.length cap] 103)) (.cells #[.int .i64 0, .int .i64 0, .slice none 0 0] 88));have i := heap_at ((w.alloc (.cells #[.int .i64 l, .int .i64 s, .slice a d.length cap] 103)).alloc (.cells #[.int .i64 0, .int .i64 0, .slice none 0 0] 88)) (.cells #[.int .i64 l, .int .i64 s, .slice none 0 0] 88);have B : (((w.alloc (.cells #[.int .i64 l, .int .i64 s, .slice a d.length cap] 103)).alloc (.cells #[.int .i64 0, .int .i64 0, .slice none 0 0] 88)).alloc (.cells #[.int .i64 l, .int .i64 s, .slice none 0 0] 88)).heap.size = w.heap.size + 1 + 1 + 1 := by simp
 rw [alloc_len] at f;rw [alloc_len, alloc_len] at i;generalize ((w.alloc (.cells #[.int .i64 l, .int .i64 s, .slice a d.length cap] 103)).alloc (.cells #[.int .i64 0, .int .i64 0, .slice none 0 0] 88)).alloc (.cells #[.int .i64 l, .int .i64 s, .slice none 0 0] 88) = W0 at r f i B ⊢;refine (toInt64S_rep _ d _ _ (H.out _ r) hm).mono ?_;rintro e w1 ⟨v, rfl, q⟩;obtain ⟨p, n, rfl⟩ := slown_val q.1;have m := q.2;have j := q.1;have F := below_step r m;replace f := row_keep m f;replace i := row_keep m i;obtain ⟨y0, y1, y2⟩ := cells_3 i;obtain ⟨f0, f1, f2⟩ := cells_froz i;obtain ⟨z0, z1, z2⟩ := cells_3 f;obtain ⟨g0, g1, g2⟩ := cells_froz f;have E : Hid _ := And.intro f i;have z : Hid _ := j;clear f i j q H;go_wp2;obtain ⟨f, i⟩ := E.out;have C := put3 (a := .int .i64 l) (b := .int .i64 s) (c := .slice p d.length n) (heap_setC (g := w.heap.size + 1 + 1) (o := 2) (v := .slice p d.length n) f (by omega));obtain ⟨y, A, D⟩ := cells_3 C;refine bodyPost_ret (v := .agg #[.int .i64 l, .int .i64 s, .slice p d.length n]) (by simp [results, Tryz.results116, go_sem, y, A, D]) rfl ⟨p, n, rfl, own_way i1 i2 ?_, ?_⟩
 ·refine intsR.own_mono (own_setC (own_setC (own_setC (own_setC z.out (fun h => by have := h.1; omega)) (fun h => by have := h.1; omega)) (fun h => by have := h.1; omega)) (fun h => by have := h.1; omega)) ?_;exact rng_sub (by omega) (by simp)
 ·exact below_setC (below_setC (below_setC (below_setC F (by omega)) (by omega)) (by omega)) (by omega)
theorem Tryz.infoWay : (Tryz.prog.info? 88).map (fun i => (i.zero, i.size, i.bytes)) = some (some (.agg #[.int .i64 0, .int .i64 0, .slice none 0 0]), 3, 40) := by kernel_rfl
theorem toWayS_rep (a : Option Addr) (xs : List (Int × Int × List Int)) (cap : Nat) (w : World) (h : SlRd wayR w a xs) (hm : waysM.bk xs ≤ 1048576) :
    Calls Tryz.prog 203 #[.slice a xs.length cap] w fun e w' => ∃ v, e = .returned v ∧ MadeR waysR w w' [v] xs := by
 have z : waysM.bk xs = xs.length + sumbk wayM xs := rfl;have Z : xs.length ≤ 1048576 := by omega
 have V : Hid (sumbk wayM xs ≤ 1048576) := by unfold Hid; omega
 have T : Hid (SlRd wayR w a xs) := h;clear z hm h;have D := run_make_wide (P := Tryz.prog) 143 88 (.agg #[.int .i64 0, .int .i64 0, .slice none 0 0]) 3 40 Tryz.underlying143 Tryz.infoWay xs.length (by omega) (by omega);go_enter Tryz.func203, Tryz.ntmps203;go_wp2;go_loopw [4] (fun i wr => ∃ k : Nat, k ≤ xs.length ∧ i = .int .i64 k ∧ Fill 88 wayR w wr xs.length (xs.take k)) (fun i _ => xs.length - (intOf i).toNat)
 case atStart => exact ⟨0, Nat.zero_le _, rfl, by simpa using fillR_start (e := 88) (R := wayR) (w0 := w) (n := xs.length) (cs := madeCells #[.int .i64 0, .int .i64 0, .slice none 0 0] (xs.length * 3)) (by unfold maxLen; omega) (by rw [size_madeCells]; rfl)⟩
 case round =>
  obtain ⟨k, hk, rfl, j⟩ := hrel;by_cases l : k < xs.length
  ·have M : (k : Int) < (xs.length : Int) := by omega
   obtain ⟨x, q⟩ : ∃ x, xs[k]? = some x := ⟨_, List.getElem?_eq_getElem l⟩;obtain ⟨b, f, cs, rfl, g, d⟩ := slrd_at (slrd_next T.out (fill_below j)) q;obtain ⟨S, O, rfl, I, N, E, y, m⟩ := way_rd g;have F := d 0 _ rfl;have H := d 1 _ rfl;have L := d 2 _ rfl;rw [show f + (k * wayR.size + 0) = f + k * 3 from rfl] at F;rw [show f + (k * wayR.size + 1) = f + k * 3 + 1 from rfl] at H;rw [show f + (k * wayR.size + 2) = f + k * 3 + 2 from rfl] at L;have Y : Hid (intsM.bk x.2.2 ≤ 1048576) := by unfold Hid; have := sumbk_ge wayM xs q; rw [bk_way] at this; have := V.out; omega
   have HR : Hid (SlRd intR wr S x.2.2) := m;have K : Hid (In64 x.1 ∧ In64 x.2.1) := ⟨I, N⟩;have J : Hid (∀ w1 c, MadeR wayR wr w1 c x → _) := fun w1 c hm => fillR_step (w1 := w1) (c := c) j (by simp; omega) l hm;have X : Hid (xs.take k ++ [x] = xs.take (k + 1)) := by unfold Hid; rw [List.take_add_one, q]; rfl
   clear q g d D j E y m I N;go_wp2_with fail
   refine (toWay_rep x.1 x.2.1 x.2.2 _ _ _ K.out.1 K.out.2 HR.out Y.out).mono ?_;rintro e w1 ⟨av, cv, rfl, G⟩;obtain ⟨o, p, r⟩ := J.out _ _ G;obtain ⟨v0, A⟩ := o 0 (by decide);obtain ⟨v1, s⟩ := o 1 (by decide);obtain ⟨v2, B⟩ := o 2 (by decide);have z0 := p (k * 3);have z1 := p (k * 3 + 1);have z2 := p (k * 3 + 2);rw [show k * wayR.size + 0 = k * 3 from rfl] at A;rw [show k * wayR.size + 1 = k * 3 + 1 from rfl] at s;rw [show k * wayR.size + 2 = k * 3 + 2 from rfl] at B;rw [X.out] at r;have HF : Hid _ := r;clear r G o p J F H L;go_wp2;go_roundw
   case rel => exact ⟨k + 1, by omega, by go_num, HF.out⟩
   case measure => simp [intOf]; omega
  ·have C : k = xs.length := by omega
   subst C;rw [List.take_length] at j;have U := fillR_end j rfl;clear j;go_wp2;go_ret
   exact ⟨_, rfl, U⟩
theorem cell_kp {w w' : World} {D b o : Nat} {u : Value} (hb : Below D w w') (h : w.cell? ⟨b, o, none⟩ = some u) (hl : b < D) : w'.cell? ⟨b, o, none⟩ = some u :=
 (World.cell?_of_block (w := w) (a := ⟨b, o, none⟩) (hb.block b hl)).trans h
theorem cell_l {w : World} {b o : Nat} {u : Value} (h : w.cell? ⟨b, o, none⟩ = some u) : b < w.heap.size := World.block_lt_of_cell? w _ h
theorem Tryz.infoWayS : (Tryz.prog.info? 143).map (fun i => (i.zero, i.size, i.bytes)) = some (some (.slice none 0 0), 1, 24) := by kernel_rfl
theorem toWaySS_rep (a : Option Addr) (xs : List (List (Int × Int × List Int))) (cap : Nat) (w : World) (h : SlRd waysR w a xs) (hm : setsM.bk xs ≤ 1048576) :
    Calls Tryz.prog 158 #[.slice a xs.length cap] w fun e w' => ∃ v, e = .returned v ∧ MadeR setsR w w' [v] xs := by
 have p : setsM.bk xs = xs.length + sumbk waysM xs := rfl;have M : xs.length ≤ 1048576 := by omega
 have G : Hid (sumbk waysM xs ≤ 1048576) := by unfold Hid; omega
 have F : Hid (SlRd waysR w a xs) := h;clear p hm h;have s := Go.run_make_row' (P := Tryz.prog) 90 143 (.slice none 0 0) 24 Tryz.underlying90 Tryz.infoWayS rfl .i64 .i64 xs.length (by omega) (by omega);go_enter Tryz.func158, Tryz.ntmps158;go_wp2;go_loopw [4] (fun i wr => ∃ k : Nat, k ≤ xs.length ∧ i = .int .i64 k ∧ Fill 143 waysR w wr xs.length (xs.take k)) (fun i _ => xs.length - (intOf i).toNat)
 case atStart => exact ⟨0, Nat.zero_le _, rfl, by simpa using fillR_start (e := 143) (R := waysR) (w0 := w) (n := xs.length) (cs := madeCells #[.slice none 0 0] xs.length) (by unfold maxLen; omega) (by simp [size_madeCells]; exact (Nat.mul_one _).symm)⟩
 case round =>
  obtain ⟨k, hk, rfl, f⟩ := hrel;by_cases g : k < xs.length
  ·have A : (k : Int) < (xs.length : Int) := by omega
   obtain ⟨x, l⟩ : ∃ x, xs[k]? = some x := ⟨_, List.getElem?_eq_getElem g⟩;obtain ⟨b, D, c, rfl, ⟨aj, cj, rfl, L, J, j⟩, d⟩ := slrd_at (slrd_next F.out (fill_below f)) l;have E := d 0 _ rfl;rw [show k * waysR.size + 0 = k from Nat.mul_one k] at E;have C : Hid _ := j;have K : Hid (waysM.bk x ≤ 1048576) := by unfold Hid; have := sumbk_ge waysM xs l; have := G.out; omega
   have H : Hid (∀ w1 v, MadeR waysR wr w1 [v] x → _) := fun w1 v hm => fillR_step (w1 := w1) (c := [v]) f (by simp; omega) g hm;have I : Hid (xs.take k ++ [x] = xs.take (k + 1)) := by unfold Hid; rw [List.take_add_one, l]; rfl
   clear l j d s f;go_wp2_with (go_at_call 203; refine (toWayS_rep _ x _ _ C.out K.out).mono ?_; rintro e w1 ⟨v, rfl, o⟩; obtain ⟨av, cv, rfl⟩ := slown_val o.1; obtain ⟨y, z, m⟩ := H.out _ _ o; obtain ⟨v0, q⟩ := y 0 (Nat.zero_lt_one); have B := z k; rw [show k * waysR.size + 0 = k from Nat.mul_one k] at q; rw [show k * waysR.size = k from Nat.mul_one k, I.out] at m; have O : Hid _ := m; clear m o y z)
   go_roundw
   case rel => exact ⟨k + 1, by omega, by go_num, O.out⟩
   case measure => simp [intOf]; omega
  ·have r : k = xs.length := by omega
   subst r;rw [List.take_length] at f;have N := fillR_end f rfl;clear f;go_wp2;go_ret
   exact ⟨_, rfl, N⟩
theorem own_cache {w : World} {S S1 S2 : Foot} {c : List (List (Int × Int × List Int)) × List Int} {u v : Value} (h1 : setsR.own w S1 [u] c.1) (h2 : intsR.own w S2 [v] c.2) (s1 : Sub S1 S) (s2 : Sub S2 S) (hd : Dis S1 S2) : cacheR.own w S [u, v] c :=
 ⟨[_], [_], S1, S2, rfl, h1, h2, s1, s2, hd⟩
theorem cache_own {w : World} {S : Foot} {cs : List Value} {c : List (List (Int × Int × List Int)) × List Int} (h : cacheR.own w S cs c) : ∃ u v a b, cs = [u, v] ∧ setsR.own w a [u] c.1 ∧ intsR.own w b [v] c.2 ∧ Sub a S ∧ Sub b S ∧ Dis a b := by
 obtain ⟨k, j, a, b, rfl, g, f, i, l, d⟩ := h;obtain ⟨u, rfl⟩ : ∃ u, k = [u] := List.length_eq_one_iff.1 (setsR.rd_len (setsR.own_rd g));obtain ⟨v, rfl⟩ : ∃ v, j = [v] := List.length_eq_one_iff.1 (intsR.rd_len (intsR.own_rd f));exact ⟨u, v, a, b, rfl, g, f, i, l, d⟩
theorem cells_froz2 {w : World} {g : Nat} {cs : Array Value} {t : TypeId} (h : w.heap[g]? = some (.cells cs t (0, 0))) : w.frozen? ⟨g, 0, none⟩ = false ∧ w.frozen? ⟨g, 1, none⟩ = false :=
 ⟨frozen_of_row w g 0 _ t h, frozen_of_row w g 1 _ t h⟩
theorem toCache_rep (a b : Option Addr) (c : List (List (Int × Int × List Int)) × List Int) (cap cp : Nat) (w : World) (h1 : SlRd waysR w a c.1) (h2 : SlRd intR w b c.2) (hm : cacheM.bk c ≤ 1048576) :
    Calls Tryz.prog 114 #[.agg #[.slice a c.1.length cap, .slice b c.2.length cp]] w fun e w' => ∃ i f r q, e = .returned (.agg #[.slice i c.1.length f, .slice r c.2.length q]) ∧ MadeR cacheR w w' [.slice i c.1.length f, .slice r c.2.length q] c := by
 have H : cacheM.bk c = setsM.bk c.1 + intsM.bk c.2 := rfl;have M : Hid (∀ W, Below w.heap.size w W → SlRd waysR W a c.1) := fun W hb => slrd_keep h1 fun k hk => hb.block k hk;have N : Hid (∀ W, Below w.heap.size w W → SlRd intR W b c.2) := fun W hb => slrd_keep h2 fun k hk => hb.block k hk;have B : Hid (setsM.bk c.1 ≤ 1048576) := by unfold Hid; omega
 have y : Hid (intsM.bk c.2 ≤ 1048576) := by unfold Hid; omega
 clear h1 h2 H hm;go_enter Tryz.func114, Tryz.ntmps114;go_wp2_with fail
 have D : Below w.heap.size w (((w.alloc (.cells #[.slice a c.1.length cap, .slice b c.2.length cp] 101)).alloc (.cells #[.slice none 0 0, .slice none 0 0] 92)).alloc (.cells #[.slice none 0 0, .slice none 0 0] 92)) := (((Below.refl _ w).alloc (Nat.le_refl _) _).alloc (by simp) _).alloc (by simp; omega) _;have z := heap_on (.cells #[.slice none 0 0, .slice none 0 0] 92) (heap_on (.cells #[.slice none 0 0, .slice none 0 0] 92) (heap_at w (.cells #[.slice a c.1.length cap, .slice b c.2.length cp] 101)));have m := heap_on (.cells #[.slice none 0 0, .slice none 0 0] 92) (heap_at (w.alloc (.cells #[.slice a c.1.length cap, .slice b c.2.length cp] 101)) (.cells #[.slice none 0 0, .slice none 0 0] 92));have j := heap_at ((w.alloc (.cells #[.slice a c.1.length cap, .slice b c.2.length cp] 101)).alloc (.cells #[.slice none 0 0, .slice none 0 0] 92)) (.cells #[.slice none 0 0, .slice none 0 0] 92);have e3 : (((w.alloc (.cells #[.slice a c.1.length cap, .slice b c.2.length cp] 101)).alloc (.cells #[.slice none 0 0, .slice none 0 0] 92)).alloc (.cells #[.slice none 0 0, .slice none 0 0] 92)).heap.size = w.heap.size + 1 + 1 + 1 := by simp
 rw [alloc_len] at m;rw [alloc_len, alloc_len] at j;generalize ((w.alloc (.cells #[.slice a c.1.length cap, .slice b c.2.length cp] 101)).alloc (.cells #[.slice none 0 0, .slice none 0 0] 92)).alloc (.cells #[.slice none 0 0, .slice none 0 0] 92) = W0 at D z m j e3 ⊢;refine (toWaySS_rep _ c.1 _ _ (M.out _ D) B.out).mono ?_;rintro e p ⟨v, rfl, d⟩;obtain ⟨i, f, rfl⟩ := slown_val d.1;have X := d.2.size;have S := below_step D d.2;have A : Hid (setsR.own p (rng W0.heap.size p.heap.size) [.slice i c.1.length f] c.1) := d.1;replace z := row_keep d.2 z;replace m := row_keep d.2 m;replace j := row_keep d.2 j;obtain ⟨Z, p1⟩ := cell_two z;obtain ⟨R, O⟩ := cell_two j;obtain ⟨L, K⟩ := cells_froz2 j;have E : Hid _ := And.intro m j;clear z m j d M B;go_wp2_with fail
 obtain ⟨m, j⟩ := E.out;have C := below_setC (g := w.heap.size + 1 + 1) (o := 0) (v := .slice i c.1.length f) S (by omega);have n := heap_setCell_same p (w.heap.size + 1 + 1) 0 _ _ (.slice i c.1.length f) j;have l := heap_setC (g := w.heap.size + 1 + 1) (o := 0) (v := .slice i c.1.length f) m (by omega);have s := own_setC (g := w.heap.size + 1 + 1) (o := 0) (v := .slice i c.1.length f) A.out (fun h => by have := h.1; omega);have I : (p.setCell ⟨w.heap.size + 1 + 1, 0, none⟩ (.slice i c.1.length f)).heap.size = p.heap.size := by simp
 clear m j E A L K R O D S Z p1;generalize p.setCell ⟨w.heap.size + 1 + 1, 0, none⟩ (.slice i c.1.length f) = w2 at C l n s I ⊢;refine (toInt64S_rep _ c.2 _ _ (N.out _ C) y.out).mono ?_;rintro e F ⟨v, rfl, d⟩;obtain ⟨r, q, rfl⟩ := slown_val d.1;have U := d.2.size;have V := below_step C d.2;have G : Hid (setsR.own F (rng W0.heap.size p.heap.size) [.slice i c.1.length f] c.1) := own_stay s d.2 (by omega);have J : Hid (intsR.own F (rng w2.heap.size F.heap.size) [.slice r c.2.length q] c.2) := d.1;replace l := row_keep d.2 l;replace n := row_keep d.2 n;obtain ⟨R, O⟩ := cell_two n;obtain ⟨L, K⟩ := cells_froz2 n;obtain ⟨z0, z1⟩ := cell_two l;obtain ⟨g0, g1⟩ := cells_froz2 l;have E : Hid _ := And.intro l n;clear l n d N y s C;go_wp2;obtain ⟨l, n⟩ := E.out;have V1 := put2 (a := .slice i c.1.length f) (b := .slice r c.2.length q) (heap_setC (g := w.heap.size + 1 + 1) (o := 1) (v := .slice r c.2.length q) l (by omega));obtain ⟨T, Y⟩ := cell_two V1;refine bodyPost_ret (v := .agg #[.slice i c.1.length f, .slice r c.2.length q]) (by simp [results, Tryz.results114, go_sem, T, Y]) rfl ⟨i, f, r, q, rfl, own_cache (S1 := rng W0.heap.size p.heap.size) (S2 := rng w2.heap.size F.heap.size) ?_ ?_ (rng_sub (by omega) (by simp; omega)) (rng_sub (by omega) (by simp)) (rng_dis (.inl (by omega))), ?_⟩
 ·exact own_setC (own_setC (own_setC G.out (fun h => by have := h.1; omega)) (fun h => by have := h.1; omega)) (fun h => by have := h.1; omega)
 ·exact own_setC (own_setC (own_setC J.out (fun h => by have := h.1; omega)) (fun h => by have := h.1; omega)) (fun h => by have := h.1; omega)
 ·exact below_setC (below_setC (below_setC V (by omega)) (by omega)) (by omega)
theorem eqWay_rep (l s : Int) (d : List Int) (a1 a2 : Option Addr) (c1 c2 : Nat) (w : World) (h1 : SlRd intR w a1 d) (h2 : SlRd intR w a2 d) (hm : intsM.bk d ≤ 1152921504606846976) :
    Calls Tryz.prog 136 #[.agg #[.int .i64 l, .int .i64 s, .slice a1 d.length c1], .agg #[.int .i64 l, .int .i64 s, .slice a2 d.length c2]] w fun e b => e = .returned (.bool true) ∧ Below w.heap.size w b := by
 have a : Hid (∀ o o', Below w.heap.size w ((w.alloc o).alloc o')) := fun o o' => below_step (box_below w o) (box_below _ o');have f : Hid (∀ W, Below w.heap.size w W → SlRd intR W a1 d) := fun W hb => slrd_keep h1 fun k hk => hb.block k hk;have c : Hid (∀ W, Below w.heap.size w W → SlRd intR W a2 d) := fun W hb => slrd_keep h2 fun k hk => hb.block k hk;clear h1 h2;go_enter Tryz.func136, Tryz.ntmps136;go_wp2_with fail
 refine (eqInt64S_rep a1 a2 d c1 c2 _ (f.out _ (a.out _ _)) (c.out _ (a.out _ _)) hm).mono ?_;rintro e b ⟨rfl, n, rfl⟩;go_wp2;go_ret
 exact ⟨rfl, be_drewN (a.out _ _) n⟩
theorem eqWayS_rep (a1 a2 : Option Addr) (xs : List (Int × Int × List Int)) (c1 c2 : Nat) (w : World) (h1 : SlRd wayR w a1 xs) (h2 : SlRd wayR w a2 xs) (hm : (slM wayM).bk xs ≤ 1152921504606846976) :
    Calls Tryz.prog 238 #[.slice a1 xs.length c1, .slice a2 xs.length c2] w fun e w' => e = .returned (.bool true) ∧ Below w.heap.size w w' := by
 have M : (slM wayM).bk xs = xs.length + sumbk wayM xs := rfl;have bA : xs.length ≤ 1152921504606846976 := by omega
 have V : Hid (sumbk wayM xs ≤ 1152921504606846976) := by unfold Hid; omega
 have U : Hid (∀ W, Below w.heap.size w W → SlRd wayR W a1 xs) := fun W hb => slrd_keep h1 fun k K => hb.block k K;have X : Hid (∀ W, Below w.heap.size w W → SlRd wayR W a2 xs) := fun W hb => slrd_keep h2 fun k K => hb.block k K;clear M hm h1 h2;go_enter Tryz.func238, Tryz.ntmps238;go_wp2;go_loopw [5] (fun i wr => ∃ k : Nat, k ≤ xs.length ∧ i = .int .i64 k ∧ Below w.heap.size w wr) (fun i _ => xs.length - (intOf i).toNat)
 case atStart => exact ⟨0, Nat.zero_le _, rfl, Below.refl _ _⟩
 case round =>
  obtain ⟨k, K, rfl, r⟩ := hrel;by_cases L : k < xs.length
  ·have T : (k : Int) < (xs.length : Int) := by omega
   obtain ⟨x, J⟩ : ∃ x, xs[k]? = some x := ⟨_, List.getElem?_eq_getElem L⟩;have Z : Hid ((wayM).bk x ≤ 1152921504606846976) := by unfold Hid; have := sumbk_ge wayM xs J; have := V.out; omega
   obtain ⟨R, a, aA, rfl, q, c⟩ := slrd_at (U.out _ r) J;obtain ⟨G, v, rfl, -, -, -, -, I⟩ := way_rd q;have f := c 0 _ rfl;have g := c 1 _ rfl;have j := c 2 _ rfl;rw [show a + (k * wayR.size + 0) = a + k * 3 from rfl] at f;rw [show a + (k * wayR.size + 1) = a + k * 3 + 1 from rfl] at g;rw [show a + (k * wayR.size + 2) = a + k * 3 + 2 from rfl] at j;have N : Hid (∀ n : Cls (fun wx => Below wr.heap.size wr wx), SlRd intR n.w G x.2.2) := fun n => slrd_next I n.h;clear c q I;obtain ⟨s, b, Y, rfl, p, d⟩ := slrd_at (X.out _ r) J;obtain ⟨B, E, rfl, -, -, -, -, D⟩ := way_rd p;have l := d 0 _ rfl;have o := d 1 _ rfl;have m := d 2 _ rfl;rw [show b + (k * wayR.size + 0) = b + k * 3 from rfl] at l;rw [show b + (k * wayR.size + 1) = b + k * 3 + 1 from rfl] at o;rw [show b + (k * wayR.size + 2) = b + k * 3 + 2 from rfl] at m;have S : Hid (∀ n : Cls (fun wx => Below wr.heap.size wr wx), SlRd intR n.w B x.2.2) := fun n => slrd_next D n.h;clear d p D;have C : ∀ n : Cls (fun wx => Below wr.heap.size wr wx), n.w.cell? ⟨R, a + k * 3, none⟩ = some (.int .i64 x.1) := fun n => cell_kp n.h f (cell_l f);have z : ∀ n : Cls (fun wx => Below wr.heap.size wr wx), n.w.cell? ⟨R, a + k * 3 + 1, none⟩ = some (.int .i64 x.2.1) := fun n => cell_kp n.h g (cell_l g);have y : ∀ n : Cls (fun wx => Below wr.heap.size wr wx), n.w.cell? ⟨R, a + k * 3 + 2, none⟩ = some (.slice G x.2.2.length v) := fun n => cell_kp n.h j (cell_l j);have H : ∀ n : Cls (fun wx => Below wr.heap.size wr wx), n.w.cell? ⟨s, b + k * 3, none⟩ = some (.int .i64 x.1) := fun n => cell_kp n.h l (cell_l l);have F : ∀ n : Cls (fun wx => Below wr.heap.size wr wx), n.w.cell? ⟨s, b + k * 3 + 1, none⟩ = some (.int .i64 x.2.1) := fun n => cell_kp n.h o (cell_l o);have A : ∀ n : Cls (fun wx => Below wr.heap.size wr wx), n.w.cell? ⟨s, b + k * 3 + 2, none⟩ = some (.slice B x.2.2.length E) := fun n => cell_kp n.h m (cell_l m);clear J f g j l o m;go_wp2_with fail
   refine region_class (fun wx => Below wr.heap.size wr wx) (by kernel_rfl) (by kernel_rfl) ((Below.refl _ wr).drew) ?_;intro O;repeat (quiet_step ((go_at_call 136; exact calls_class (eqWay_rep x.1 x.2.1 x.2.2 _ _ _ _ _ (N.out _) (S.out _) (by have := Z.out; rw [bk_way] at this; exact this)) (fun w' hc bb => below_step hc bb))))
   refine wpQuiet_nil ?_;intro wx s;replace r := below_step r s;clear s O C z y H F A;go_wp2;go_roundw
   case rel => exact ⟨k + 1, by omega, by go_num, r⟩
   case measure => simp [intOf]; omega
  ·go_wp2;go_ret
   exact ⟨rfl, r⟩
theorem eqWaySS_rep (a1 a2 : Option Addr) (xs : List (List (Int × Int × List Int))) (c1 c2 : Nat) (w : World) (h1 : SlRd waysR w a1 xs) (h2 : SlRd waysR w a2 xs) (hm : (slM waysM).bk xs ≤ 1152921504606846976) :
    Calls Tryz.prog 198 #[.slice a1 xs.length c1, .slice a2 xs.length c2] w fun e w' => e = .returned (.bool true) ∧ Below w.heap.size w w' := by
 have B : (slM waysM).bk xs = xs.length + sumbk waysM xs := rfl;have O : xs.length ≤ 1152921504606846976 := by omega
 have I : Hid (sumbk waysM xs ≤ 1152921504606846976) := by unfold Hid; omega
 have H : Hid (∀ W, Below w.heap.size w W → SlRd waysR W a1 xs) := fun W hb => slrd_keep h1 fun k y => hb.block k y;have J : Hid (∀ W, Below w.heap.size w W → SlRd waysR W a2 xs) := fun W hb => slrd_keep h2 fun k y => hb.block k y;clear B hm h1 h2;go_enter Tryz.func198, Tryz.ntmps198;go_wp2;go_loopw [5] (fun i wr => ∃ k : Nat, k ≤ xs.length ∧ i = .int .i64 k ∧ Below w.heap.size w wr) (fun i _ => xs.length - (intOf i).toNat)
 case atStart => exact ⟨0, Nat.zero_le _, rfl, Below.refl _ _⟩
 case round =>
  obtain ⟨k, y, rfl, f⟩ := hrel;by_cases z : k < xs.length
  ·have G : (k : Int) < (xs.length : Int) := by omega
   obtain ⟨x, v⟩ : ∃ x, xs[k]? = some x := ⟨_, List.getElem?_eq_getElem z⟩;have L : Hid ((waysM).bk x ≤ 1152921504606846976) := by unfold Hid; have := sumbk_ge waysM xs v; have := I.out; omega
   obtain ⟨K, g, N, rfl, ⟨m, F, rfl, -, -, r⟩, a⟩ := slrd_at (H.out _ f) v;have c := a 0 _ rfl;rw [show k * waysR.size + 0 = k from Nat.mul_one k] at c;have C : Hid (∀ n : Cls (fun wx => Below wr.heap.size wr wx), SlRd wayR n.w m x) := fun n => slrd_next r n.h;clear a r;obtain ⟨s, o, M, rfl, ⟨p, A, rfl, -, -, l⟩, b⟩ := slrd_at (J.out _ f) v;have d := b 0 _ rfl;rw [show k * waysR.size + 0 = k from Nat.mul_one k] at d;have E : Hid (∀ n : Cls (fun wx => Below wr.heap.size wr wx), SlRd wayR n.w p x) := fun n => slrd_next l n.h;clear b l;have j : ∀ n : Cls (fun wx => Below wr.heap.size wr wx), n.w.cell? ⟨K, g + k, none⟩ = some (.slice m x.length F) := fun n => cell_kp n.h c (cell_l c);have q : ∀ n : Cls (fun wx => Below wr.heap.size wr wx), n.w.cell? ⟨s, o + k, none⟩ = some (.slice p x.length A) := fun n => cell_kp n.h d (cell_l d);clear v c d;go_wp2_with fail
   refine region_class (fun wx => Below wr.heap.size wr wx) (by kernel_rfl) (by kernel_rfl) ((Below.refl _ wr).drew) ?_;intro D;repeat (quiet_step ((go_at_call 238; exact calls_class (eqWayS_rep _ _ x _ _ _ (C.out _) (E.out _) L.out) (fun w' hc bb => below_step hc bb))))
   refine wpQuiet_nil ?_;intro wx s;replace f := below_step f s;clear s D j q;go_wp2;go_roundw
   case rel => exact ⟨k + 1, by omega, by go_num, f⟩
   case measure => simp [intOf]; omega
  ·go_wp2;go_ret
   exact ⟨rfl, f⟩
theorem eqCache_rep (c : List (List (Int × Int × List Int)) × List Int) (a1 b1 a2 b2 : Option Addr) (c1 d1 c2 d2 : Nat) (w : World) (h1 : SlRd waysR w a1 c.1) (k1 : SlRd intR w b1 c.2) (h2 : SlRd waysR w a2 c.1) (k2 : SlRd intR w b2 c.2) (hm : cacheM.bk c ≤ 1152921504606846976) :
    Calls Tryz.prog 134 #[.agg #[.slice a1 c.1.length c1, .slice b1 c.2.length d1], .agg #[.slice a2 c.1.length c2, .slice b2 c.2.length d2]] w fun e w' => e = .returned (.bool true) ∧ Below w.heap.size w w' := by
 have g : cacheM.bk c = setsM.bk c.1 + intsM.bk c.2 := rfl;have j : Hid (setsM.bk c.1 ≤ 1152921504606846976) := by unfold Hid; omega
 have i : Hid (intsM.bk c.2 ≤ 1152921504606846976) := by unfold Hid; omega
 have f : Hid (∀ W, Below w.heap.size w W → SlRd waysR W a1 c.1 ∧ SlRd waysR W a2 c.1 ∧ SlRd intR W b1 c.2 ∧ SlRd intR W b2 c.2) := fun W hb => ⟨slrd_keep h1 fun k hk => hb.block k hk, slrd_keep h2 fun k hk => hb.block k hk, slrd_keep k1 fun k hk => hb.block k hk, slrd_keep k2 fun k hk => hb.block k hk⟩;clear h1 h2 k1 k2 g hm;have l := heap_on (.cells #[.slice a2 c.1.length c2, .slice b2 c.2.length d2] 92) (heap_at w (.cells #[.slice a1 c.1.length c1, .slice b1 c.2.length d1] 92));have d := heap_at (w.alloc (.cells #[.slice a1 c.1.length c1, .slice b1 c.2.length d1] 92)) (.cells #[.slice a2 c.1.length c2, .slice b2 c.2.length d2] 92);have b := below_step (box_below w (.cells #[.slice a1 c.1.length c1, .slice b1 c.2.length d1] 92)) (box_below _ (.cells #[.slice a2 c.1.length c2, .slice b2 c.2.length d2] 92));rw [alloc_len] at d;go_enter Tryz.func134, Tryz.ntmps134;go_wp2_with fail
 generalize (w.alloc (.cells #[.slice a1 c.1.length c1, .slice b1 c.2.length d1] 92)).alloc (.cells #[.slice a2 c.1.length c2, .slice b2 c.2.length d2] 92) = W0 at l d b ⊢;refine (eqWaySS_rep a1 a2 c.1 c1 c2 _ (f.out _ b).1 (f.out _ b).2.1 j.out).mono ?_;rintro e w1 ⟨rfl, a⟩;replace b := below_step b a;obtain ⟨o, p⟩ := cell_two (row_keep a l);obtain ⟨q, r⟩ := cell_two (row_keep a d);clear a l d;go_wp2_with fail
 refine (eqInt64S_rep b1 b2 c.2 d1 d2 _ (f.out _ b).2.2.1 (f.out _ b).2.2.2 i.out).mono ?_;rintro e w2 ⟨rfl, n, rfl⟩;have m := be_drewN b n;clear o p q r;go_wp2;go_ret
 exact ⟨rfl, m⟩
end Go.Proofs.YtcocbafhcpdheaaGreatDoor
