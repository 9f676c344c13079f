import Derived.Test.YtglejdilghcbaaaGreatDoorP00Box
import Derived.Test.YtglejdilghcbaaaGreatDoorP16
namespace Go.Proofs.YtglejdilghcbaaaGreatDoor
set_option maxHeartbeats 2000000
open Go.ChangeShapes Go.WideShapes Go.ChangeAt Go.RowKit
set_option linter.unusedVariables false
theorem msg_shape {w : World} {cs : List Value} {x : MsgD} (h : msgR.rd w cs x) : ∃ (ga : Option Addr) (gc : Nat), cs = [nI x.1, nI x.2.1, nI x.2.2.1, nI x.2.2.2.1, nI x.2.2.2.2.1, sL ga x.2.2.2.2.2.1.length gc, nI x.2.2.2.2.2.2] := by
 obtain ⟨a, b, e, -⟩ := msg_rd h;exact ⟨a, b, e⟩
abbrev DescD := Bool × Int × Int × List Int
abbrev descR : Rep DescD := prodR boolR (prodR intR (prodR intR intsR))
abbrev descM : Mk DescD := prodM boolM (prodM intM (prodM intM intsM))
abbrev descsR : Rep (List DescD) := slR 73 descR
abbrev descsM : Mk (List DescD) := slM descM
theorem opens_desc : Opens Tryz.prog 141 descR :=
 opens_struct Tryz.underlying141 (by kernel_rfl) (opensF_cons rfl (by kernel_rfl) (opens_bool Tryz.underlying4) (opensF_cons rfl (by kernel_rfl) opens_i64 (opensF_cons rfl (by kernel_rfl) opens_i64 (opensF_one rfl (by kernel_rfl) opens_ints))))
theorem opens_descs : Opens Tryz.prog 29 descsR := opens_slice Tryz.underlying29 (by kernel_rfl) (by decide) opens_desc
theorem desc_rd {w : World} {cs : List Value} {u : DescD} (h : descR.rd w cs u) :
    ∃ a b, cs = [.bool u.1, nI u.2.1, nI u.2.2.1, sL a u.2.2.2.length b] ∧ In64 u.2.1 ∧ In64 u.2.2.1 ∧ u.2.2.2.length ≤ b ∧ b ≤ maxLen ∧ SlRd intR w a u.2.2.2 := by
 obtain ⟨c0, e0, rfl, rfl, c1, e1, rfl, ⟨rfl, c⟩, c2, e2, rfl, ⟨rfl, i⟩, ⟨a, b, rfl, f, g, d⟩⟩ := h;exact ⟨a, b, rfl, c, i, f, g, d⟩
theorem own_desc {w : World} {S : Foot} {f1 f2 : Int} {f0 : Bool} {d : List Int} {v : Value} (i1 : In64 f1) (i2 : In64 f2) (h : intsR.own w S [v] d) : descR.own w S [.bool f0, nI f1, nI f2, v] (f0, f1, f2, d) :=
 ⟨[_], [_, _, _], fun _ => False, S, rfl, rfl, ⟨[_], [_, _], fun _ => False, S, rfl, ⟨rfl, i1⟩, ⟨[_], [_], fun _ => False, S, rfl, ⟨rfl, i2⟩, h, fun _ h => h.elim, Sub.refl _, fun _ h _ => h⟩, fun _ h => h.elim, Sub.refl _, fun _ h _ => h⟩, fun _ h => h.elim, Sub.refl _, fun _ h _ => h⟩
theorem bk_desc (u : DescD) : descM.bk u = intsM.bk u.2.2.2 := by
 show 0 + (0 + (0 + (intsM.bk u.2.2.2))) = _
 omega
theorem cells_4 {w : World} {g : Nat} {x0 x1 x2 x3 : Value} {t : TypeId} (h : w.heap[g]? = some (.cells #[x0, x1, x2, x3] t (0, 0))) :
    w.cell? ⟨g, 0, none⟩ = some x0 ∧ w.cell? ⟨g, 1, none⟩ = some x1 ∧ w.cell? ⟨g, 2, none⟩ = some x2 ∧ w.cell? ⟨g, 3, none⟩ = some x3 :=
 ⟨by rw [cell_of_row w g 0 _ t (0, 0) h]; rfl, by rw [cell_of_row w g 1 _ t (0, 0) h]; rfl, by rw [cell_of_row w g 2 _ t (0, 0) h]; rfl, by rw [cell_of_row w g 3 _ t (0, 0) h]; rfl⟩
theorem froz_4 {w : World} {g : Nat} {cs : Array Value} {t : TypeId} (h : w.heap[g]? = some (.cells cs t (0, 0))) : w.frozen? ⟨g, 0, none⟩ = false ∧ w.frozen? ⟨g, 1, none⟩ = false ∧ w.frozen? ⟨g, 2, none⟩ = false ∧ w.frozen? ⟨g, 3, none⟩ = false :=
 ⟨frozen_of_row w g 0 _ t h, frozen_of_row w g 1 _ t h, frozen_of_row w g 2 _ t h, frozen_of_row w g 3 _ t h⟩
theorem put_4 {w : World} {g : Nat} {x0 y0 x1 y1 x2 y2 x3 y3 : Value} {t : TypeId} (h : w.heap[g]? = some (.cells #[x0, x1, x2, x3] t (0, 0))) :
    ((((w.setCell ⟨g, 0, none⟩ y0).setCell ⟨g, 1, none⟩ y1).setCell ⟨g, 2, none⟩ y2).setCell ⟨g, 3, none⟩ y3).heap[g]? = some (.cells #[y0, y1, y2, y3] t (0, 0)) := by
 have a : (w.setCell ⟨g, 0, none⟩ y0).heap[g]? = some (.cells #[y0, x1, x2, x3] t (0, 0)) := heap_setCell_same _ g 0 _ t y0 h;have d : ((w.setCell ⟨g, 0, none⟩ y0).setCell ⟨g, 1, none⟩ y1).heap[g]? = some (.cells #[y0, y1, x2, x3] t (0, 0)) := heap_setCell_same _ g 1 _ t y1 a;have b : (((w.setCell ⟨g, 0, none⟩ y0).setCell ⟨g, 1, none⟩ y1).setCell ⟨g, 2, none⟩ y2).heap[g]? = some (.cells #[y0, y1, y2, x3] t (0, 0)) := heap_setCell_same _ g 2 _ t y2 d;have c : ((((w.setCell ⟨g, 0, none⟩ y0).setCell ⟨g, 1, none⟩ y1).setCell ⟨g, 2, none⟩ y2).setCell ⟨g, 3, none⟩ y3).heap[g]? = some (.cells #[y0, y1, y2, y3] t (0, 0)) := heap_setCell_same _ g 3 _ t y3 b;exact c
theorem szDesc_rep (f1 f2 : Int) (f0 : Bool) (d : List Int) (a : Option Addr) (cap : Nat) (left : Int) (w : World) (h0 : 0 ≤ left) (h1 : left ≤ 1048576) (hm : d.length ≤ maxLen) :
    Calls Tryz.prog 73 #[.agg #[.bool f0, nI f1, nI f2, sL a d.length cap], nI left] w fun e b => e = .returned (nI (szI (descM.bk (f0, f1, f2, d)) left)) ∧ Bl w b := by
 rw [bk_desc];show Calls Tryz.prog 73 _ w fun e b => e = .returned (nI (szI (intsM.bk d) left)) ∧ Bl w b
 by_cases f : (intsM.bk d : Int) ≤ left
 ·have c : Hid (szI (intsM.bk d) left = _) := szI_yes f;have g : ¬ (left - (intsM.bk d : Int) < 0) := by omega
  go_enter Tryz.func73, Tryz.ntmps73;go_wp2_with (go_at_call 68; refine (szInt64S_rep _ d _ _ _ h0 h1 hm).mono ?_; rintro e b ⟨rfl, rfl⟩; rw [c.out])
  go_ret
  exact ⟨ret_int c.out.symm, box_below w _⟩
 ·have c : Hid (szI (intsM.bk d) left = _) := szI_no f;go_enter Tryz.func73, Tryz.ntmps73;go_wp2_with (go_at_call 68; refine (szInt64S_rep _ d _ _ _ h0 h1 hm).mono ?_; rintro e b ⟨rfl, rfl⟩; rw [c.out])
  go_ret
  exact ⟨ret_int c.out.symm, box_below w _⟩
theorem szDescS_rep (a : Option Addr) (xs : List DescD) (cap : Nat) (left : Int) (w : World) (h : SlRd descR w a xs) (h0 : 0 ≤ left) (h1 : left ≤ 1048576) (hm : xs.length ≤ maxLen) :
    Calls Tryz.prog 34 #[sL a xs.length cap, nI left] w fun e p => e = .returned (nI (szI ((slM descM).bk xs) left)) ∧ Bl w p := by
 have S : xs.length ≤ 9223372036854775807 := hm;have j : (slM descM).bk xs = xs.length + sumbk descM xs := rfl;clear hm;by_cases hl : (xs.length : Int) ≤ left
 ·have v : ¬ (left - (xs.length : Int) < 0) := by omega
  have H : Hid _ := j;have V : Hid (SlRd descR w a xs) := h;clear j h;go_enter Tryz.func34, Tryz.ntmps34;go_wp2;go_loopw [1, 5] (fun q i wr => ∃ k : Nat, k ≤ xs.length ∧ i = nI k ∧ (sumbk descM (xs.take k) : Int) + xs.length ≤ left ∧ q = nI (left - (xs.length : Int) - sumbk descM (xs.take k)) ∧ Bl w wr) (fun _ i _ => xs.length - (intOf i).toNat)
  case atStart => exact ⟨0, Nat.zero_le _, rfl, by simp [sumbk]; omega, by simp [sumbk], Below.refl _ _⟩
  case round =>
   obtain ⟨k, I, rfl, F, rfl, f⟩ := hrel;by_cases s : k < xs.length
   ·have D : (k : Int) < (xs.length : Int) := by omega
    obtain ⟨x, o⟩ : ∃ x, xs[k]? = some x := ⟨_, List.getElem?_eq_getElem s⟩;have G := slrd_keep V.out fun k I => f.block k I;obtain ⟨b, d, cs, rfl, g, c⟩ := slrd_at G o;obtain ⟨ad, O, rfl, -, -, n, l, C⟩ := desc_rd g;have R := c 0 _ rfl;have L := c 1 _ rfl;have U := c 2 _ rfl;have K := c 3 _ rfl;rw [show d + (k * descR.size + 0) = d + k * 4 from rfl] at R;rw [show d + (k * descR.size + 1) = d + k * 4 + 1 from rfl] at L;rw [show d + (k * descR.size + 2) = d + k * 4 + 2 from rfl] at U;rw [show d + (k * descR.size + 3) = d + k * 4 + 3 from rfl] at K;have J : Hid (x.2.2.2.length ≤ maxLen) := Nat.le_trans n l;clear c g n l C;have B : Hid _ := sumbk_step (M := descM) o;have r := sumbk_get (M := descM) o;clear o G;generalize sumbk descM (xs.take k) = T at F B r ⊢;by_cases E : (((descM).bk x : Nat) : Int) ≤ left - (xs.length : Int) - (T : Int)
    ·have N : ¬ (left - (xs.length : Int) - (T : Int) - (((descM).bk x : Nat) : Int) < 0) := by omega
     have A : Hid (szI ((descM).bk x) (left - (xs.length : Int) - (T : Int)) = _) := szI_yes E;go_wp2_with (go_at_call 73; refine (szDesc_rep x.2.1 x.2.2.1 x.1 x.2.2.2 _ _ _ _ (by omega) (by omega) J.out).mono ?_; rintro e p ⟨rfl, m⟩; replace f := below_step f m; clear m; rw [A.out])
     go_roundw
     case rel => exact ⟨k + 1, by omega, by go_num, by have := B.out; omega, by rw [B.out]; go_num, f⟩
     case measure => simp [intOf]; omega
    ·have A : Hid (szI ((descM).bk x) (left - (xs.length : Int) - (T : Int)) = _) := szI_no E;have z : Hid (szI ((slM descM).bk xs) left = -1) := by unfold Hid; rw [H.out]; exact szI_no (by omega)
     go_wp2_with (go_at_call 73; refine (szDesc_rep x.2.1 x.2.2.1 x.1 x.2.2.2 _ _ _ _ (by omega) (by omega) J.out).mono ?_; rintro e p ⟨rfl, m⟩; replace f := below_step f m; clear m; rw [A.out])
     go_ret
     exact ⟨ret_int z.out.symm, f⟩
   ·have y : k = xs.length := by omega
    subst y;rw [List.take_length] at F ⊢;have z : Hid (szI ((slM descM).bk xs) left = left - (xs.length : Int) - (sumbk descM xs : Int)) := by unfold Hid; rw [H.out, szI_yes (by omega)]; omega
    go_wp2;go_ret
    exact ⟨ret_int z.out.symm, f⟩
 ·have v : left - (xs.length : Int) < 0 := by omega
  rw [szI_no (by omega)];clear j h;go_enter Tryz.func34, Tryz.ntmps34;go_wp2;go_ret
  exact ⟨rfl, Below.refl _ _⟩
theorem toDesc_rep (f1 f2 : Int) (f0 : Bool) (d : List Int) (a : Option Addr) (cap : Nat) (w : World) (i1 : In64 f1) (i2 : In64 f2) (h : SlRd intR w a d) (hm : intsM.bk d ≤ 1048576) :
    Calls Tryz.prog 92 #[.agg #[.bool f0, nI f1, nI f2, sL a d.length cap]] w fun e w' => ∃ j l, e = .returned (.agg #[.bool f0, nI f1, nI f2, sL j d.length l]) ∧ MadeR descR w w' [.bool f0, nI f1, nI f2, sL j d.length l] (f0, f1, f2, d) := by
 have H : Hid (∀ W, Bl w W → SlRd intR W a d) := fun W hb => slrd_keep h fun k hk => hb.block k hk;clear h;go_enter Tryz.func92, Tryz.ntmps92;go_wp2_with fail
 have p : Bl w (((w.alloc (.cells #[.bool f0, nI f1, nI f2, sL a d.length cap] 141)).alloc (.cells #[.bool false, nI 0, nI 0, sL none 0 0] 73)).alloc (.cells #[.bool f0, nI f1, nI f2, sL none 0 0] 73)) := (((Below.refl _ w).alloc (Nat.le_refl _) _).alloc (by simp) _).alloc (by simp; omega) _;have b := heap_on (.cells #[.bool f0, nI f1, nI f2, sL none 0 0] 73) (heap_at (w.alloc (.cells #[.bool f0, nI f1, nI f2, sL a d.length cap] 141)) (.cells #[.bool false, nI 0, nI 0, sL none 0 0] 73));have c := heap_at ((w.alloc (.cells #[.bool f0, nI f1, nI f2, sL a d.length cap] 141)).alloc (.cells #[.bool false, nI 0, nI 0, sL none 0 0] 73)) (.cells #[.bool f0, nI f1, nI f2, sL none 0 0] 73);have F : (((w.alloc (.cells #[.bool f0, nI f1, nI f2, sL a d.length cap] 141)).alloc (.cells #[.bool false, nI 0, nI 0, sL none 0 0] 73)).alloc (.cells #[.bool f0, nI f1, nI f2, sL none 0 0] 73)).heap.size = w.heap.size + 1 + 1 + 1 := by simp
 have m := heap_on (.cells #[.bool f0, nI f1, nI f2, sL none 0 0] 73) (heap_on (.cells #[.bool false, nI 0, nI 0, sL none 0 0] 73) (heap_at w (.cells #[.bool f0, nI f1, nI f2, sL a d.length cap] 141)));rw [alloc_len] at b;rw [alloc_len, alloc_len] at c;generalize ((w.alloc (.cells #[.bool f0, nI f1, nI f2, sL a d.length cap] 141)).alloc (.cells #[.bool false, nI 0, nI 0, sL none 0 0] 73)).alloc (.cells #[.bool f0, nI f1, nI f2, sL none 0 0] 73) = W0 at p m b c F ⊢;refine (toInt64S_rep _ d _ _ (H.out _ p) hm).mono ?_;rintro e w1 ⟨v, rfl, n⟩;obtain ⟨j, l, rfl⟩ := slown_val n.1;have f := n.2;have i := n.1;have G := below_step p f;replace m := row_keep f m;replace b := row_keep f b;replace c := row_keep f c;obtain ⟨q0, q1, q2, q3⟩ := cells_4 m;obtain ⟨y0, y1, y2, y3⟩ := cells_4 c;obtain ⟨r, D, A, B⟩ := froz_4 c;obtain ⟨z0, z1, z2, z3⟩ := cells_4 b;obtain ⟨g0, g1, g2, g3⟩ := froz_4 b;have I : Hid _ := aI b c;have y : Hid _ := i;clear m b c i n H;go_wp2;obtain ⟨b, c⟩ := I.out;have E := put_4 (y0 := .bool f0) (y1 := nI f1) (y2 := nI f2) (y3 := sL j d.length l) (heap_setC (g := w.heap.size + 1 + 1) (o := 3) (v := sL j d.length l) b (by omega));obtain ⟨C, z, q, s⟩ := cells_4 E;refine bodyPost_ret (v := .agg #[.bool f0, nI f1, nI f2, sL j d.length l]) (by simp [results, Tryz.results92, go_sem, C, z, q, s]) rfl ⟨j, l, rfl, own_desc i1 i2 ?_, ?_⟩
 ·refine intsR.own_mono (own_setC (own_setC (own_setC (own_setC (own_setC (y.out) (fun h => by have := h.1; omega)) (fun h => by have := h.1; omega)) (fun h => by have := h.1; omega)) (fun h => by have := h.1; omega)) (fun h => by have := h.1; omega)) ?_;exact rng_sub (by omega) (by simp)
 ·exact below_setC (below_setC (below_setC (below_setC (below_setC (G) (by omega)) (by omega)) (by omega)) (by omega)) (by omega)
theorem Tryz.infoDesc : (Tryz.prog.info? 73).map (fun i => (i.zero, i.size, i.bytes)) = some (some (.agg #[.bool false, nI 0, nI 0, sL none 0 0]), 4, 48) := by kernel_rfl
theorem toDescS_rep (a : Option Addr) (xs : List DescD) (cap : Nat) (w : World) (h : SlRd descR w a xs) (hm : descsM.bk xs ≤ 1048576) :
    Calls Tryz.prog 50 #[sL a xs.length cap] w fun e w' => ∃ v, e = .returned v ∧ MadeR descsR w w' [v] xs := by
 have z : descsM.bk xs = xs.length + sumbk descM xs := rfl;have T : xs.length ≤ 1048576 := by omega
 have Z : Hid (sumbk descM xs ≤ 1048576) := by unfold Hid; omega
 have H0 : Hid (SlRd descR w a xs) := h;clear z hm h;have y := run_make_wide (P := Tryz.prog) 43 73 (.agg #[.bool false, nI 0, nI 0, sL none 0 0]) 4 48 Tryz.underlying43 Tryz.infoDesc xs.length (by omega) (by omega);go_enter Tryz.func50, Tryz.ntmps50;go_wp2;go_loopw [4] (fun i wr => ∃ k : Nat, k ≤ xs.length ∧ i = nI k ∧ Fill 73 descR w wr xs.length (xs.take k)) (fun i _ => xs.length - (intOf i).toNat)
 case atStart => exact ⟨0, Nat.zero_le _, rfl, by simpa using fillR_start (e := 73) (R := descR) (w0 := w) (n := xs.length) (cs := madeCells #[.bool false, nI 0, nI 0, sL none 0 0] (xs.length * 4)) (by unfold maxLen; omega) (by rw [size_madeCells]; rfl)⟩
 case round =>
  obtain ⟨k, hk, rfl, j⟩ := hrel;by_cases l : k < xs.length
  ·have J : (k : Int) < (xs.length : Int) := by omega
   obtain ⟨x, q⟩ : ∃ x, xs[k]? = some x := ⟨_, List.getElem?_eq_getElem l⟩;obtain ⟨b, f, cs, rfl, g, d⟩ := slrd_at (slrd_next H0.out (fill_below j)) q;obtain ⟨X, V, rfl, G, N, C, r, p⟩ := desc_rd g;have M := d 0 _ rfl;have I := d 1 _ rfl;have O := d 2 _ rfl;have H := d 3 _ rfl;rw [show f + (k * descR.size + 0) = f + k * 4 from rfl] at M;rw [show f + (k * descR.size + 1) = f + k * 4 + 1 from rfl] at I;rw [show f + (k * descR.size + 2) = f + k * 4 + 2 from rfl] at O;rw [show f + (k * descR.size + 3) = f + k * 4 + 3 from rfl] at H;have HX : Hid (intsM.bk x.2.2.2 ≤ 1048576) := by unfold Hid; have := sumbk_ge descM xs q; rw [bk_desc] at this; have := Z.out; omega
   have HR : Hid (SlRd intR wr X x.2.2.2) := p;have S : Hid _ := aI G N;have L : Hid (∀ w1 c, MadeR descR wr w1 c x → _) := fun w1 c hm => fillR_step (w1 := w1) (c := c) j (by simp; omega) l hm;have HP : Hid (xs.take k ++ [x] = xs.take (k + 1)) := by unfold Hid; rw [List.take_add_one, q]; rfl
   clear q g d y j C r p G N;go_wp2_with fail
   refine (toDesc_rep x.2.1 x.2.2.1 x.1 x.2.2.2 _ _ _ S.out.1 S.out.2 HR.out HX.out).mono ?_;rintro e w1 ⟨av, cv, rfl, K⟩;obtain ⟨m, o, A⟩ := L.out _ _ K;obtain ⟨v0, F⟩ := m 0 (by decide);obtain ⟨v1, E⟩ := m 1 (by decide);obtain ⟨v2, B⟩ := m 2 (by decide);obtain ⟨v3, s⟩ := m 3 (by decide);have z0 := o (k * 4);have z1 := o (k * 4 + 1);have z2 := o (k * 4 + 2);have z3 := o (k * 4 + 3);rw [show k * descR.size + 0 = k * 4 from rfl] at F;rw [show k * descR.size + 1 = k * 4 + 1 from rfl] at E;rw [show k * descR.size + 2 = k * 4 + 2 from rfl] at B;rw [show k * descR.size + 3 = k * 4 + 3 from rfl] at s;rw [HP.out] at A;have Y : Hid _ := A;clear A K m o L M I O H;go_wp2;go_roundw
   case rel => exact ⟨k + 1, by omega, by go_num, Y.out⟩
   case measure => simp [intOf]; omega
  ·have D : k = xs.length := by omega
   subst D;rw [List.take_length] at j;have U := fillR_end j rfl;clear j;go_wp2;go_ret
   exact ⟨_, rfl, U⟩
theorem eqDesc_rep (f1 f2 : Int) (f0 : Bool) (d : List Int) (a1 a2 : Option Addr) (c1 c2 : Nat) (w : World) (h1 : SlRd intR w a1 d) (h2 : SlRd intR w a2 d) (hm : intsM.bk d ≤ 1152921504606846976) :
    Calls Tryz.prog 121 #[.agg #[.bool f0, nI f1, nI f2, sL a1 d.length c1], .agg #[.bool f0, nI f1, nI f2, sL a2 d.length c2]] w fun e b => e = .returned (.bool true) ∧ Bl w b := by
 have a : Hid (∀ o o', Bl w ((w.alloc o).alloc o')) := fun o o' => below_step (box_below w o) (box_below _ o');have c : Hid (∀ W, Bl w W → SlRd intR W a1 d) := fun W hb => slrd_keep h1 fun k hk => hb.block k hk;have f : Hid (∀ W, Bl w W → SlRd intR W a2 d) := fun W hb => slrd_keep h2 fun k hk => hb.block k hk;clear h1 h2;go_enter Tryz.func121, Tryz.ntmps121;go_wp2_with fail
 refine (eqInt64S_rep a1 a2 d c1 c2 _ (c.out _ (a.out _ _)) (f.out _ (a.out _ _)) hm).mono ?_;rintro e b ⟨rfl, n, rfl⟩;go_wp2;go_ret
 exact ⟨rfl, be_drewN (a.out _ _) n⟩
theorem eqDescS_rep (a1 a2 : Option Addr) (xs : List DescD) (c1 c2 : Nat) (w : World) (h1 : SlRd descR w a1 xs) (h2 : SlRd descR w a2 xs) (hm : (slM descM).bk xs ≤ 1152921504606846976) :
    Calls Tryz.prog 65 #[sL a1 xs.length c1, sL a2 xs.length c2] w fun e w' => e = .returned (.bool true) ∧ Bl w w' := by
 have S : (slM descM).bk xs = xs.length + sumbk descM xs := rfl;have Z : xs.length ≤ 1152921504606846976 := by omega
 have HB : Hid (sumbk descM xs ≤ 1152921504606846976) := by unfold Hid; omega
 have H1 : Hid (∀ W, Bl w W → SlRd descR W a1 xs) := fun W hb => slrd_keep h1 fun k R => hb.block k R;have H2 : Hid (∀ W, Bl w W → SlRd descR W a2 xs) := fun W hb => slrd_keep h2 fun k R => hb.block k R;clear S hm h1 h2;go_enter Tryz.func65, Tryz.ntmps65;go_wp2;go_loopw [5] (fun i wr => ∃ k : Nat, k ≤ xs.length ∧ i = nI k ∧ Bl w wr) (fun i _ => xs.length - (intOf i).toNat)
 case atStart => exact ⟨0, Nat.zero_le _, rfl, Below.refl _ _⟩
 case round =>
  obtain ⟨k, R, rfl, y⟩ := hrel;by_cases T : k < xs.length
  ·have Y : (k : Int) < (xs.length : Int) := by omega
   obtain ⟨x, O⟩ : ∃ x, xs[k]? = some x := ⟨_, List.getElem?_eq_getElem T⟩;have HX : Hid ((descM).bk x ≤ 1152921504606846976) := by unfold Hid; have := sumbk_ge descM xs O; have := HB.out; omega
   obtain ⟨N, a, eA, rfl, s, c⟩ := slrd_at (H1.out _ y) O;obtain ⟨A, F, rfl, -, -, -, -, J⟩ := desc_rd s;have j := c 0 _ rfl;have f := c 1 _ rfl;have q := c 2 _ rfl;have l := c 3 _ rfl;rw [show a + (k * descR.size + 0) = a + k * 4 from rfl] at j;rw [show a + (k * descR.size + 1) = a + k * 4 + 1 from rfl] at f;rw [show a + (k * descR.size + 2) = a + k * 4 + 2 from rfl] at q;rw [show a + (k * descR.size + 3) = a + k * 4 + 3 from rfl] at l;have X : Hid (∀ n : Cls (fun wx => Bl wr wx), SlRd intR n.w A x.2.2.2) := fun n => slrd_next J n.h;clear c s J;obtain ⟨v, b, bA, rfl, r, d⟩ := slrd_at (H2.out _ y) O;obtain ⟨M, E, rfl, -, -, -, -, z⟩ := desc_rd r;have o := d 0 _ rfl;have m := d 1 _ rfl;have p := d 2 _ rfl;have g := d 3 _ rfl;rw [show b + (k * descR.size + 0) = b + k * 4 from rfl] at o;rw [show b + (k * descR.size + 1) = b + k * 4 + 1 from rfl] at m;rw [show b + (k * descR.size + 2) = b + k * 4 + 2 from rfl] at p;rw [show b + (k * descR.size + 3) = b + k * 4 + 3 from rfl] at g;have V : Hid (∀ n : Cls (fun wx => Bl wr wx), SlRd intR n.w M x.2.2.2) := fun n => slrd_next z n.h;clear d r z;have C : ∀ n : Cls (fun wx => Bl wr wx), n.w.cell? ⟨N, a + k * 4, none⟩ = some (.bool x.1) := fun n => cell_keep n.h j (cell_lt j);have D : ∀ n : Cls (fun wx => Bl wr wx), n.w.cell? ⟨N, a + k * 4 + 1, none⟩ = some (nI x.2.1) := fun n => cell_keep n.h f (cell_lt f);have L : ∀ n : Cls (fun wx => Bl wr wx), n.w.cell? ⟨N, a + k * 4 + 2, none⟩ = some (nI x.2.2.1) := fun n => cell_keep n.h q (cell_lt q);have K : ∀ n : Cls (fun wx => Bl wr wx), n.w.cell? ⟨N, a + k * 4 + 3, none⟩ = some (sL A x.2.2.2.length F) := fun n => cell_keep n.h l (cell_lt l);have H : ∀ n : Cls (fun wx => Bl wr wx), n.w.cell? ⟨v, b + k * 4, none⟩ = some (.bool x.1) := fun n => cell_keep n.h o (cell_lt o);have G : ∀ n : Cls (fun wx => Bl wr wx), n.w.cell? ⟨v, b + k * 4 + 1, none⟩ = some (nI x.2.1) := fun n => cell_keep n.h m (cell_lt m);have I : ∀ n : Cls (fun wx => Bl wr wx), n.w.cell? ⟨v, b + k * 4 + 2, none⟩ = some (nI x.2.2.1) := fun n => cell_keep n.h p (cell_lt p);have B : ∀ n : Cls (fun wx => Bl wr wx), n.w.cell? ⟨v, b + k * 4 + 3, none⟩ = some (sL M x.2.2.2.length E) := fun n => cell_keep n.h g (cell_lt g);clear O j f q l o m p g;go_wp2_with fail
   refine region_class (fun wx => Bl wr wx) (by kernel_rfl) (by kernel_rfl) ((Below.refl _ wr).drew) ?_;intro U;repeat (quiet_step ((go_at_call 121; exact calls_class (eqDesc_rep x.2.1 x.2.2.1 x.1 x.2.2.2 _ _ _ _ _ (X.out _) (V.out _) (by have := HX.out; rw [bk_desc] at this; exact this)) (fun w' hc bb => below_step hc bb))))
   refine wpQuiet_nil ?_;intro wx v;replace y := below_step y v;clear v U C D L K H G I B;go_wp2;go_roundw
   case rel => exact ⟨k + 1, by omega, by go_num, y⟩
   case measure => simp [intOf]; omega
  ·go_wp2;go_ret
   exact ⟨rfl, y⟩
end Go.Proofs.YtglejdilghcbaaaGreatDoor
