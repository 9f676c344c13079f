import Derived.Test.YtdamokokcdcedaaGreatDoorE00Box
import Derived.Test.YtdamokokcdcedaaGreatDoorE11
namespace Go.Proofs.YtdamokokcdcedaaGreatDoor
set_option maxHeartbeats 2000000
open Go.ChangeShapes Go.WideShapes Go.ChangeAt Go.RowKit
set_option linter.unusedVariables false
theorem msg_shape {w : World} {cs : List Value} {x : MsgD} (h : msgR.rd w cs x) : ∃ (ga : Option Addr) (gc : Nat), cs = [nI x.1, nI x.2.1, nI x.2.2.1, nI x.2.2.2.1, nI x.2.2.2.2.1, sL ga x.2.2.2.2.2.1.length gc, nI x.2.2.2.2.2.2] := by
 obtain ⟨a, b, e, -⟩ := msg_rd h;exact ⟨a, b, e⟩
abbrev DescD := Bool × Int × Int × List Int
abbrev descR : Rep DescD := prodR boolR (prodR intR (prodR intR intsR))
abbrev descM : Mk DescD := prodM boolM (prodM intM (prodM intM intsM))
abbrev descsR : Rep (List DescD) := slR 187 descR
abbrev descsM : Mk (List DescD) := slM descM
theorem opens_desc : Opens Tryz.prog 184 descR :=
 opens_struct Tryz.underlying184 (by kernel_rfl) (opensF_cons rfl (by kernel_rfl) (opens_bool Tryz.underlying4) (opensF_cons rfl (by kernel_rfl) opens_i64 (opensF_cons rfl (by kernel_rfl) opens_i64 (opensF_one rfl (by kernel_rfl) opens_ints))))
theorem opens_descs : Opens Tryz.prog 29 descsR := opens_slice Tryz.underlying29 (by kernel_rfl) (by decide) opens_desc
theorem desc_rd {w : World} {cs : List Value} {u : DescD} (h : descR.rd w cs u) :
    ∃ a b, cs = [.bool u.1, nI u.2.1, nI u.2.2.1, sL a u.2.2.2.length b] ∧ In64 u.2.1 ∧ In64 u.2.2.1 ∧ u.2.2.2.length ≤ b ∧ b ≤ maxLen ∧ SlRd intR w a u.2.2.2 := by
 obtain ⟨c0, e0, rfl, rfl, c1, e1, rfl, ⟨rfl, f⟩, c2, e2, rfl, ⟨rfl, c⟩, ⟨a, b, rfl, i, g, d⟩⟩ := h;exact ⟨a, b, rfl, f, c, i, g, d⟩
theorem own_desc {w : World} {S : Foot} {f1 f2 : Int} {f0 : Bool} {d : List Int} {v : Value} (i1 : In64 f1) (i2 : In64 f2) (h : intsR.own w S [v] d) : descR.own w S [.bool f0, nI f1, nI f2, v] (f0, f1, f2, d) :=
 ⟨[_], [_, _, _], fun _ => False, S, rfl, rfl, ⟨[_], [_, _], fun _ => False, S, rfl, ⟨rfl, i1⟩, ⟨[_], [_], fun _ => False, S, rfl, ⟨rfl, i2⟩, h, fun _ h => h.elim, Sub.refl _, fun _ h _ => h⟩, fun _ h => h.elim, Sub.refl _, fun _ h _ => h⟩, fun _ h => h.elim, Sub.refl _, fun _ h _ => h⟩
theorem bk_desc (u : DescD) : descM.bk u = intsM.bk u.2.2.2 := by
 show 0 + (0 + (0 + (intsM.bk u.2.2.2))) = _
 omega
theorem cells_4 {w : World} {g : Nat} {x0 x1 x2 x3 : Value} {t : TypeId} (h : w.heap[g]? = some (.cells #[x0, x1, x2, x3] t (0, 0))) :
    w.cell? ⟨g, 0, none⟩ = some x0 ∧ w.cell? ⟨g, 1, none⟩ = some x1 ∧ w.cell? ⟨g, 2, none⟩ = some x2 ∧ w.cell? ⟨g, 3, none⟩ = some x3 :=
 ⟨by rw [cell_of_row w g 0 _ t (0, 0) h]; rfl, by rw [cell_of_row w g 1 _ t (0, 0) h]; rfl, by rw [cell_of_row w g 2 _ t (0, 0) h]; rfl, by rw [cell_of_row w g 3 _ t (0, 0) h]; rfl⟩
theorem froz_4 {w : World} {g : Nat} {cs : Array Value} {t : TypeId} (h : w.heap[g]? = some (.cells cs t (0, 0))) : w.frozen? ⟨g, 0, none⟩ = false ∧ w.frozen? ⟨g, 1, none⟩ = false ∧ w.frozen? ⟨g, 2, none⟩ = false ∧ w.frozen? ⟨g, 3, none⟩ = false :=
 ⟨frozen_of_row w g 0 _ t h, frozen_of_row w g 1 _ t h, frozen_of_row w g 2 _ t h, frozen_of_row w g 3 _ t h⟩
theorem put_4 {w : World} {g : Nat} {x0 y0 x1 y1 x2 y2 x3 y3 : Value} {t : TypeId} (h : w.heap[g]? = some (.cells #[x0, x1, x2, x3] t (0, 0))) :
    ((((w.setCell ⟨g, 0, none⟩ y0).setCell ⟨g, 1, none⟩ y1).setCell ⟨g, 2, none⟩ y2).setCell ⟨g, 3, none⟩ y3).heap[g]? = some (.cells #[y0, y1, y2, y3] t (0, 0)) := by
 have c : (w.setCell ⟨g, 0, none⟩ y0).heap[g]? = some (.cells #[y0, x1, x2, x3] t (0, 0)) := heap_setCell_same _ g 0 _ t y0 h;have d : ((w.setCell ⟨g, 0, none⟩ y0).setCell ⟨g, 1, none⟩ y1).heap[g]? = some (.cells #[y0, y1, x2, x3] t (0, 0)) := heap_setCell_same _ g 1 _ t y1 c;have a : (((w.setCell ⟨g, 0, none⟩ y0).setCell ⟨g, 1, none⟩ y1).setCell ⟨g, 2, none⟩ y2).heap[g]? = some (.cells #[y0, y1, y2, x3] t (0, 0)) := heap_setCell_same _ g 2 _ t y2 d;have b : ((((w.setCell ⟨g, 0, none⟩ y0).setCell ⟨g, 1, none⟩ y1).setCell ⟨g, 2, none⟩ y2).setCell ⟨g, 3, none⟩ y3).heap[g]? = some (.cells #[y0, y1, y2, y3] t (0, 0)) := heap_setCell_same _ g 3 _ t y3 a;exact b
theorem szDesc_rep (f1 f2 : Int) (f0 : Bool) (d : List Int) (a : Option Addr) (cap : Nat) (left : Int) (w : World) (h0 : 0 ≤ left) (h1 : left ≤ 1048576) (hm : d.length ≤ maxLen) :
    Calls Tryz.prog 125 #[.agg #[.bool f0, nI f1, nI f2, sL a d.length cap], nI left] w fun e c => e = .returned (nI (szI (descM.bk (f0, f1, f2, d)) left)) ∧ Bl w c := by
 rw [bk_desc];show Calls Tryz.prog 125 _ w fun e c => e = .returned (nI (szI (intsM.bk d) left)) ∧ Bl w c
 by_cases f : (intsM.bk d : Int) ≤ left
 ·have b : Hid (szI (intsM.bk d) left = _) := szI_yes f;have g : ¬ (left - (intsM.bk d : Int) < 0) := by omega
  go_enter Tryz.func125, Tryz.ntmps125;go_wp2_with (go_at_call 120; refine (szInt64S_rep _ d _ _ _ h0 h1 hm).mono ?_; rintro e c ⟨rfl, rfl⟩; rw [b.out])
  go_ret
  exact ⟨ret_int b.out.symm, box_below w _⟩
 ·have b : Hid (szI (intsM.bk d) left = _) := szI_no f;go_enter Tryz.func125, Tryz.ntmps125;go_wp2_with (go_at_call 120; refine (szInt64S_rep _ d _ _ _ h0 h1 hm).mono ?_; rintro e c ⟨rfl, rfl⟩; rw [b.out])
  go_ret
  exact ⟨ret_int b.out.symm, box_below w _⟩
theorem szDescS_rep (a : Option Addr) (xs : List DescD) (cap : Nat) (left : Int) (w : World) (h : SlRd descR w a xs) (h0 : 0 ≤ left) (h1 : left ≤ 1048576) (hm : xs.length ≤ maxLen) :
    Calls Tryz.prog 63 #[sL a xs.length cap, nI left] w fun e s => e = .returned (nI (szI ((slM descM).bk xs) left)) ∧ Bl w s := by
 have L : xs.length ≤ 9223372036854775807 := hm;have j : (slM descM).bk xs = xs.length + sumbk descM xs := rfl;clear hm;by_cases hl : (xs.length : Int) ≤ left
 ·have C : ¬ (left - (xs.length : Int) < 0) := by omega
  have I : Hid _ := j;have U : Hid (SlRd descR w a xs) := h;clear j h;go_enter Tryz.func63, Tryz.ntmps63;go_wp2;go_loopw [1, 5] (fun q i wr => ∃ k : Nat, k ≤ xs.length ∧ i = nI k ∧ (sumbk descM (xs.take k) : Int) + xs.length ≤ left ∧ q = nI (left - (xs.length : Int) - sumbk descM (xs.take k)) ∧ Bl w wr) (fun _ i _ => xs.length - (intOf i).toNat)
  case atStart => exact ⟨0, Nat.zero_le _, rfl, by simp [sumbk]; omega, by simp [sumbk], Below.refl _ _⟩
  case round =>
   obtain ⟨k, F, rfl, J, rfl, g⟩ := hrel;by_cases z : k < xs.length
   ·have G : (k : Int) < (xs.length : Int) := by omega
    obtain ⟨x, o⟩ : ∃ x, xs[k]? = some x := ⟨_, List.getElem?_eq_getElem z⟩;have E := slrd_keep U.out fun k F => g.block k F;obtain ⟨b, d, cs, rfl, f, c⟩ := slrd_at E o;obtain ⟨ad, O, rfl, -, -, l, m, y⟩ := desc_rd f;have V := c 0 _ rfl;have N := c 1 _ rfl;have S := c 2 _ rfl;have R := c 3 _ rfl;rw [show d + (k * descR.size + 0) = d + k * 4 from rfl] at V;rw [show d + (k * descR.size + 1) = d + k * 4 + 1 from rfl] at N;rw [show d + (k * descR.size + 2) = d + k * 4 + 2 from rfl] at S;rw [show d + (k * descR.size + 3) = d + k * 4 + 3 from rfl] at R;have D : Hid (x.2.2.2.length ≤ maxLen) := Nat.le_trans l m;clear c f l m y;have p : Hid _ := sumbk_step (M := descM) o;have v := sumbk_get (M := descM) o;clear o E;generalize sumbk descM (xs.take k) = T at J p v ⊢;by_cases H : (((descM).bk x : Nat) : Int) ≤ left - (xs.length : Int) - (T : Int)
    ·have K : ¬ (left - (xs.length : Int) - (T : Int) - (((descM).bk x : Nat) : Int) < 0) := by omega
     have A : Hid (szI ((descM).bk x) (left - (xs.length : Int) - (T : Int)) = _) := szI_yes H;go_wp2_with (go_at_call 125; refine (szDesc_rep x.2.1 x.2.2.1 x.1 x.2.2.2 _ _ _ _ (by omega) (by omega) D.out).mono ?_; rintro e s ⟨rfl, n⟩; replace g := below_step g n; clear n; rw [A.out])
     go_roundw
     case rel => exact ⟨k + 1, by omega, by go_num, by have := p.out; omega, by rw [p.out]; go_num, g⟩
     case measure => simp [intOf]; omega
    ·have A : Hid (szI ((descM).bk x) (left - (xs.length : Int) - (T : Int)) = _) := szI_no H;have B : Hid (szI ((slM descM).bk xs) left = -1) := by unfold Hid; rw [I.out]; exact szI_no (by omega)
     go_wp2_with (go_at_call 125; refine (szDesc_rep x.2.1 x.2.2.1 x.1 x.2.2.2 _ _ _ _ (by omega) (by omega) D.out).mono ?_; rintro e s ⟨rfl, n⟩; replace g := below_step g n; clear n; rw [A.out])
     go_ret
     exact ⟨ret_int B.out.symm, g⟩
   ·have r : k = xs.length := by omega
    subst r;rw [List.take_length] at J ⊢;have B : Hid (szI ((slM descM).bk xs) left = left - (xs.length : Int) - (sumbk descM xs : Int)) := by unfold Hid; rw [I.out, szI_yes (by omega)]; omega
    go_wp2;go_ret
    exact ⟨ret_int B.out.symm, g⟩
 ·have C : left - (xs.length : Int) < 0 := by omega
  rw [szI_no (by omega)];clear j h;go_enter Tryz.func63, Tryz.ntmps63;go_wp2;go_ret
  exact ⟨rfl, Below.refl _ _⟩
theorem toDesc_rep (f1 f2 : Int) (f0 : Bool) (d : List Int) (a : Option Addr) (cap : Nat) (w : World) (i1 : In64 f1) (i2 : In64 f2) (h : SlRd intR w a d) (hm : intsM.bk d ≤ 1048576) :
    Calls Tryz.prog 143 #[.agg #[.bool f0, nI f1, nI f2, sL a d.length cap]] w fun e w' => ∃ l j, e = .returned (.agg #[.bool f0, nI f1, nI f2, sL l d.length j]) ∧ MadeR descR w w' [.bool f0, nI f1, nI f2, sL l d.length j] (f0, f1, f2, d) := by
 have H : Hid (∀ W, Bl w W → SlRd intR W a d) := fun W hb => slrd_keep h fun k hk => hb.block k hk;clear h;go_enter Tryz.func143, Tryz.ntmps143;go_wp2_with fail
 have p : Bl w (((w.alloc (.cells #[.bool f0, nI f1, nI f2, sL a d.length cap] 184)).alloc (.cells #[.bool false, nI 0, nI 0, sL none 0 0] 187)).alloc (.cells #[.bool f0, nI f1, nI f2, sL none 0 0] 187)) := (((Below.refl _ w).alloc (Nat.le_refl _) _).alloc (by simp) _).alloc (by simp; omega) _;have b := heap_on (.cells #[.bool f0, nI f1, nI f2, sL none 0 0] 187) (heap_at (w.alloc (.cells #[.bool f0, nI f1, nI f2, sL a d.length cap] 184)) (.cells #[.bool false, nI 0, nI 0, sL none 0 0] 187));have f := heap_at ((w.alloc (.cells #[.bool f0, nI f1, nI f2, sL a d.length cap] 184)).alloc (.cells #[.bool false, nI 0, nI 0, sL none 0 0] 187)) (.cells #[.bool f0, nI f1, nI f2, sL none 0 0] 187);have I : (((w.alloc (.cells #[.bool f0, nI f1, nI f2, sL a d.length cap] 184)).alloc (.cells #[.bool false, nI 0, nI 0, sL none 0 0] 187)).alloc (.cells #[.bool f0, nI f1, nI f2, sL none 0 0] 187)).heap.size = w.heap.size + 1 + 1 + 1 := by simp
 have m := heap_on (.cells #[.bool f0, nI f1, nI f2, sL none 0 0] 187) (heap_on (.cells #[.bool false, nI 0, nI 0, sL none 0 0] 187) (heap_at w (.cells #[.bool f0, nI f1, nI f2, sL a d.length cap] 184)));rw [alloc_len] at b;rw [alloc_len, alloc_len] at f;generalize ((w.alloc (.cells #[.bool f0, nI f1, nI f2, sL a d.length cap] 184)).alloc (.cells #[.bool false, nI 0, nI 0, sL none 0 0] 187)).alloc (.cells #[.bool f0, nI f1, nI f2, sL none 0 0] 187) = W0 at p m b f I ⊢;refine (toInt64S_rep _ d _ _ (H.out _ p) hm).mono ?_;rintro e w1 ⟨v, rfl, n⟩;obtain ⟨l, j, rfl⟩ := slown_val n.1;have c := n.2;have i := n.1;have B := below_step p c;replace m := row_keep c m;replace b := row_keep c b;replace f := row_keep c f;obtain ⟨q0, q1, q2, q3⟩ := cells_4 m;obtain ⟨y0, y1, y2, y3⟩ := cells_4 f;obtain ⟨A, q, E, s⟩ := froz_4 f;obtain ⟨z0, z1, z2, z3⟩ := cells_4 b;obtain ⟨g0, g1, g2, g3⟩ := froz_4 b;have r : Hid _ := aI b f;have D : Hid _ := i;clear m b f i n H;go_wp2;obtain ⟨b, f⟩ := r.out;have C := put_4 (y0 := .bool f0) (y1 := nI f1) (y2 := nI f2) (y3 := sL l d.length j) (heap_setC (g := w.heap.size + 1 + 1) (o := 3) (v := sL l d.length j) b (by omega));obtain ⟨y, z, G, F⟩ := cells_4 C;refine bodyPost_ret (v := .agg #[.bool f0, nI f1, nI f2, sL l d.length j]) (by simp [results, Tryz.results143, go_sem, y, z, G, F]) rfl ⟨l, j, rfl, own_desc i1 i2 ?_, ?_⟩
 ·refine intsR.own_mono (own_setC (own_setC (own_setC (own_setC (own_setC (D.out) (fun h => by have := h.1; omega)) (fun h => by have := h.1; omega)) (fun h => by have := h.1; omega)) (fun h => by have := h.1; omega)) (fun h => by have := h.1; omega)) ?_;exact rng_sub (by omega) (by simp)
 ·exact below_setC (below_setC (below_setC (below_setC (below_setC (B) (by omega)) (by omega)) (by omega)) (by omega)) (by omega)
theorem Tryz.infoDesc : (Tryz.prog.info? 187).map (fun i => (i.zero, i.size, i.bytes)) = some (some (.agg #[.bool false, nI 0, nI 0, sL none 0 0]), 4, 48) := by kernel_rfl
theorem toDescS_rep (a : Option Addr) (xs : List DescD) (cap : Nat) (w : World) (h : SlRd descR w a xs) (hm : descsM.bk xs ≤ 1048576) :
    Calls Tryz.prog 80 #[sL a xs.length cap] w fun e w' => ∃ v, e = .returned v ∧ MadeR descsR w w' [v] xs := by
 have y : descsM.bk xs = xs.length + sumbk descM xs := rfl;have X : xs.length ≤ 1048576 := by omega
 have Z : Hid (sumbk descM xs ≤ 1048576) := by unfold Hid; omega
 have H0 : Hid (SlRd descR w a xs) := h;clear y hm h;have A := run_make_wide (P := Tryz.prog) 43 187 (.agg #[.bool false, nI 0, nI 0, sL none 0 0]) 4 48 Tryz.underlying43 Tryz.infoDesc xs.length (by omega) (by omega);go_enter Tryz.func80, Tryz.ntmps80;go_wp2;go_loopw [4] (fun i wr => ∃ k : Nat, k ≤ xs.length ∧ i = nI k ∧ Fill 187 descR w wr xs.length (xs.take k)) (fun i _ => xs.length - (intOf i).toNat)
 case atStart => exact ⟨0, Nat.zero_le _, rfl, by simpa using fillR_start (e := 187) (R := descR) (w0 := w) (n := xs.length) (cs := madeCells #[.bool false, nI 0, nI 0, sL none 0 0] (xs.length * 4)) (by unfold maxLen; omega) (by rw [size_madeCells]; rfl)⟩
 case round =>
  obtain ⟨k, hk, rfl, j⟩ := hrel;by_cases p : k < xs.length
  ·have H : (k : Int) < (xs.length : Int) := by omega
   obtain ⟨x, q⟩ : ∃ x, xs[k]? = some x := ⟨_, List.getElem?_eq_getElem p⟩;obtain ⟨b, f, cs, rfl, g, d⟩ := slrd_at (slrd_next H0.out (fill_below j)) q;obtain ⟨ad, aA, rfl, L, N, z, B, m⟩ := desc_rd g;have S := d 0 _ rfl;have J := d 1 _ rfl;have O := d 2 _ rfl;have M := d 3 _ rfl;rw [show f + (k * descR.size + 0) = f + k * 4 from rfl] at S;rw [show f + (k * descR.size + 1) = f + k * 4 + 1 from rfl] at J;rw [show f + (k * descR.size + 2) = f + k * 4 + 2 from rfl] at O;rw [show f + (k * descR.size + 3) = f + k * 4 + 3 from rfl] at M;have T : Hid (intsM.bk x.2.2.2 ≤ 1048576) := by unfold Hid; have := sumbk_ge descM xs q; rw [bk_desc] at this; have := Z.out; omega
   have V : Hid (SlRd intR wr ad x.2.2.2) := m;have K : Hid _ := aI L N;have G : Hid (∀ w1 c, MadeR descR wr w1 c x → _) := fun w1 c hm => fillR_step (w1 := w1) (c := c) j (by simp; omega) p hm;have U : Hid (xs.take k ++ [x] = xs.take (k + 1)) := by unfold Hid; rw [List.take_add_one, q]; rfl
   clear q g d A j z B m L N;go_wp2_with fail
   refine (toDesc_rep x.2.1 x.2.2.1 x.1 x.2.2.2 _ _ _ K.out.1 K.out.2 V.out T.out).mono ?_;rintro e w1 ⟨av, cv, rfl, I⟩;obtain ⟨l, o, C⟩ := G.out _ _ I;obtain ⟨v0, F⟩ := l 0 (by decide);obtain ⟨v1, D⟩ := l 1 (by decide);obtain ⟨v2, E⟩ := l 2 (by decide);obtain ⟨v3, s⟩ := l 3 (by decide);have z0 := o (k * 4);have z1 := o (k * 4 + 1);have z2 := o (k * 4 + 2);have z3 := o (k * 4 + 3);rw [show k * descR.size + 0 = k * 4 from rfl] at F;rw [show k * descR.size + 1 = k * 4 + 1 from rfl] at D;rw [show k * descR.size + 2 = k * 4 + 2 from rfl] at E;rw [show k * descR.size + 3 = k * 4 + 3 from rfl] at s;rw [U.out] at C;have HF : Hid _ := C;clear C I l o G S J O M;go_wp2;go_roundw
   case rel => exact ⟨k + 1, by omega, by go_num, HF.out⟩
   case measure => simp [intOf]; omega
  ·have r : k = xs.length := by omega
   subst r;rw [List.take_length] at j;have Y := fillR_end j rfl;clear j;go_wp2;go_ret
   exact ⟨_, rfl, Y⟩
theorem eqDesc_rep (f1 f2 : Int) (f0 : Bool) (d : List Int) (a1 a2 : Option Addr) (c1 c2 : Nat) (w : World) (h1 : SlRd intR w a1 d) (h2 : SlRd intR w a2 d) (hm : intsM.bk d ≤ 1152921504606846976) :
    Calls Tryz.prog 167 #[.agg #[.bool f0, nI f1, nI f2, sL a1 d.length c1], .agg #[.bool f0, nI f1, nI f2, sL a2 d.length c2]] w fun e b => e = .returned (.bool true) ∧ Bl w b := by
 have a : Hid (∀ o o', Bl w ((w.alloc o).alloc o')) := fun o o' => below_step (box_below w o) (box_below _ o');have c : Hid (∀ W, Bl w W → SlRd intR W a1 d) := fun W hb => slrd_keep h1 fun k hk => hb.block k hk;have f : Hid (∀ W, Bl w W → SlRd intR W a2 d) := fun W hb => slrd_keep h2 fun k hk => hb.block k hk;clear h1 h2;go_enter Tryz.func167, Tryz.ntmps167;go_wp2_with fail
 refine (eqInt64S_rep a1 a2 d c1 c2 _ (c.out _ (a.out _ _)) (f.out _ (a.out _ _)) hm).mono ?_;rintro e b ⟨rfl, n, rfl⟩;go_wp2;go_ret
 exact ⟨rfl, be_drewN (a.out _ _) n⟩
theorem eqDescS_rep (a1 a2 : Option Addr) (xs : List DescD) (c1 c2 : Nat) (w : World) (h1 : SlRd descR w a1 xs) (h2 : SlRd descR w a2 xs) (hm : (slM descM).bk xs ≤ 1152921504606846976) :
    Calls Tryz.prog 101 #[sL a1 xs.length c1, sL a2 xs.length c2] w fun e w' => e = .returned (.bool true) ∧ Bl w w' := by
 have T : (slM descM).bk xs = xs.length + sumbk descM xs := rfl;have dA : xs.length ≤ 1152921504606846976 := by omega
 have HB : Hid (sumbk descM xs ≤ 1152921504606846976) := by unfold Hid; omega
 have H1 : Hid (∀ W, Bl w W → SlRd descR W a1 xs) := fun W hb => slrd_keep h1 fun k N => hb.block k N;have H2 : Hid (∀ W, Bl w W → SlRd descR W a2 xs) := fun W hb => slrd_keep h2 fun k N => hb.block k N;clear T hm h1 h2;go_enter Tryz.func101, Tryz.ntmps101;go_wp2;go_loopw [5] (fun i wr => ∃ k : Nat, k ≤ xs.length ∧ i = nI k ∧ Bl w wr) (fun i _ => xs.length - (intOf i).toNat)
 case atStart => exact ⟨0, Nat.zero_le _, rfl, Below.refl _ _⟩
 case round =>
  obtain ⟨k, N, rfl, y⟩ := hrel;by_cases U : k < xs.length
  ·have Y : (k : Int) < (xs.length : Int) := by omega
   obtain ⟨x, R⟩ : ∃ x, xs[k]? = some x := ⟨_, List.getElem?_eq_getElem U⟩;have HX : Hid ((descM).bk x ≤ 1152921504606846976) := by unfold Hid; have := sumbk_ge descM xs R; have := HB.out; omega
   obtain ⟨O, b, cA, rfl, s, c⟩ := slrd_at (H1.out _ y) R;obtain ⟨z, D, rfl, -, -, -, -, C⟩ := desc_rd s;have l := c 0 _ rfl;have g := c 1 _ rfl;have m := c 2 _ rfl;have f := c 3 _ rfl;rw [show b + (k * descR.size + 0) = b + k * 4 from rfl] at l;rw [show b + (k * descR.size + 1) = b + k * 4 + 1 from rfl] at g;rw [show b + (k * descR.size + 2) = b + k * 4 + 2 from rfl] at m;rw [show b + (k * descR.size + 3) = b + k * 4 + 3 from rfl] at f;have S : Hid (∀ n : Cls (fun wx => Bl wr wx), SlRd intR n.w z x.2.2.2) := fun n => slrd_next C n.h;clear c s C;obtain ⟨v, a, Z, rfl, r, d⟩ := slrd_at (H2.out _ y) R;obtain ⟨K, B, rfl, -, -, -, -, G⟩ := desc_rd r;have j := d 0 _ rfl;have p := d 1 _ rfl;have q := d 2 _ rfl;have o := d 3 _ rfl;rw [show a + (k * descR.size + 0) = a + k * 4 from rfl] at j;rw [show a + (k * descR.size + 1) = a + k * 4 + 1 from rfl] at p;rw [show a + (k * descR.size + 2) = a + k * 4 + 2 from rfl] at q;rw [show a + (k * descR.size + 3) = a + k * 4 + 3 from rfl] at o;have X : Hid (∀ n : Cls (fun wx => Bl wr wx), SlRd intR n.w K x.2.2.2) := fun n => slrd_next G n.h;clear d r G;have F : ∀ n : Cls (fun wx => Bl wr wx), n.w.cell? ⟨O, b + k * 4, none⟩ = some (.bool x.1) := fun n => cell_keep n.h l (cell_lt l);have J : ∀ n : Cls (fun wx => Bl wr wx), n.w.cell? ⟨O, b + k * 4 + 1, none⟩ = some (nI x.2.1) := fun n => cell_keep n.h g (cell_lt g);have M : ∀ n : Cls (fun wx => Bl wr wx), n.w.cell? ⟨O, b + k * 4 + 2, none⟩ = some (nI x.2.2.1) := fun n => cell_keep n.h m (cell_lt m);have H : ∀ n : Cls (fun wx => Bl wr wx), n.w.cell? ⟨O, b + k * 4 + 3, none⟩ = some (sL z x.2.2.2.length D) := fun n => cell_keep n.h f (cell_lt f);have A : ∀ n : Cls (fun wx => Bl wr wx), n.w.cell? ⟨v, a + k * 4, none⟩ = some (.bool x.1) := fun n => cell_keep n.h j (cell_lt j);have L : ∀ n : Cls (fun wx => Bl wr wx), n.w.cell? ⟨v, a + k * 4 + 1, none⟩ = some (nI x.2.1) := fun n => cell_keep n.h p (cell_lt p);have I : ∀ n : Cls (fun wx => Bl wr wx), n.w.cell? ⟨v, a + k * 4 + 2, none⟩ = some (nI x.2.2.1) := fun n => cell_keep n.h q (cell_lt q);have E : ∀ n : Cls (fun wx => Bl wr wx), n.w.cell? ⟨v, a + k * 4 + 3, none⟩ = some (sL K x.2.2.2.length B) := fun n => cell_keep n.h o (cell_lt o);clear R l g m f j p q o;go_wp2_with fail
   refine region_class (fun wx => Bl wr wx) (by kernel_rfl) (by kernel_rfl) ((Below.refl _ wr).drew) ?_;intro V;repeat (quiet_step ((go_at_call 167; exact calls_class (eqDesc_rep x.2.1 x.2.2.1 x.1 x.2.2.2 _ _ _ _ _ (S.out _) (X.out _) (by have := HX.out; rw [bk_desc] at this; exact this)) (fun w' hc bb => below_step hc bb))))
   refine wpQuiet_nil ?_;intro wx v;replace y := below_step y v;clear v V F J M H A L I E;go_wp2;go_roundw
   case rel => exact ⟨k + 1, by omega, by go_num, y⟩
   case measure => simp [intOf]; omega
  ·go_wp2;go_ret
   exact ⟨rfl, y⟩
end Go.Proofs.YtdamokokcdcedaaGreatDoor
