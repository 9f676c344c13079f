import Derived.Test.YtmdhblhdfcocjaaGreatDoorP00Box
import Derived.Test.YtmdhblhdfcocjaaGreatDoorP08
namespace Go.Proofs.YtmdhblhdfcocjaaGreatDoor
set_option maxHeartbeats 1000000
open Go.ChangeShapes Go.WideShapes Go.ChangeAt Go.RowKit
set_option linter.unusedVariables false
theorem bk_way (u : Int × Int × List Int) : zBE.bk u = zBn.bk u.2.2 := by
 show 0 + (0 + zBn.bk u.2.2) = _
 omega
theorem zHC (a : Option Addr) (xs : List (Int × Int × List Int)) (cap : Nat) (left : Int) (w : World) (h : zBg zAR w a xs) (h0 : 0 ≤ left) (h1 : left ≤ 1048576) (hm : xs.length ≤ maxLen) :
    Calls Tryz.prog 80 #[sL a xs.length cap, nI left] w fun e y => e = .returned (nI (szI ((slM zBE).bk xs) left)) ∧ Bl w y := by
 have N : xs.length ≤ 9223372036854775807 := hm;have j : (slM zBE).bk xs = xs.length + zBz zBE xs := rfl;clear hm;by_cases hl : (xs.length : Int) ≤ left
 ·have r : ¬ (left - (xs.length : Int) < 0) := by omega
  have E : Hid _ := j;have U : Hid (zBg zAR w a xs) := h;clear j h;go_enter Tryz.func80, Tryz.ntmps80;go_wp2;go_loopw [1, 5] (fun q i wr => ∃ k : Nat, k ≤ xs.length ∧ i = nI k ∧ (zBz zBE (xs.take k) : Int) + xs.length ≤ left ∧ q = nI (left - (xs.length : Int) - zBz zBE (xs.take k)) ∧ Bl w wr) (fun _ i _ => xs.length - (intOf i).toNat)
  case atStart => exact ⟨0, Nat.zero_le _, rfl, by simp [zBz]; omega, by simp [zBz], Below.refl _ _⟩
  case round =>
   obtain ⟨k, G, rfl, H, rfl, f⟩ := hrel;by_cases C : k < xs.length
   ·have I : (k : Int) < (xs.length : Int) := by omega
    obtain ⟨x, p⟩ : ∃ x, xs[k]? = some x := ⟨_, List.getElem?_eq_getElem C⟩;have D := zA7 U.out fun k G => f.block k G;obtain ⟨b, d, cs, rfl, g, c⟩ := zBG D p;obtain ⟨K, V, rfl, -, -, n, m, l⟩ := zAK g;have R := c 0 _ rfl;have O := c 1 _ rfl;have S := c 2 _ rfl;rw [show d + (k * zAR.size + 0) = d + k * 3 from rfl] at R;rw [show d + (k * zAR.size + 1) = d + k * 3 + 1 from rfl] at O;rw [show d + (k * zAR.size + 2) = d + k * 3 + 2 from rfl] at S;have F : Hid (x.2.2.length ≤ maxLen) := Nat.le_trans n m;have HR : Hid (zBg zBC wr K x.2.2) := l;clear c g n m l;have z : Hid _ := zF6 (M := zBE) p;have B := zGw (M := zBE) p;clear p D;generalize zBz zBE (xs.take k) = T at H z B ⊢;by_cases J : (((zBE).bk x : Nat) : Int) ≤ left - (xs.length : Int) - (T : Int)
    ·have L : ¬ (left - (xs.length : Int) - (T : Int) - (((zBE).bk x : Nat) : Int) < 0) := by omega
     have A : Hid (szI ((zBE).bk x) (left - (xs.length : Int) - (T : Int)) = _) := zC2 J;go_wp2_with (go_at_call 20; refine (zG2 x.1 x.2.1 x.2.2 _ _ _ _ (by omega) (by omega) F.out).mono ?_; rintro e y ⟨rfl, o⟩; replace f := zAb f o; clear o; rw [A.out])
     go_roundw
     case rel => exact ⟨k + 1, by omega, by go_num, by have := z.out; omega, by rw [z.out]; go_num, f⟩
     case measure => simp [intOf]; omega
    ·have A : Hid (szI ((zBE).bk x) (left - (xs.length : Int) - (T : Int)) = _) := zCz J;have s : Hid (szI ((slM zBE).bk xs) left = -1) := by unfold Hid; rw [E.out]; exact zCz (by omega)
     go_wp2_with (go_at_call 20; refine (zG2 x.1 x.2.1 x.2.2 _ _ _ _ (by omega) (by omega) F.out).mono ?_; rintro e y ⟨rfl, o⟩; replace f := zAb f o; clear o; rw [A.out])
     go_ret
     exact ⟨zAV s.out.symm, f⟩
   ·have v : k = xs.length := by omega
    subst v;rw [List.take_length] at H ⊢;have s : Hid (szI ((slM zBE).bk xs) left = left - (xs.length : Int) - (zBz zBE xs : Int)) := by unfold Hid; rw [E.out, zC2 (by omega)]; omega
    go_wp2;go_ret
    exact ⟨zAV s.out.symm, f⟩
 ·have r : left - (xs.length : Int) < 0 := by omega
  rw [zCz (by omega)];clear j h;go_enter Tryz.func80, Tryz.ntmps80;go_wp2;go_ret
  exact ⟨rfl, Below.refl _ _⟩
theorem zKj (a : Option Addr) (xs : List (List (Int × Int × List Int))) (cap : Nat) (left : Int) (w : World) (h : zBg zBl w a xs) (h0 : 0 ≤ left) (h1 : left ≤ 1048576) (hm : xs.length ≤ maxLen) :
    Calls Tryz.prog 49 #[sL a xs.length cap, nI left] w fun e s => e = .returned (nI (szI ((slM zBr).bk xs) left)) ∧ Bl w s := by
 have L : xs.length ≤ 9223372036854775807 := hm;have f : (slM zBr).bk xs = xs.length + zBz zBr xs := rfl;clear hm;by_cases hl : (xs.length : Int) ≤ left
 ·have o : ¬ (left - (xs.length : Int) < 0) := by omega
  have C : Hid _ := f;have R : Hid (zBg zBl w a xs) := h;clear f h;go_enter Tryz.func49, Tryz.ntmps49;go_wp2;go_loopw [1, 5] (fun q i wr => ∃ k : Nat, k ≤ xs.length ∧ i = nI k ∧ (zBz zBr (xs.take k) : Int) + xs.length ≤ left ∧ q = nI (left - (xs.length : Int) - zBz zBr (xs.take k)) ∧ Bl w wr) (fun _ i _ => xs.length - (intOf i).toNat)
  case atStart => exact ⟨0, Nat.zero_le _, rfl, by simp [zBz]; omega, by simp [zBz], Below.refl _ _⟩
  case round =>
   obtain ⟨k, F, rfl, G, rfl, d⟩ := hrel;by_cases A : k < xs.length
   ·have H : (k : Int) < (xs.length : Int) := by omega
    obtain ⟨x, n⟩ : ∃ x, xs[k]? = some x := ⟨_, List.getElem?_eq_getElem A⟩;have B := zA7 R.out fun k F => d.block k F;obtain ⟨b, N, cs, rfl, ⟨J, cj, rfl, l, j, g⟩, c⟩ := zBG B n;have O := c 0 _ rfl;rw [show k * zBl.size + 0 = k from Nat.mul_one k] at O;have D : Hid (x.length ≤ maxLen) := Nat.le_trans l j;have E : Hid (zBg zAR wr J x) := g;clear c l j g;have v : Hid _ := zF6 (M := zBr) n;have z := zGw (M := zBr) n;clear n B;generalize zBz zBr (xs.take k) = T at G v z ⊢;by_cases I : (((zBr).bk x : Nat) : Int) ≤ left - (xs.length : Int) - (T : Int)
    ·have K : ¬ (left - (xs.length : Int) - (T : Int) - (((zBr).bk x : Nat) : Int) < 0) := by omega
     have y : Hid (szI ((zBr).bk x) (left - (xs.length : Int) - (T : Int)) = _) := zC2 I;go_wp2_with (go_at_call 80; refine (zHC _ x _ _ _ E.out (by omega) (by omega) D.out).mono ?_; rintro e s ⟨rfl, m⟩; replace d := zAb d m; clear m; rw [y.out])
     go_roundw
     case rel => exact ⟨k + 1, by omega, by go_num, by have := v.out; omega, by rw [v.out]; go_num, d⟩
     case measure => simp [intOf]; omega
    ·have y : Hid (szI ((zBr).bk x) (left - (xs.length : Int) - (T : Int)) = _) := zCz I;have p : Hid (szI ((slM zBr).bk xs) left = -1) := by unfold Hid; rw [C.out]; exact zCz (by omega)
     go_wp2_with (go_at_call 80; refine (zHC _ x _ _ _ E.out (by omega) (by omega) D.out).mono ?_; rintro e s ⟨rfl, m⟩; replace d := zAb d m; clear m; rw [y.out])
     go_ret
     exact ⟨zAV p.out.symm, d⟩
   ·have r : k = xs.length := by omega
    subst r;rw [List.take_length] at G ⊢;have p : Hid (szI ((slM zBr).bk xs) left = left - (xs.length : Int) - (zBz zBr xs : Int)) := by unfold Hid; rw [C.out, zC2 (by omega)]; omega
    go_wp2;go_ret
    exact ⟨zAV p.out.symm, d⟩
 ·have o : left - (xs.length : Int) < 0 := by omega
  rw [zCz (by omega)];clear f h;go_enter Tryz.func49, Tryz.ntmps49;go_wp2;go_ret
  exact ⟨rfl, Below.refl _ _⟩
theorem zKk (a b : Option Addr) (c : List (List (Int × Int × List Int)) × List Int) (cap cp : Nat) (left : Int) (w : World) (h : zBg zBl w a c.1) (h0 : 0 ≤ left) (h1 : left ≤ 1048576) (m1 : c.1.length ≤ maxLen) (m2 : c.2.length ≤ maxLen) :
    Calls Tryz.prog 18 #[.agg #[sL a c.1.length cap, sL b c.2.length cp], nI left] w fun e l => e = .returned (nI (szI (zAZ.bk c) left)) ∧ Bl w l := by
 have n : zAZ.bk c = zEU.bk c.1 + zBn.bk c.2 := rfl;rw [n];have X := heap_alloc_new w (.cells #[sL a c.1.length cap, sL b c.2.length cp] 25);have j := zAf w (.cells #[sL a c.1.length cap, sL b c.2.length cp] 25);have H : Hid (∀ o, zBg zBl (w.alloc o) a c.1) := fun o => zAG h (zAf w o);clear h n;generalize i : zEU.bk c.1 = n1;generalize g : zBn.bk c.2 = n2;have f := zKj a c.1 cap left (w.alloc (.cells #[sL a c.1.length cap, sL b c.2.length cp] 25)) (H.out _) h0 h1 m1;rw [i] at f;by_cases z : (n1 : Int) ≤ left
 ·rw [zC2 z] at f;have B : ¬ (left - (n1 : Int) < 0) := by omega
  have v : Hid (∀ W, Calls Tryz.prog 21 #[sL b c.2.length cp, nI (left - (n1 : Int))] W fun e l => e = .returned (nI (szI n2 (left - (n1 : Int)))) ∧ l = W) := fun W => by
   have := zCC b c.2 cp (left - (n1 : Int)) W (by omega) (by omega) m2;rwa [g] at this
  clear i g H m1 m2;by_cases m : (n2 : Int) ≤ left - (n1 : Int)
  ·have p : Hid (szI (n1 + n2) left = left - (n1 : Int) - (n2 : Int)) := by unfold Hid; rw [zC2 (by omega)]; omega
   have s : ¬ (left - (n1 : Int) - (n2 : Int) < 0) := by omega
   have q : Hid (szI n2 (left - (n1 : Int)) = left - (n1 : Int) - (n2 : Int)) := zC2 m;go_enter Tryz.func18, Tryz.ntmps18;go_wp2_with fail
   refine f.mono ?_;rintro e r ⟨rfl, d⟩;obtain ⟨y, A⟩ := zBb (zAa d X);have k := zAb j d;clear d X j f;go_wp2_with (go_at_call 21; refine (v.out _).mono ?_; rintro e l ⟨rfl, rfl⟩; rw [q.out])
   go_ret
   exact ⟨zAV p.out.symm, k⟩
  ·have p : Hid (szI (n1 + n2) left = -1) := by unfold Hid; exact zCz (by omega)
   have q : Hid (szI n2 (left - (n1 : Int)) = -1) := zCz m;go_enter Tryz.func18, Tryz.ntmps18;go_wp2_with fail
   refine f.mono ?_;rintro e r ⟨rfl, d⟩;obtain ⟨y, A⟩ := zBb (zAa d X);have k := zAb j d;clear d X j f;go_wp2_with (go_at_call 21; refine (v.out _).mono ?_; rintro e l ⟨rfl, rfl⟩; rw [q.out])
   go_ret
   exact ⟨zAV p.out.symm, k⟩
 ·rw [zCz z] at f;have p : Hid (szI (n1 + n2) left = -1) := by unfold Hid; exact zCz (by omega)
  clear i g H m1 m2;go_enter Tryz.func18, Tryz.ntmps18;go_wp2_with fail
  refine f.mono ?_;rintro e r ⟨rfl, d⟩;obtain ⟨y, A⟩ := zBb (zAa d X);have k := zAb j d;clear d X j f;go_wp2;go_ret
  exact ⟨zAV p.out.symm, k⟩
theorem zCl {w : World} {g : Nat} {x y z : Value} {t : TypeId} (h : w.heap[g]? = some (.cells #[x, y, z] t (0, 0))) :
    w.cell? ⟨g, 0, none⟩ = some x ∧ w.cell? ⟨g, 1, none⟩ = some y ∧ w.cell? ⟨g, 2, none⟩ = some z :=
 ⟨by rw [cell_of_row w g 0 _ t (0, 0) h]; rfl, by rw [cell_of_row w g 1 _ t (0, 0) h]; rfl, by rw [cell_of_row w g 2 _ t (0, 0) h]; rfl⟩
theorem zCx {w : World} {g : Nat} {cs : Array Value} {t : TypeId} (h : w.heap[g]? = some (.cells cs t (0, 0))) : w.frozen? ⟨g, 0, none⟩ = false ∧ w.frozen? ⟨g, 1, none⟩ = false ∧ w.frozen? ⟨g, 2, none⟩ = false :=
 ⟨frozen_of_row w g 0 _ t h, frozen_of_row w g 1 _ t h, frozen_of_row w g 2 _ t h⟩
theorem put3 {w : World} {g : Nat} {x y z a b c : Value} {t : TypeId} (h : w.heap[g]? = some (.cells #[x, y, z] t (0, 0))) :
    (((w.setCell ⟨g, 0, none⟩ a).setCell ⟨g, 1, none⟩ b).setCell ⟨g, 2, none⟩ c).heap[g]? = some (.cells #[a, b, c] t (0, 0)) := by
 have d := heap_setCell_same w g 0 _ t a h;have f := heap_setCell_same _ g 1 _ t b d;exact heap_setCell_same _ g 2 _ t c f
theorem put2 {w : World} {g : Nat} {x y a b : Value} {t : TypeId} (h : w.heap[g]? = some (.cells #[x, y] t (0, 0))) :
    ((w.setCell ⟨g, 0, none⟩ a).setCell ⟨g, 1, none⟩ b).heap[g]? = some (.cells #[a, b] t (0, 0)) := by
 have c := heap_setCell_same w g 0 _ t a h;exact heap_setCell_same _ g 1 _ t b c
theorem zJe (l s : Int) (d : List Int) (a : Option Addr) (cap : Nat) (w : World) (i1 : zBk l) (i2 : zBk s) (h : zBg zBC w a d) (hm : zBn.bk d ≤ 1048576) :
    Calls Tryz.prog 28 #[.agg #[nI l, nI s, sL a d.length cap]] w fun e w' => ∃ m p, e = .returned (.agg #[nI l, nI s, sL m d.length p]) ∧ zBa zAR w w' [nI l, nI s, sL m d.length p] (l, s, d) := by
 have H : Hid (∀ W, Bl w W → zBg zBC W a d) := fun W hb => zA7 h fun k hk => hb.block k hk;clear h;go_enter Tryz.func28, Tryz.ntmps28;go_wp2_with fail
 have r : Bl w (((w.alloc (.cells #[nI l, nI s, sL a d.length cap] 28)).alloc (.cells #[nI 0, nI 0, sL none 0 0] 39)).alloc (.cells #[nI l, nI s, sL none 0 0] 39)) := (((Below.refl _ w).alloc (Nat.le_refl _) _).alloc (by simp) _).alloc (by simp; omega) _;have f := zAJ (.cells #[nI l, nI s, sL none 0 0] 39) (zAy (w.alloc (.cells #[nI l, nI s, sL a d.length cap] 28)) (.cells #[nI 0, nI 0, sL none 0 0] 39));have i := zAy ((w.alloc (.cells #[nI l, nI s, sL a d.length cap] 28)).alloc (.cells #[nI 0, nI 0, sL none 0 0] 39)) (.cells #[nI l, nI s, sL none 0 0] 39);have y : (((w.alloc (.cells #[nI l, nI s, sL a d.length cap] 28)).alloc (.cells #[nI 0, nI 0, sL none 0 0] 39)).alloc (.cells #[nI l, nI s, sL none 0 0] 39)).heap.size = w.heap.size + 1 + 1 + 1 := by simp
 rw [zAp] at f;rw [zAp, zAp] at i;generalize ((w.alloc (.cells #[nI l, nI s, sL a d.length cap] 28)).alloc (.cells #[nI 0, nI 0, sL none 0 0] 39)).alloc (.cells #[nI l, nI s, sL none 0 0] 39) = W0 at r f i y ⊢;refine (zDt _ d _ _ (H.out _ r) hm).mono ?_;rintro e w1 ⟨v, rfl, q⟩;obtain ⟨m, p, rfl⟩ := zBD q.1;have n := q.2;have j := q.1;have D := zAb r n;replace f := zAa n f;replace i := zAa n i;obtain ⟨y0, y1, y2⟩ := zCl i;obtain ⟨f0, f1, f2⟩ := zCx i;obtain ⟨z0, z1, z2⟩ := zCl f;obtain ⟨g0, g1, g2⟩ := zCx f;have A : Hid _ := aI f i;have E : Hid _ := j;clear f i j q H;go_wp2;obtain ⟨f, i⟩ := A.out;have F := put3 (a := nI l) (b := nI s) (c := sL m d.length p) (zAO (g := w.heap.size + 1 + 1) (o := 2) (v := sL m d.length p) f (by omega));obtain ⟨B, C, z⟩ := zCl F;refine bodyPost_ret (v := .agg #[nI l, nI s, sL m d.length p]) (by simp [results, Tryz.results28, go_sem, B, C, z]) rfl ⟨m, p, rfl, zCF i1 i2 ?_, ?_⟩
 ·refine zA5.own_mono (zAl (zAl (zAl (zAl E.out (fun h => by have := h.1; omega)) (fun h => by have := h.1; omega)) (fun h => by have := h.1; omega)) (fun h => by have := h.1; omega)) ?_;exact zCb (by omega) (by simp)
 ·exact zAq (zAq (zAq (zAq D (by omega)) (by omega)) (by omega)) (by omega)
theorem Tryz.infoWay : (Tryz.prog.info? 39).map (fun i => (i.zero, i.size, i.bytes)) = some (some (.agg #[nI 0, nI 0, sL none 0 0]), 3, 40) := by kernel_rfl
theorem zLK (a : Option Addr) (xs : List (Int × Int × List Int)) (cap : Nat) (w : World) (h : zBg zAR w a xs) (hm : zBr.bk xs ≤ 1048576) :
    Calls Tryz.prog 88 #[sL a xs.length cap] w fun e w' => ∃ v, e = .returned v ∧ zBa zBl w w' [v] xs := by
 have A : zBr.bk xs = xs.length + zBz zBE xs := rfl;have aA : xs.length ≤ 1048576 := by omega
 have T : Hid (zBz zBE xs ≤ 1048576) := by unfold Hid; omega
 have X : Hid (zBg zAR w a xs) := h;clear A hm h;have y := zDK (P := Tryz.prog) 115 39 (.agg #[nI 0, nI 0, sL none 0 0]) 3 40 Tryz.underlying115 Tryz.infoWay xs.length (by omega) (by omega);go_enter Tryz.func88, Tryz.ntmps88;go_wp2;go_loopw [4] (fun i wr => ∃ k : Nat, k ≤ xs.length ∧ i = nI k ∧ Fill 39 zAR w wr xs.length (xs.take k)) (fun i _ => xs.length - (intOf i).toNat)
 case atStart => exact ⟨0, Nat.zero_le _, rfl, by simpa using zEP (e := 39) (R := zAR) (w0 := w) (n := xs.length) (cs := madeCells #[nI 0, nI 0, sL none 0 0] (xs.length * 3)) (by unfold maxLen; omega) (by rw [size_madeCells]; rfl)⟩
 case round =>
  obtain ⟨k, hk, rfl, j⟩ := hrel;by_cases m : k < xs.length
  ·have N : (k : Int) < (xs.length : Int) := by omega
   obtain ⟨x, q⟩ : ∃ x, xs[k]? = some x := ⟨_, List.getElem?_eq_getElem m⟩;obtain ⟨b, f, cs, rfl, g, d⟩ := zBG (zAG X.out (zF7 j)) q;obtain ⟨S, Z, rfl, I, G, D, C, l⟩ := zAK g;have L := d 0 _ rfl;have J := d 1 _ rfl;have M := d 2 _ rfl;rw [show f + (k * zAR.size + 0) = f + k * 3 from rfl] at L;rw [show f + (k * zAR.size + 1) = f + k * 3 + 1 from rfl] at J;rw [show f + (k * zAR.size + 2) = f + k * 3 + 2 from rfl] at M;have U : Hid (zBn.bk x.2.2 ≤ 1048576) := by unfold Hid; have := zFi zBE xs q; rw [bk_way] at this; have := T.out; omega
   have Y : Hid (zBg zBC wr S x.2.2) := l;have F : Hid (zBk x.1 ∧ zBk x.2.1) := ⟨I, G⟩;have H : Hid (∀ w1 c, zBa zAR wr w1 c x → _) := fun w1 c hm => zF5 (w1 := w1) (c := c) j (by simp; omega) m hm;have O : Hid (xs.take k ++ [x] = xs.take (k + 1)) := by unfold Hid; rw [List.take_add_one, q]; rfl
   clear q g d y j D C l I G;go_wp2_with fail
   refine (zJe x.1 x.2.1 x.2.2 _ _ _ F.out.1 F.out.2 Y.out U.out).mono ?_;rintro e w1 ⟨av, cv, rfl, K⟩;obtain ⟨p, o, s⟩ := H.out _ _ K;obtain ⟨v0, E⟩ := p 0 (by decide);obtain ⟨v1, B⟩ := p 1 (by decide);obtain ⟨v2, z⟩ := p 2 (by decide);have z0 := o (k * 3);have z1 := o (k * 3 + 1);have z2 := o (k * 3 + 2);rw [show k * zAR.size + 0 = k * 3 from rfl] at E;rw [show k * zAR.size + 1 = k * 3 + 1 from rfl] at B;rw [show k * zAR.size + 2 = k * 3 + 2 from rfl] at z;rw [O.out] at s;have V : Hid _ := s;clear s K p o H L J M;go_wp2;go_roundw
   case rel => exact ⟨k + 1, by omega, by go_num, V.out⟩
   case measure => simp [intOf]; omega
  ·have r : k = xs.length := by omega
   subst r;rw [List.take_length] at j;have FE := zGv j rfl;clear j;go_wp2;go_ret
   exact ⟨_, rfl, FE⟩
theorem zEp {w w' : World} {D b o : Nat} {u : Value} (hb : Below D w w') (h : w.cell? ⟨b, o, none⟩ = some u) (hl : b < D) : w'.cell? ⟨b, o, none⟩ = some u :=
 (World.cell?_of_block (w := w) (a := ⟨b, o, none⟩) (hb.block b hl)).trans h
theorem zFT {w : World} {b o : Nat} {u : Value} (h : w.cell? ⟨b, o, none⟩ = some u) : b < w.heap.size := World.block_lt_of_cell? w _ h
theorem Tryz.infoWayS : (Tryz.prog.info? 115).map (fun i => (i.zero, i.size, i.bytes)) = some (some (sL none 0 0), 1, 24) := by kernel_rfl
theorem zKl (a : Option Addr) (xs : List (List (Int × Int × List Int))) (cap : Nat) (w : World) (h : zBg zBl w a xs) (hm : zEU.bk xs ≤ 1048576) :
    Calls Tryz.prog 62 #[sL a xs.length cap] w fun e w' => ∃ v, e = .returned v ∧ zBa zBu w w' [v] xs := by
 have r : zEU.bk xs = xs.length + zBz zBr xs := rfl;have M : xs.length ≤ 1048576 := by omega
 have C : Hid (zBz zBr xs ≤ 1048576) := by unfold Hid; omega
 have K : Hid (zBg zBl w a xs) := h;clear r hm h;have q := Go.run_make_row' (P := Tryz.prog) 35 115 (sL none 0 0) 24 Tryz.underlying35 Tryz.infoWayS rfl .i64 .i64 xs.length (by omega) (by omega);go_enter Tryz.func62, Tryz.ntmps62;go_wp2;go_loopw [4] (fun i wr => ∃ k : Nat, k ≤ xs.length ∧ i = nI k ∧ Fill 115 zBl w wr xs.length (xs.take k)) (fun i _ => xs.length - (intOf i).toNat)
 case atStart => exact ⟨0, Nat.zero_le _, rfl, by simpa using zEP (e := 115) (R := zBl) (w0 := w) (n := xs.length) (cs := madeCells #[sL none 0 0] xs.length) (by unfold maxLen; omega) (by simp [size_madeCells]; exact (Nat.mul_one _).symm)⟩
 case round =>
  obtain ⟨k, hk, rfl, f⟩ := hrel;by_cases j : k < xs.length
  ·have A : (k : Int) < (xs.length : Int) := by omega
   obtain ⟨x, l⟩ : ∃ x, xs[k]? = some x := ⟨_, List.getElem?_eq_getElem j⟩;obtain ⟨b, F, c, rfl, ⟨aj, cj, rfl, I, O, g⟩, d⟩ := zBG (zAG K.out (zF7 f)) l;have G := d 0 _ rfl;rw [show k * zBl.size + 0 = k from Nat.mul_one k] at G;have L : Hid _ := g;have D : Hid (zBr.bk x ≤ 1048576) := by unfold Hid; have := zFi zBr xs l; have := C.out; omega
   have E : Hid (∀ w1 v, zBa zBl wr w1 [v] x → _) := fun w1 v hm => zF5 (w1 := w1) (c := [v]) f (by simp; omega) j hm;have B : Hid (xs.take k ++ [x] = xs.take (k + 1)) := by unfold Hid; rw [List.take_add_one, l]; rfl
   clear l g d q f;go_wp2_with (go_at_call 88; refine (zLK _ x _ _ L.out D.out).mono ?_; rintro e w1 ⟨v, rfl, p⟩; obtain ⟨av, cv, rfl⟩ := zBD p.1; obtain ⟨z, y, o⟩ := E.out _ _ p; obtain ⟨v0, s⟩ := z 0 (Nat.zero_lt_one); have H := y k; rw [show k * zBl.size + 0 = k from Nat.mul_one k] at s; rw [show k * zBl.size = k from Nat.mul_one k, B.out] at o; have J : Hid _ := o; clear o p z y)
   go_roundw
   case rel => exact ⟨k + 1, by omega, by go_num, J.out⟩
   case measure => simp [intOf]; omega
  ·have m : k = xs.length := by omega
   subst m;rw [List.take_length] at f;have N := zGv f rfl;clear f;go_wp2;go_ret
   exact ⟨_, rfl, N⟩
theorem zCd {w : World} {S S1 S2 : zAW} {c : List (List (Int × Int × List Int)) × List Int} {u v : Value} (h1 : zBu.own w S1 [u] c.1) (h2 : zA5.own w S2 [v] c.2) (s1 : Sub S1 S) (s2 : Sub S2 S) (hd : Dis S1 S2) : zAB.own w S [u, v] c :=
 ⟨[_], [_], S1, S2, rfl, h1, h2, s1, s2, hd⟩
theorem zCe {w : World} {S : zAW} {cs : List Value} {c : List (List (Int × Int × List Int)) × List Int} (h : zAB.own w S cs c) : ∃ u v a b, cs = [u, v] ∧ zBu.own w a [u] c.1 ∧ zA5.own w b [v] c.2 ∧ Sub a S ∧ Sub b S ∧ Dis a b := by
 obtain ⟨i, l, a, b, rfl, g, f, j, k, d⟩ := h;obtain ⟨u, rfl⟩ : ∃ u, i = [u] := List.length_eq_one_iff.1 (zBu.rd_len (zBu.own_rd g));obtain ⟨v, rfl⟩ : ∃ v, l = [v] := List.length_eq_one_iff.1 (zA5.rd_len (zA5.own_rd f));exact ⟨u, v, a, b, rfl, g, f, j, k, d⟩
theorem zBW {w : World} {g : Nat} {cs : Array Value} {t : TypeId} (h : w.heap[g]? = some (.cells cs t (0, 0))) : w.frozen? ⟨g, 0, none⟩ = false ∧ w.frozen? ⟨g, 1, none⟩ = false :=
 ⟨frozen_of_row w g 0 _ t h, frozen_of_row w g 1 _ t h⟩
theorem zKm (a b : Option Addr) (c : List (List (Int × Int × List Int)) × List Int) (cap cp : Nat) (w : World) (h1 : zBg zBl w a c.1) (h2 : zBg zBC w b c.2) (hm : zAZ.bk c ≤ 1048576) :
    Calls Tryz.prog 26 #[.agg #[sL a c.1.length cap, sL b c.2.length cp]] w fun e w' => ∃ f i r q, e = .returned (.agg #[sL f c.1.length i, sL r c.2.length q]) ∧ zBa zAB w w' [sL f c.1.length i, sL r c.2.length q] c := by
 have I : zAZ.bk c = zEU.bk c.1 + zBn.bk c.2 := rfl;have N : Hid (∀ W, Bl w W → zBg zBl W a c.1) := fun W hb => zA7 h1 fun k hk => hb.block k hk;have L : Hid (∀ W, Bl w W → zBg zBC W b c.2) := fun W hb => zA7 h2 fun k hk => hb.block k hk;have z : Hid (zEU.bk c.1 ≤ 1048576) := by unfold Hid; omega
 have A : Hid (zBn.bk c.2 ≤ 1048576) := by unfold Hid; omega
 clear h1 h2 I hm;go_enter Tryz.func26, Tryz.ntmps26;go_wp2_with fail
 have D : Bl w (((w.alloc (.cells #[sL a c.1.length cap, sL b c.2.length cp] 25)).alloc (.cells #[sL none 0 0, sL none 0 0] 37)).alloc (.cells #[sL none 0 0, sL none 0 0] 37)) := (((Below.refl _ w).alloc (Nat.le_refl _) _).alloc (by simp) _).alloc (by simp; omega) _;have B := zAJ (.cells #[sL none 0 0, sL none 0 0] 37) (zAJ (.cells #[sL none 0 0, sL none 0 0] 37) (zAy w (.cells #[sL a c.1.length cap, sL b c.2.length cp] 25)));have l := zAJ (.cells #[sL none 0 0, sL none 0 0] 37) (zAy (w.alloc (.cells #[sL a c.1.length cap, sL b c.2.length cp] 25)) (.cells #[sL none 0 0, sL none 0 0] 37));have j := zAy ((w.alloc (.cells #[sL a c.1.length cap, sL b c.2.length cp] 25)).alloc (.cells #[sL none 0 0, sL none 0 0] 37)) (.cells #[sL none 0 0, sL none 0 0] 37);have T : (((w.alloc (.cells #[sL a c.1.length cap, sL b c.2.length cp] 25)).alloc (.cells #[sL none 0 0, sL none 0 0] 37)).alloc (.cells #[sL none 0 0, sL none 0 0] 37)).heap.size = w.heap.size + 1 + 1 + 1 := by simp
 rw [zAp] at l;rw [zAp, zAp] at j;generalize ((w.alloc (.cells #[sL a c.1.length cap, sL b c.2.length cp] 25)).alloc (.cells #[sL none 0 0, sL none 0 0] 37)).alloc (.cells #[sL none 0 0, sL none 0 0] 37) = W0 at D B l j T ⊢;refine (zKl _ c.1 _ _ (N.out _ D) z.out).mono ?_;rintro e n ⟨v, rfl, d⟩;obtain ⟨f, i, rfl⟩ := zBD d.1;have bA := d.2.size;have S := zAb D d.2;have y : Hid (zBu.own n (rng W0.heap.size n.heap.size) [sL f c.1.length i] c.1) := d.1;replace B := zAa d.2 B;replace l := zAa d.2 l;replace j := zAa d.2 j;obtain ⟨p0, V⟩ := zBb B;obtain ⟨K, O⟩ := zBb j;obtain ⟨M, R⟩ := zBW j;have C : Hid _ := aI l j;clear B l j d N z;go_wp2_with fail
 obtain ⟨l, j⟩ := C.out;have E := zAq (g := w.heap.size + 1 + 1) (o := 0) (v := sL f c.1.length i) S (by omega);have p := heap_setCell_same n (w.heap.size + 1 + 1) 0 _ _ (sL f c.1.length i) j;have m := zAO (g := w.heap.size + 1 + 1) (o := 0) (v := sL f c.1.length i) l (by omega);have s := zAl (g := w.heap.size + 1 + 1) (o := 0) (v := sL f c.1.length i) y.out (fun h => by have := h.1; omega);have J : (n.setCell ⟨w.heap.size + 1 + 1, 0, none⟩ (sL f c.1.length i)).heap.size = n.heap.size := by simp
 clear l j C y M R K O D S p0 V;generalize n.setCell ⟨w.heap.size + 1 + 1, 0, none⟩ (sL f c.1.length i) = w2 at E m p s J ⊢;refine (zDt _ c.2 _ _ (L.out _ E) A.out).mono ?_;rintro e F ⟨v, rfl, d⟩;obtain ⟨r, q, rfl⟩ := zBD d.1;have U := d.2.size;have B3 := zAb E d.2;have G : Hid (zBu.own F (rng W0.heap.size n.heap.size) [sL f c.1.length i] c.1) := zDs s d.2 (by omega);have H : Hid (zA5.own F (rng w2.heap.size F.heap.size) [sL r c.2.length q] c.2) := d.1;replace m := zAa d.2 m;replace p := zAa d.2 p;obtain ⟨K, O⟩ := zBb p;obtain ⟨M, R⟩ := zBW p;obtain ⟨z0, z1⟩ := zBb m;obtain ⟨g0, g1⟩ := zBW m;have C : Hid _ := aI m p;clear m p d L A s E;go_wp2;obtain ⟨m, p⟩ := C.out;have X := put2 (a := sL f c.1.length i) (b := sL r c.2.length q) (zAO (g := w.heap.size + 1 + 1) (o := 1) (v := sL r c.2.length q) m (by omega));obtain ⟨Y, Z⟩ := zBb X;refine bodyPost_ret (v := .agg #[sL f c.1.length i, sL r c.2.length q]) (by simp [results, Tryz.results26, go_sem, Y, Z]) rfl ⟨f, i, r, q, rfl, zCd (S1 := rng W0.heap.size n.heap.size) (S2 := rng w2.heap.size F.heap.size) ?_ ?_ (zCb (by omega) (by simp; omega)) (zCb (by omega) (by simp)) (zC1 (.inl (by omega))), ?_⟩
 ·exact zAl (zAl (zAl G.out (fun h => by have := h.1; omega)) (fun h => by have := h.1; omega)) (fun h => by have := h.1; omega)
 ·exact zAl (zAl (zAl H.out (fun h => by have := h.1; omega)) (fun h => by have := h.1; omega)) (fun h => by have := h.1; omega)
 ·exact zAq (zAq (zAq B3 (by omega)) (by omega)) (by omega)
theorem zJf (l s : Int) (d : List Int) (a1 a2 : Option Addr) (c1 c2 : Nat) (w : World) (h1 : zBg zBC w a1 d) (h2 : zBg zBC w a2 d) (hm : zBn.bk d ≤ 1152921504606846976) :
    Calls Tryz.prog 39 #[.agg #[nI l, nI s, sL a1 d.length c1], .agg #[nI l, nI s, sL a2 d.length c2]] w fun e b => e = .returned (.bool true) ∧ Bl w b := by
 have a : Hid (∀ o o', Bl w ((w.alloc o).alloc o')) := fun o o' => zAb (zAf w o) (zAf _ o');have c : Hid (∀ W, Bl w W → zBg zBC W a1 d) := fun W hb => zA7 h1 fun k hk => hb.block k hk;have f : Hid (∀ W, Bl w W → zBg zBC W a2 d) := fun W hb => zA7 h2 fun k hk => hb.block k hk;clear h1 h2;go_enter Tryz.func39, Tryz.ntmps39;go_wp2_with fail
 refine (zDu a1 a2 d c1 c2 _ (c.out _ (a.out _ _)) (f.out _ (a.out _ _)) hm).mono ?_;rintro e b ⟨rfl, n, rfl⟩;go_wp2;go_ret
 exact ⟨rfl, zBt (a.out _ _) n⟩
theorem zLL (a1 a2 : Option Addr) (xs : List (Int × Int × List Int)) (c1 c2 : Nat) (w : World) (h1 : zBg zAR w a1 xs) (h2 : zBg zAR w a2 xs) (hm : (slM zBE).bk xs ≤ 1152921504606846976) :
    Calls Tryz.prog 107 #[sL a1 xs.length c1, sL a2 xs.length c2] w fun e w' => e = .returned (.bool true) ∧ Bl w w' := by
 have R : (slM zBE).bk xs = xs.length + zBz zBE xs := rfl;have bA : xs.length ≤ 1152921504606846976 := by omega
 have V : Hid (zBz zBE xs ≤ 1152921504606846976) := by unfold Hid; omega
 have Z : Hid (∀ W, Bl w W → zBg zAR W a1 xs) := fun W hb => zA7 h1 fun k J => hb.block k J;have U : Hid (∀ W, Bl w W → zBg zAR W a2 xs) := fun W hb => zA7 h2 fun k J => hb.block k J;clear R hm h1 h2;go_enter Tryz.func107, Tryz.ntmps107;go_wp2;go_loopw [5] (fun i wr => ∃ k : Nat, k ≤ xs.length ∧ i = nI k ∧ Bl w wr) (fun i _ => xs.length - (intOf i).toNat)
 case atStart => exact ⟨0, Nat.zero_le _, rfl, Below.refl _ _⟩
 case round =>
  obtain ⟨k, J, rfl, r⟩ := hrel;by_cases S : k < xs.length
  ·have T : (k : Int) < (xs.length : Int) := by omega
   obtain ⟨x, K⟩ : ∃ x, xs[k]? = some x := ⟨_, List.getElem?_eq_getElem S⟩;have X : Hid ((zBE).bk x ≤ 1152921504606846976) := by unfold Hid; have := zFi zBE xs K; have := V.out; omega
   obtain ⟨M, a, Y, rfl, p, d⟩ := zBG (Z.out _ r) K;obtain ⟨A, z, rfl, -, -, -, -, F⟩ := zAK p;have f := d 0 _ rfl;have g := d 1 _ rfl;have m := d 2 _ rfl;rw [show a + (k * zAR.size + 0) = a + k * 3 from rfl] at f;rw [show a + (k * zAR.size + 1) = a + k * 3 + 1 from rfl] at g;rw [show a + (k * zAR.size + 2) = a + k * 3 + 2 from rfl] at m;have O : Hid (∀ n : Cls (fun wx => Bl wr wx), zBg zBC n.w A x.2.2) := fun n => zAG F n.h;clear d p F;obtain ⟨s, b, aA, rfl, q, c⟩ := zBG (U.out _ r) K;obtain ⟨I, B, rfl, -, -, -, -, D⟩ := zAK q;have o := c 0 _ rfl;have l := c 1 _ rfl;have j := c 2 _ rfl;rw [show b + (k * zAR.size + 0) = b + k * 3 from rfl] at o;rw [show b + (k * zAR.size + 1) = b + k * 3 + 1 from rfl] at l;rw [show b + (k * zAR.size + 2) = b + k * 3 + 2 from rfl] at j;have L : Hid (∀ n : Cls (fun wx => Bl wr wx), zBg zBC n.w I x.2.2) := fun n => zAG D n.h;clear c q D;have H : ∀ n : Cls (fun wx => Bl wr wx), n.w.cell? ⟨M, a + k * 3, none⟩ = some (nI x.1) := fun n => zEp n.h f (zFT f);have v : ∀ n : Cls (fun wx => Bl wr wx), n.w.cell? ⟨M, a + k * 3 + 1, none⟩ = some (nI x.2.1) := fun n => zEp n.h g (zFT g);have G : ∀ n : Cls (fun wx => Bl wr wx), n.w.cell? ⟨M, a + k * 3 + 2, none⟩ = some (sL A x.2.2.length z) := fun n => zEp n.h m (zFT m);have C : ∀ n : Cls (fun wx => Bl wr wx), n.w.cell? ⟨s, b + k * 3, none⟩ = some (nI x.1) := fun n => zEp n.h o (zFT o);have y : ∀ n : Cls (fun wx => Bl wr wx), n.w.cell? ⟨s, b + k * 3 + 1, none⟩ = some (nI x.2.1) := fun n => zEp n.h l (zFT l);have E : ∀ n : Cls (fun wx => Bl wr wx), n.w.cell? ⟨s, b + k * 3 + 2, none⟩ = some (sL I x.2.2.length B) := fun n => zEp n.h j (zFT j);clear K f g m o l j;go_wp2_with fail
   refine zA8 (fun wx => Bl wr wx) (by kernel_rfl) (by kernel_rfl) ((Below.refl _ wr).drew) ?_;intro N;repeat (quiet_step ((go_at_call 39; exact zAz (zJf x.1 x.2.1 x.2.2 _ _ _ _ _ (O.out _) (L.out _) (by have := X.out; rw [bk_way] at this; exact this)) (fun w' hc bb => zAb hc bb))))
   refine wpQuiet_nil ?_;intro wx s;replace r := zAb r s;clear s N H v G C y E;go_wp2;go_roundw
   case rel => exact ⟨k + 1, by omega, by go_num, r⟩
   case measure => simp [intOf]; omega
  ·go_wp2;go_ret
   exact ⟨rfl, r⟩
theorem zKn (a1 a2 : Option Addr) (xs : List (List (Int × Int × List Int))) (c1 c2 : Nat) (w : World) (h1 : zBg zBl w a1 xs) (h2 : zBg zBl w a2 xs) (hm : (slM zBr).bk xs ≤ 1152921504606846976) :
    Calls Tryz.prog 76 #[sL a1 xs.length c1, sL a2 xs.length c2] w fun e w' => e = .returned (.bool true) ∧ Bl w w' := by
 have D : (slM zBr).bk xs = xs.length + zBz zBr xs := rfl;have O : xs.length ≤ 1152921504606846976 := by omega
 have I : Hid (zBz zBr xs ≤ 1152921504606846976) := by unfold Hid; omega
 have M : Hid (∀ W, Bl w W → zBg zBl W a1 xs) := fun W hb => zA7 h1 fun k v => hb.block k v;have H : Hid (∀ W, Bl w W → zBg zBl W a2 xs) := fun W hb => zA7 h2 fun k v => hb.block k v;clear D hm h1 h2;go_enter Tryz.func76, Tryz.ntmps76;go_wp2;go_loopw [5] (fun i wr => ∃ k : Nat, k ≤ xs.length ∧ i = nI k ∧ Bl w wr) (fun i _ => xs.length - (intOf i).toNat)
 case atStart => exact ⟨0, Nat.zero_le _, rfl, Below.refl _ _⟩
 case round =>
  obtain ⟨k, v, rfl, f⟩ := hrel;by_cases F : k < xs.length
  ·have G : (k : Int) < (xs.length : Int) := by omega
   obtain ⟨x, y⟩ : ∃ x, xs[k]? = some x := ⟨_, List.getElem?_eq_getElem F⟩;have J : Hid ((zBr).bk x ≤ 1152921504606846976) := by unfold Hid; have := zFi zBr xs y; have := I.out; omega
   obtain ⟨L, q, K, rfl, ⟨j, A, rfl, -, -, o⟩, b⟩ := zBG (M.out _ f) y;have c := b 0 _ rfl;rw [show k * zBl.size + 0 = k from Nat.mul_one k] at c;have C : Hid (∀ n : Cls (fun wx => Bl wr wx), zBg zAR n.w j x) := fun n => zAG o n.h;clear b o;obtain ⟨s, r, N, rfl, ⟨g, E, rfl, -, -, m⟩, a⟩ := zBG (H.out _ f) y;have d := a 0 _ rfl;rw [show k * zBl.size + 0 = k from Nat.mul_one k] at d;have z : Hid (∀ n : Cls (fun wx => Bl wr wx), zBg zAR n.w g x) := fun n => zAG m n.h;clear a m;have p : ∀ n : Cls (fun wx => Bl wr wx), n.w.cell? ⟨L, q + k, none⟩ = some (sL j x.length A) := fun n => zEp n.h c (zFT c);have l : ∀ n : Cls (fun wx => Bl wr wx), n.w.cell? ⟨s, r + k, none⟩ = some (sL g x.length E) := fun n => zEp n.h d (zFT d);clear y c d;go_wp2_with fail
   refine zA8 (fun wx => Bl wr wx) (by kernel_rfl) (by kernel_rfl) ((Below.refl _ wr).drew) ?_;intro B;repeat (quiet_step ((go_at_call 107; exact zAz (zLL _ _ x _ _ _ (C.out _) (z.out _) J.out) (fun w' hc bb => zAb hc bb))))
   refine wpQuiet_nil ?_;intro wx s;replace f := zAb f s;clear s B p l;go_wp2;go_roundw
   case rel => exact ⟨k + 1, by omega, by go_num, f⟩
   case measure => simp [intOf]; omega
  ·go_wp2;go_ret
   exact ⟨rfl, f⟩
theorem zKo (c : List (List (Int × Int × List Int)) × List Int) (a1 b1 a2 b2 : Option Addr) (c1 d1 c2 d2 : Nat) (w : World) (h1 : zBg zBl w a1 c.1) (k1 : zBg zBC w b1 c.2) (h2 : zBg zBl w a2 c.1) (k2 : zBg zBC w b2 c.2) (hm : zAZ.bk c ≤ 1152921504606846976) :
    Calls Tryz.prog 37 #[.agg #[sL a1 c.1.length c1, sL b1 c.2.length d1], .agg #[sL a2 c.1.length c2, sL b2 c.2.length d2]] w fun e w' => e = .returned (.bool true) ∧ Bl w w' := by
 have i : zAZ.bk c = zEU.bk c.1 + zBn.bk c.2 := rfl;have g : Hid (zEU.bk c.1 ≤ 1152921504606846976) := by unfold Hid; omega
 have l : Hid (zBn.bk c.2 ≤ 1152921504606846976) := by unfold Hid; omega
 have f : Hid (∀ W, Bl w W → zBg zBl W a1 c.1 ∧ zBg zBl W a2 c.1 ∧ zBg zBC W b1 c.2 ∧ zBg zBC W b2 c.2) := fun W hb => ⟨zA7 h1 fun k hk => hb.block k hk, zA7 h2 fun k hk => hb.block k hk, zA7 k1 fun k hk => hb.block k hk, zA7 k2 fun k hk => hb.block k hk⟩;clear h1 h2 k1 k2 i hm;have j := zAJ (.cells #[sL a2 c.1.length c2, sL b2 c.2.length d2] 37) (zAy w (.cells #[sL a1 c.1.length c1, sL b1 c.2.length d1] 37));have d := zAy (w.alloc (.cells #[sL a1 c.1.length c1, sL b1 c.2.length d1] 37)) (.cells #[sL a2 c.1.length c2, sL b2 c.2.length d2] 37);have b := zAb (zAf w (.cells #[sL a1 c.1.length c1, sL b1 c.2.length d1] 37)) (zAf _ (.cells #[sL a2 c.1.length c2, sL b2 c.2.length d2] 37));rw [zAp] at d;go_enter Tryz.func37, Tryz.ntmps37;go_wp2_with fail
 generalize (w.alloc (.cells #[sL a1 c.1.length c1, sL b1 c.2.length d1] 37)).alloc (.cells #[sL a2 c.1.length c2, sL b2 c.2.length d2] 37) = W0 at j d b ⊢;refine (zKn a1 a2 c.1 c1 c2 _ (f.out _ b).1 (f.out _ b).2.1 g.out).mono ?_;rintro e w1 ⟨rfl, a⟩;replace b := zAb b a;obtain ⟨r, o⟩ := zBb (zAa a j);obtain ⟨p, q⟩ := zBb (zAa a d);clear a j d;go_wp2_with fail
 refine (zDu b1 b2 c.2 d1 d2 _ (f.out _ b).2.2.1 (f.out _ b).2.2.2 l.out).mono ?_;rintro e w2 ⟨rfl, n, rfl⟩;have m := zBt b n;clear r o p q;go_wp2;go_ret
 exact ⟨rfl, m⟩
end Go.Proofs.YtmdhblhdfcocjaaGreatDoor
