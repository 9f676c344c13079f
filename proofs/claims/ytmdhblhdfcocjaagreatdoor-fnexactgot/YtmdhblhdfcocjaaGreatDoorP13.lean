import Derived.Test.YtmdhblhdfcocjaaGreatDoorP00Box
import Derived.Test.YtmdhblhdfcocjaaGreatDoorP08
namespace Go.Proofs.YtmdhblhdfcocjaaGreatDoor
set_option maxHeartbeats 1000000
open Go.ChangeShapes Go.WideShapes Go.ChangeAt Go.RowKit
set_option linter.unusedVariables false
theorem bk_way (u : Int × Int × List Int) : zBE.bk u = zBn.bk u.2.2 := by
 show 0 + (0 + zBn.bk u.2.2) = _
 omega
theorem zHD (a : Option Addr) (xs : List (Int × Int × List Int)) (cap : Nat) (left : Int) (w : World) (h : zBg zAR w a xs) (h0 : 0 ≤ left) (h1 : left ≤ 1048576) (hm : xs.length ≤ maxLen) :
    Calls Tryz.prog 80 #[sL a xs.length cap, nI left] w fun e B => e = .returned (nI (szI ((slM zBE).bk xs) left)) ∧ Bl w B := by
 have U : xs.length ≤ 9223372036854775807 := hm;have j : (slM zBE).bk xs = xs.length + zBz zBE xs := rfl;clear hm;by_cases hl : (xs.length : Int) ≤ left
 ·have s : ¬ (left - (xs.length : Int) < 0) := by omega
  have G : Hid _ := j;have L : Hid (zBg zAR w a xs) := h;clear j h;go_enter Tryz.func80, Tryz.ntmps80;go_wp2;go_loopw [1, 5] (fun q i wr => ∃ k : Nat, k ≤ xs.length ∧ i = nI k ∧ (zBz zBE (xs.take k) : Int) + xs.length ≤ left ∧ q = nI (left - (xs.length : Int) - zBz zBE (xs.take k)) ∧ Bl w wr) (fun _ i _ => xs.length - (intOf i).toNat)
  case atStart => exact ⟨0, Nat.zero_le _, rfl, by simp [zBz]; omega, by simp [zBz], Below.refl _ _⟩
  case round =>
   obtain ⟨k, D, rfl, I, rfl, f⟩ := hrel;by_cases y : k < xs.length
   ·have F : (k : Int) < (xs.length : Int) := by omega
    obtain ⟨x, p⟩ : ∃ x, xs[k]? = some x := ⟨_, List.getElem?_eq_getElem y⟩;have J := zA7 L.out fun k D => f.block k D;obtain ⟨b, d, cs, rfl, g, c⟩ := zBG J p;obtain ⟨R, S, rfl, -, -, l, n, o⟩ := zAL g;have K := c 0 _ rfl;have N := c 1 _ rfl;have V := c 2 _ rfl;rw [show d + (k * zAR.size + 0) = d + k * 3 from rfl] at K;rw [show d + (k * zAR.size + 1) = d + k * 3 + 1 from rfl] at N;rw [show d + (k * zAR.size + 2) = d + k * 3 + 2 from rfl] at V;have E : Hid (x.2.2.length ≤ maxLen) := Nat.le_trans l n;have HR : Hid (zBg zBC wr R x.2.2) := o;clear c g l n o;have A : Hid _ := zF6 (M := zBE) p;have z := zGw (M := zBE) p;clear p J;generalize zBz zBE (xs.take k) = T at I A z ⊢;by_cases H : (((zBE).bk x : Nat) : Int) ≤ left - (xs.length : Int) - (T : Int)
    ·have O : ¬ (left - (xs.length : Int) - (T : Int) - (((zBE).bk x : Nat) : Int) < 0) := by omega
     have C : Hid (szI ((zBE).bk x) (left - (xs.length : Int) - (T : Int)) = _) := zC2 H;go_wp2_with (go_at_call 20; refine (zG2 x.1 x.2.1 x.2.2 _ _ _ _ (by omega) (by omega) E.out).mono ?_; rintro e B ⟨rfl, m⟩; replace f := zAb f m; clear m; rw [C.out])
     go_roundw
     case rel => exact ⟨k + 1, by omega, by go_num, by have := A.out; omega, by rw [A.out]; go_num, f⟩
     case measure => simp [intOf]; omega
    ·have C : Hid (szI ((zBE).bk x) (left - (xs.length : Int) - (T : Int)) = _) := zCz H;have v : Hid (szI ((slM zBE).bk xs) left = -1) := by unfold Hid; rw [G.out]; exact zCz (by omega)
     go_wp2_with (go_at_call 20; refine (zG2 x.1 x.2.1 x.2.2 _ _ _ _ (by omega) (by omega) E.out).mono ?_; rintro e B ⟨rfl, m⟩; replace f := zAb f m; clear m; rw [C.out])
     go_ret
     exact ⟨zAV v.out.symm, f⟩
   ·have r : k = xs.length := by omega
    subst r;rw [List.take_length] at I ⊢;have v : Hid (szI ((slM zBE).bk xs) left = left - (xs.length : Int) - (zBz zBE xs : Int)) := by unfold Hid; rw [G.out, zC2 (by omega)]; omega
    go_wp2;go_ret
    exact ⟨zAV v.out.symm, f⟩
 ·have s : left - (xs.length : Int) < 0 := by omega
  rw [zCz (by omega)];clear j h;go_enter Tryz.func80, Tryz.ntmps80;go_wp2;go_ret
  exact ⟨rfl, Below.refl _ _⟩
theorem zKj (a : Option Addr) (xs : List (List (Int × Int × List Int))) (cap : Nat) (left : Int) (w : World) (h : zBg zBl w a xs) (h0 : 0 ≤ left) (h1 : left ≤ 1048576) (hm : xs.length ≤ maxLen) :
    Calls Tryz.prog 49 #[sL a xs.length cap, nI left] w fun e z => e = .returned (nI (szI ((slM zBr).bk xs) left)) ∧ Bl w z := by
 have R : xs.length ≤ 9223372036854775807 := hm;have f : (slM zBr).bk xs = xs.length + zBz zBr xs := rfl;clear hm;by_cases hl : (xs.length : Int) ≤ left
 ·have p : ¬ (left - (xs.length : Int) < 0) := by omega
  have F : Hid _ := f;have L : Hid (zBg zBl w a xs) := h;clear f h;go_enter Tryz.func49, Tryz.ntmps49;go_wp2;go_loopw [1, 5] (fun q i wr => ∃ k : Nat, k ≤ xs.length ∧ i = nI k ∧ (zBz zBr (xs.take k) : Int) + xs.length ≤ left ∧ q = nI (left - (xs.length : Int) - zBz zBr (xs.take k)) ∧ Bl w wr) (fun _ i _ => xs.length - (intOf i).toNat)
  case atStart => exact ⟨0, Nat.zero_le _, rfl, by simp [zBz]; omega, by simp [zBz], Below.refl _ _⟩
  case round =>
   obtain ⟨k, B, rfl, H, rfl, d⟩ := hrel;by_cases s : k < xs.length
   ·have D : (k : Int) < (xs.length : Int) := by omega
    obtain ⟨x, n⟩ : ∃ x, xs[k]? = some x := ⟨_, List.getElem?_eq_getElem s⟩;have I := zA7 L.out fun k B => d.block k B;obtain ⟨b, O, cs, rfl, ⟨J, cj, rfl, g, l, m⟩, c⟩ := zBG I n;have K := c 0 _ rfl;rw [show k * zBl.size + 0 = k from Nat.mul_one k] at K;have C : Hid (x.length ≤ maxLen) := Nat.le_trans g l;have E : Hid (zBg zAR wr J x) := m;clear c g l m;have y : Hid _ := zF6 (M := zBr) n;have v := zGw (M := zBr) n;clear n I;generalize zBz zBr (xs.take k) = T at H y v ⊢;by_cases G : (((zBr).bk x : Nat) : Int) ≤ left - (xs.length : Int) - (T : Int)
    ·have N : ¬ (left - (xs.length : Int) - (T : Int) - (((zBr).bk x : Nat) : Int) < 0) := by omega
     have A : Hid (szI ((zBr).bk x) (left - (xs.length : Int) - (T : Int)) = _) := zC2 G;go_wp2_with (go_at_call 80; refine (zHD _ x _ _ _ E.out (by omega) (by omega) C.out).mono ?_; rintro e z ⟨rfl, j⟩; replace d := zAb d j; clear j; rw [A.out])
     go_roundw
     case rel => exact ⟨k + 1, by omega, by go_num, by have := y.out; omega, by rw [y.out]; go_num, d⟩
     case measure => simp [intOf]; omega
    ·have A : Hid (szI ((zBr).bk x) (left - (xs.length : Int) - (T : Int)) = _) := zCz G;have r : Hid (szI ((slM zBr).bk xs) left = -1) := by unfold Hid; rw [F.out]; exact zCz (by omega)
     go_wp2_with (go_at_call 80; refine (zHD _ x _ _ _ E.out (by omega) (by omega) C.out).mono ?_; rintro e z ⟨rfl, j⟩; replace d := zAb d j; clear j; rw [A.out])
     go_ret
     exact ⟨zAV r.out.symm, d⟩
   ·have o : k = xs.length := by omega
    subst o;rw [List.take_length] at H ⊢;have r : Hid (szI ((slM zBr).bk xs) left = left - (xs.length : Int) - (zBz zBr xs : Int)) := by unfold Hid; rw [F.out, zC2 (by omega)]; omega
    go_wp2;go_ret
    exact ⟨zAV r.out.symm, d⟩
 ·have p : left - (xs.length : Int) < 0 := by omega
  rw [zCz (by omega)];clear f h;go_enter Tryz.func49, Tryz.ntmps49;go_wp2;go_ret
  exact ⟨rfl, Below.refl _ _⟩
theorem zKk (a b : Option Addr) (c : List (List (Int × Int × List Int)) × List Int) (cap cp : Nat) (left : Int) (w : World) (h : zBg zBl w a c.1) (h0 : 0 ≤ left) (h1 : left ≤ 1048576) (m1 : c.1.length ≤ maxLen) (m2 : c.2.length ≤ maxLen) :
    Calls Tryz.prog 18 #[.agg #[sL a c.1.length cap, sL b c.2.length cp], nI left] w fun e n => e = .returned (nI (szI (zBa.bk c) left)) ∧ Bl w n := by
 have l : zBa.bk c = zEU.bk c.1 + zBn.bk c.2 := rfl;rw [l];have X := heap_alloc_new w (.cells #[sL a c.1.length cap, sL b c.2.length cp] 25);have j := zAf w (.cells #[sL a c.1.length cap, sL b c.2.length cp] 25);have H : Hid (∀ o, zBg zBl (w.alloc o) a c.1) := fun o => zAG h (zAf w o);clear h l;generalize g : zEU.bk c.1 = n1;generalize i : zBn.bk c.2 = n2;have f := zKj a c.1 cap left (w.alloc (.cells #[sL a c.1.length cap, sL b c.2.length cp] 25)) (H.out _) h0 h1 m1;rw [g] at f;by_cases z : (n1 : Int) ≤ left
 ·rw [zC2 z] at f;have B : ¬ (left - (n1 : Int) < 0) := by omega
  have r : Hid (∀ W, Calls Tryz.prog 21 #[sL b c.2.length cp, nI (left - (n1 : Int))] W fun e n => e = .returned (nI (szI n2 (left - (n1 : Int)))) ∧ n = W) := fun W => by
   have := zCC b c.2 cp (left - (n1 : Int)) W (by omega) (by omega) m2;rwa [i] at this
  clear g i H m1 m2;by_cases p : (n2 : Int) ≤ left - (n1 : Int)
  ·have m : Hid (szI (n1 + n2) left = left - (n1 : Int) - (n2 : Int)) := by unfold Hid; rw [zC2 (by omega)]; omega
   have A : ¬ (left - (n1 : Int) - (n2 : Int) < 0) := by omega
   have q : Hid (szI n2 (left - (n1 : Int)) = left - (n1 : Int) - (n2 : Int)) := zC2 p;go_enter Tryz.func18, Tryz.ntmps18;go_wp2_with fail
   refine f.mono ?_;rintro e y ⟨rfl, d⟩;obtain ⟨s, v⟩ := zBb (zAa d X);have k := zAb j d;clear d X j f;go_wp2_with (go_at_call 21; refine (r.out _).mono ?_; rintro e n ⟨rfl, rfl⟩; rw [q.out])
   go_ret
   exact ⟨zAV m.out.symm, k⟩
  ·have m : Hid (szI (n1 + n2) left = -1) := by unfold Hid; exact zCz (by omega)
   have q : Hid (szI n2 (left - (n1 : Int)) = -1) := zCz p;go_enter Tryz.func18, Tryz.ntmps18;go_wp2_with fail
   refine f.mono ?_;rintro e y ⟨rfl, d⟩;obtain ⟨s, v⟩ := zBb (zAa d X);have k := zAb j d;clear d X j f;go_wp2_with (go_at_call 21; refine (r.out _).mono ?_; rintro e n ⟨rfl, rfl⟩; rw [q.out])
   go_ret
   exact ⟨zAV m.out.symm, k⟩
 ·rw [zCz z] at f;have m : Hid (szI (n1 + n2) left = -1) := by unfold Hid; exact zCz (by omega)
  clear g i H m1 m2;go_enter Tryz.func18, Tryz.ntmps18;go_wp2_with fail
  refine f.mono ?_;rintro e y ⟨rfl, d⟩;obtain ⟨s, v⟩ := zBb (zAa d X);have k := zAb j d;clear d X j f;go_wp2;go_ret
  exact ⟨zAV m.out.symm, k⟩
theorem zCm {w : World} {g : Nat} {x y z : Value} {t : TypeId} (h : w.heap[g]? = some (.cells #[x, y, z] t (0, 0))) :
    w.cell? ⟨g, 0, none⟩ = some x ∧ w.cell? ⟨g, 1, none⟩ = some y ∧ w.cell? ⟨g, 2, none⟩ = some z :=
 ⟨by rw [cell_of_row w g 0 _ t (0, 0) h]; rfl, by rw [cell_of_row w g 1 _ t (0, 0) h]; rfl, by rw [cell_of_row w g 2 _ t (0, 0) h]; rfl⟩
theorem zCx {w : World} {g : Nat} {cs : Array Value} {t : TypeId} (h : w.heap[g]? = some (.cells cs t (0, 0))) : w.frozen? ⟨g, 0, none⟩ = false ∧ w.frozen? ⟨g, 1, none⟩ = false ∧ w.frozen? ⟨g, 2, none⟩ = false :=
 ⟨frozen_of_row w g 0 _ t h, frozen_of_row w g 1 _ t h, frozen_of_row w g 2 _ t h⟩
theorem put3 {w : World} {g : Nat} {x y z a b c : Value} {t : TypeId} (h : w.heap[g]? = some (.cells #[x, y, z] t (0, 0))) :
    (((w.setCell ⟨g, 0, none⟩ a).setCell ⟨g, 1, none⟩ b).setCell ⟨g, 2, none⟩ c).heap[g]? = some (.cells #[a, b, c] t (0, 0)) := by
 have d := heap_setCell_same w g 0 _ t a h;have f := heap_setCell_same _ g 1 _ t b d;exact heap_setCell_same _ g 2 _ t c f
theorem put2 {w : World} {g : Nat} {x y a b : Value} {t : TypeId} (h : w.heap[g]? = some (.cells #[x, y] t (0, 0))) :
    ((w.setCell ⟨g, 0, none⟩ a).setCell ⟨g, 1, none⟩ b).heap[g]? = some (.cells #[a, b] t (0, 0)) := by
 have c := heap_setCell_same w g 0 _ t a h;exact heap_setCell_same _ g 1 _ t b c
theorem zJe (l s : Int) (d : List Int) (a : Option Addr) (cap : Nat) (w : World) (i1 : zBk l) (i2 : zBk s) (h : zBg zBC w a d) (hm : zBn.bk d ≤ 1048576) :
    Calls Tryz.prog 28 #[.agg #[nI l, nI s, sL a d.length cap]] w fun e w' => ∃ p n, e = .returned (.agg #[nI l, nI s, sL p d.length n]) ∧ zAX zAR w w' [nI l, nI s, sL p d.length n] (l, s, d) := by
 have H : Hid (∀ W, Bl w W → zBg zBC W a d) := fun W hb => zA7 h fun k hk => hb.block k hk;clear h;go_enter Tryz.func28, Tryz.ntmps28;go_wp2_with fail
 have r : Bl w (((w.alloc (.cells #[nI l, nI s, sL a d.length cap] 28)).alloc (.cells #[nI 0, nI 0, sL none 0 0] 39)).alloc (.cells #[nI l, nI s, sL none 0 0] 39)) := (((Below.refl _ w).alloc (Nat.le_refl _) _).alloc (by simp) _).alloc (by simp; omega) _;have f := zAK (.cells #[nI l, nI s, sL none 0 0] 39) (zAx (w.alloc (.cells #[nI l, nI s, sL a d.length cap] 28)) (.cells #[nI 0, nI 0, sL none 0 0] 39));have i := zAx ((w.alloc (.cells #[nI l, nI s, sL a d.length cap] 28)).alloc (.cells #[nI 0, nI 0, sL none 0 0] 39)) (.cells #[nI l, nI s, sL none 0 0] 39);have B : (((w.alloc (.cells #[nI l, nI s, sL a d.length cap] 28)).alloc (.cells #[nI 0, nI 0, sL none 0 0] 39)).alloc (.cells #[nI l, nI s, sL none 0 0] 39)).heap.size = w.heap.size + 1 + 1 + 1 := by simp
 rw [zAp] at f;rw [zAp, zAp] at i;generalize ((w.alloc (.cells #[nI l, nI s, sL a d.length cap] 28)).alloc (.cells #[nI 0, nI 0, sL none 0 0] 39)).alloc (.cells #[nI l, nI s, sL none 0 0] 39) = W0 at r f i B ⊢;refine (zDt _ d _ _ (H.out _ r) hm).mono ?_;rintro e w1 ⟨v, rfl, q⟩;obtain ⟨p, n, rfl⟩ := zBD q.1;have m := q.2;have j := q.1;have y := zAb r m;replace f := zAa m f;replace i := zAa m i;obtain ⟨y0, y1, y2⟩ := zCm i;obtain ⟨f0, f1, f2⟩ := zCx i;obtain ⟨z0, z1, z2⟩ := zCm f;obtain ⟨g0, g1, g2⟩ := zCx f;have A : Hid _ := aI f i;have F : Hid _ := j;clear f i j q H;go_wp2;obtain ⟨f, i⟩ := A.out;have z := put3 (a := nI l) (b := nI s) (c := sL p d.length n) (zAO (g := w.heap.size + 1 + 1) (o := 2) (v := sL p d.length n) f (by omega));obtain ⟨C, D, E⟩ := zCm z;refine bodyPost_ret (v := .agg #[nI l, nI s, sL p d.length n]) (by simp [results, Tryz.results28, go_sem, C, D, E]) rfl ⟨p, n, rfl, zCF i1 i2 ?_, ?_⟩
 ·refine zA5.own_mono (zAl (zAl (zAl (zAl F.out (fun h => by have := h.1; omega)) (fun h => by have := h.1; omega)) (fun h => by have := h.1; omega)) (fun h => by have := h.1; omega)) ?_;exact zCb (by omega) (by simp)
 ·exact zAq (zAq (zAq (zAq y (by omega)) (by omega)) (by omega)) (by omega)
theorem Tryz.infoWay : (Tryz.prog.info? 39).map (fun i => (i.zero, i.size, i.bytes)) = some (some (.agg #[nI 0, nI 0, sL none 0 0]), 3, 40) := by kernel_rfl
theorem zLK (a : Option Addr) (xs : List (Int × Int × List Int)) (cap : Nat) (w : World) (h : zBg zAR w a xs) (hm : zBr.bk xs ≤ 1048576) :
    Calls Tryz.prog 88 #[sL a xs.length cap] w fun e w' => ∃ v, e = .returned v ∧ zAX zBl w w' [v] xs := by
 have z : zBr.bk xs = xs.length + zBz zBE xs := rfl;have O : xs.length ≤ 1048576 := by omega
 have HB : Hid (zBz zBE xs ≤ 1048576) := by unfold Hid; omega
 have S : Hid (zBg zAR w a xs) := h;clear z hm h;have E := zDK (P := Tryz.prog) 115 39 (.agg #[nI 0, nI 0, sL none 0 0]) 3 40 Tryz.underlying115 Tryz.infoWay xs.length (by omega) (by omega);go_enter Tryz.func88, Tryz.ntmps88;go_wp2;go_loopw [4] (fun i wr => ∃ k : Nat, k ≤ xs.length ∧ i = nI k ∧ Fill 39 zAR w wr xs.length (xs.take k)) (fun i _ => xs.length - (intOf i).toNat)
 case atStart => exact ⟨0, Nat.zero_le _, rfl, by simpa using zEP (e := 39) (R := zAR) (w0 := w) (n := xs.length) (cs := madeCells #[nI 0, nI 0, sL none 0 0] (xs.length * 3)) (by unfold maxLen; omega) (by rw [size_madeCells]; rfl)⟩
 case round =>
  obtain ⟨k, hk, rfl, j⟩ := hrel;by_cases l : k < xs.length
  ·have J : (k : Int) < (xs.length : Int) := by omega
   obtain ⟨x, q⟩ : ∃ x, xs[k]? = some x := ⟨_, List.getElem?_eq_getElem l⟩;obtain ⟨b, f, cs, rfl, g, d⟩ := zBG (zAG S.out (zF7 j)) q;obtain ⟨Y, aA, rfl, M, F, B, D, m⟩ := zAL g;have G := d 0 _ rfl;have H := d 1 _ rfl;have N := d 2 _ rfl;rw [show f + (k * zAR.size + 0) = f + k * 3 from rfl] at G;rw [show f + (k * zAR.size + 1) = f + k * 3 + 1 from rfl] at H;rw [show f + (k * zAR.size + 2) = f + k * 3 + 2 from rfl] at N;have T : Hid (zBn.bk x.2.2 ≤ 1048576) := by unfold Hid; have := zFi zBE xs q; rw [bk_way] at this; have := HB.out; omega
   have Z : Hid (zBg zBC wr Y x.2.2) := m;have I : Hid (zBk x.1 ∧ zBk x.2.1) := ⟨M, F⟩;have K : Hid (∀ w1 c, zAX zAR wr w1 c x → _) := fun w1 c hm => zF5 (w1 := w1) (c := c) j (by simp; omega) l hm;have V : Hid (xs.take k ++ [x] = xs.take (k + 1)) := by unfold Hid; rw [List.take_add_one, q]; rfl
   clear q g d E j B D m M F;go_wp2_with fail
   refine (zJe x.1 x.2.1 x.2.2 _ _ _ I.out.1 I.out.2 Z.out T.out).mono ?_;rintro e w1 ⟨av, cv, rfl, L⟩;obtain ⟨p, o, r⟩ := K.out _ _ L;obtain ⟨v0, y⟩ := p 0 (by decide);obtain ⟨v1, C⟩ := p 1 (by decide);obtain ⟨v2, A⟩ := p 2 (by decide);have z0 := o (k * 3);have z1 := o (k * 3 + 1);have z2 := o (k * 3 + 2);rw [show k * zAR.size + 0 = k * 3 from rfl] at y;rw [show k * zAR.size + 1 = k * 3 + 1 from rfl] at C;rw [show k * zAR.size + 2 = k * 3 + 2 from rfl] at A;rw [V.out] at r;have X : Hid _ := r;clear r L p o K G H N;go_wp2;go_roundw
   case rel => exact ⟨k + 1, by omega, by go_num, X.out⟩
   case measure => simp [intOf]; omega
  ·have s : k = xs.length := by omega
   subst s;rw [List.take_length] at j;have U := zGv j rfl;clear j;go_wp2;go_ret
   exact ⟨_, rfl, U⟩
theorem zEq {w w' : World} {D b o : Nat} {u : Value} (hb : Below D w w') (h : w.cell? ⟨b, o, none⟩ = some u) (hl : b < D) : w'.cell? ⟨b, o, none⟩ = some u :=
 (World.cell?_of_block (w := w) (a := ⟨b, o, none⟩) (hb.block b hl)).trans h
theorem zFT {w : World} {b o : Nat} {u : Value} (h : w.cell? ⟨b, o, none⟩ = some u) : b < w.heap.size := World.block_lt_of_cell? w _ h
theorem Tryz.infoWayS : (Tryz.prog.info? 115).map (fun i => (i.zero, i.size, i.bytes)) = some (some (sL none 0 0), 1, 24) := by kernel_rfl
theorem zKl (a : Option Addr) (xs : List (List (Int × Int × List Int))) (cap : Nat) (w : World) (h : zBg zBl w a xs) (hm : zEU.bk xs ≤ 1048576) :
    Calls Tryz.prog 62 #[sL a xs.length cap] w fun e w' => ∃ v, e = .returned v ∧ zAX zBu w w' [v] xs := by
 have q : zEU.bk xs = xs.length + zBz zBr xs := rfl;have B : xs.length ≤ 1048576 := by omega
 have L : Hid (zBz zBr xs ≤ 1048576) := by unfold Hid; omega
 have C : Hid (zBg zBl w a xs) := h;clear q hm h;have s := Go.run_make_row' (P := Tryz.prog) 35 115 (sL none 0 0) 24 Tryz.underlying35 Tryz.infoWayS rfl .i64 .i64 xs.length (by omega) (by omega);go_enter Tryz.func62, Tryz.ntmps62;go_wp2;go_loopw [4] (fun i wr => ∃ k : Nat, k ≤ xs.length ∧ i = nI k ∧ Fill 115 zBl w wr xs.length (xs.take k)) (fun i _ => xs.length - (intOf i).toNat)
 case atStart => exact ⟨0, Nat.zero_le _, rfl, by simpa using zEP (e := 115) (R := zBl) (w0 := w) (n := xs.length) (cs := madeCells #[sL none 0 0] xs.length) (by unfold maxLen; omega) (by simp [size_madeCells]; exact (Nat.mul_one _).symm)⟩
 case round =>
  obtain ⟨k, hk, rfl, f⟩ := hrel;by_cases g : k < xs.length
  ·have z : (k : Int) < (xs.length : Int) := by omega
   obtain ⟨x, l⟩ : ∃ x, xs[k]? = some x := ⟨_, List.getElem?_eq_getElem g⟩;obtain ⟨b, M, c, rfl, ⟨aj, cj, rfl, N, I, j⟩, d⟩ := zBG (zAG C.out (zF7 f)) l;have K := d 0 _ rfl;rw [show k * zBl.size + 0 = k from Nat.mul_one k] at K;have J : Hid _ := j;have D : Hid (zBr.bk x ≤ 1048576) := by unfold Hid; have := zFi zBr xs l; have := L.out; omega
   have G : Hid (∀ w1 v, zAX zBl wr w1 [v] x → _) := fun w1 v hm => zF5 (w1 := w1) (c := [v]) f (by simp; omega) g hm;have F : Hid (xs.take k ++ [x] = xs.take (k + 1)) := by unfold Hid; rw [List.take_add_one, l]; rfl
   clear l j d s f;go_wp2_with (go_at_call 88; refine (zLK _ x _ _ J.out D.out).mono ?_; rintro e w1 ⟨v, rfl, r⟩; obtain ⟨av, cv, rfl⟩ := zBD r.1; obtain ⟨A, y, m⟩ := G.out _ _ r; obtain ⟨v0, p⟩ := A 0 (Nat.zero_lt_one); have O := y k; rw [show k * zBl.size + 0 = k from Nat.mul_one k] at p; rw [show k * zBl.size = k from Nat.mul_one k, F.out] at m; have H : Hid _ := m; clear m r A y)
   go_roundw
   case rel => exact ⟨k + 1, by omega, by go_num, H.out⟩
   case measure => simp [intOf]; omega
  ·have o : k = xs.length := by omega
   subst o;rw [List.take_length] at f;have E := zGv f rfl;clear f;go_wp2;go_ret
   exact ⟨_, rfl, E⟩
theorem zCd {w : World} {S S1 S2 : zAW} {c : List (List (Int × Int × List Int)) × List Int} {u v : Value} (h1 : zBu.own w S1 [u] c.1) (h2 : zA5.own w S2 [v] c.2) (s1 : Sub S1 S) (s2 : Sub S2 S) (hd : Dis S1 S2) : zAB.own w S [u, v] c :=
 ⟨[_], [_], S1, S2, rfl, h1, h2, s1, s2, hd⟩
theorem zCe {w : World} {S : zAW} {cs : List Value} {c : List (List (Int × Int × List Int)) × List Int} (h : zAB.own w S cs c) : ∃ u v a b, cs = [u, v] ∧ zBu.own w a [u] c.1 ∧ zA5.own w b [v] c.2 ∧ Sub a S ∧ Sub b S ∧ Dis a b := by
 obtain ⟨i, k, a, b, rfl, g, f, l, j, d⟩ := h;obtain ⟨u, rfl⟩ : ∃ u, i = [u] := List.length_eq_one_iff.1 (zBu.rd_len (zBu.own_rd g));obtain ⟨v, rfl⟩ : ∃ v, k = [v] := List.length_eq_one_iff.1 (zA5.rd_len (zA5.own_rd f));exact ⟨u, v, a, b, rfl, g, f, l, j, d⟩
theorem zBW {w : World} {g : Nat} {cs : Array Value} {t : TypeId} (h : w.heap[g]? = some (.cells cs t (0, 0))) : w.frozen? ⟨g, 0, none⟩ = false ∧ w.frozen? ⟨g, 1, none⟩ = false :=
 ⟨frozen_of_row w g 0 _ t h, frozen_of_row w g 1 _ t h⟩
theorem zKm (a b : Option Addr) (c : List (List (Int × Int × List Int)) × List Int) (cap cp : Nat) (w : World) (h1 : zBg zBl w a c.1) (h2 : zBg zBC w b c.2) (hm : zBa.bk c ≤ 1048576) :
    Calls Tryz.prog 26 #[.agg #[sL a c.1.length cap, sL b c.2.length cp]] w fun e w' => ∃ i f p n, e = .returned (.agg #[sL i c.1.length f, sL p c.2.length n]) ∧ zAX zAB w w' [sL i c.1.length f, sL p c.2.length n] c := by
 have J : zBa.bk c = zEU.bk c.1 + zBn.bk c.2 := rfl;have S : Hid (∀ W, Bl w W → zBg zBl W a c.1) := fun W hb => zA7 h1 fun k hk => hb.block k hk;have R : Hid (∀ W, Bl w W → zBg zBC W b c.2) := fun W hb => zA7 h2 fun k hk => hb.block k hk;have A : Hid (zEU.bk c.1 ≤ 1048576) := by unfold Hid; omega
 have y : Hid (zBn.bk c.2 ≤ 1048576) := by unfold Hid; omega
 clear h1 h2 J hm;go_enter Tryz.func26, Tryz.ntmps26;go_wp2_with fail
 have E : Bl w (((w.alloc (.cells #[sL a c.1.length cap, sL b c.2.length cp] 25)).alloc (.cells #[sL none 0 0, sL none 0 0] 37)).alloc (.cells #[sL none 0 0, sL none 0 0] 37)) := (((Below.refl _ w).alloc (Nat.le_refl _) _).alloc (by simp) _).alloc (by simp; omega) _;have z := zAK (.cells #[sL none 0 0, sL none 0 0] 37) (zAK (.cells #[sL none 0 0, sL none 0 0] 37) (zAx w (.cells #[sL a c.1.length cap, sL b c.2.length cp] 25)));have m := zAK (.cells #[sL none 0 0, sL none 0 0] 37) (zAx (w.alloc (.cells #[sL a c.1.length cap, sL b c.2.length cp] 25)) (.cells #[sL none 0 0, sL none 0 0] 37));have j := zAx ((w.alloc (.cells #[sL a c.1.length cap, sL b c.2.length cp] 25)).alloc (.cells #[sL none 0 0, sL none 0 0] 37)) (.cells #[sL none 0 0, sL none 0 0] 37);have V : (((w.alloc (.cells #[sL a c.1.length cap, sL b c.2.length cp] 25)).alloc (.cells #[sL none 0 0, sL none 0 0] 37)).alloc (.cells #[sL none 0 0, sL none 0 0] 37)).heap.size = w.heap.size + 1 + 1 + 1 := by simp
 rw [zAp] at m;rw [zAp, zAp] at j;generalize ((w.alloc (.cells #[sL a c.1.length cap, sL b c.2.length cp] 25)).alloc (.cells #[sL none 0 0, sL none 0 0] 37)).alloc (.cells #[sL none 0 0, sL none 0 0] 37) = W0 at E z m j V ⊢;refine (zKl _ c.1 _ _ (S.out _ E) A.out).mono ?_;rintro e q ⟨v, rfl, d⟩;obtain ⟨i, f, rfl⟩ := zBD d.1;have T := d.2.size;have K := zAb E d.2;have B : Hid (zBu.own q (rng W0.heap.size q.heap.size) [sL i c.1.length f] c.1) := d.1;replace z := zAa d.2 z;replace m := zAa d.2 m;replace j := zAa d.2 j;obtain ⟨p0, Z⟩ := zBb z;obtain ⟨L, M⟩ := zBb j;obtain ⟨O, N⟩ := zBW j;have D : Hid _ := aI m j;clear z m j d S A;go_wp2_with fail
 obtain ⟨m, j⟩ := D.out;have C := zAq (g := w.heap.size + 1 + 1) (o := 0) (v := sL i c.1.length f) K (by omega);have r := heap_setCell_same q (w.heap.size + 1 + 1) 0 _ _ (sL i c.1.length f) j;have l := zAO (g := w.heap.size + 1 + 1) (o := 0) (v := sL i c.1.length f) m (by omega);have s := zAl (g := w.heap.size + 1 + 1) (o := 0) (v := sL i c.1.length f) B.out (fun h => by have := h.1; omega);have H : (q.setCell ⟨w.heap.size + 1 + 1, 0, none⟩ (sL i c.1.length f)).heap.size = q.heap.size := by simp
 clear m j D B O N L M E K p0 Z;generalize q.setCell ⟨w.heap.size + 1 + 1, 0, none⟩ (sL i c.1.length f) = w2 at C l r s H ⊢;refine (zDt _ c.2 _ _ (R.out _ C) y.out).mono ?_;rintro e F ⟨v, rfl, d⟩;obtain ⟨p, n, rfl⟩ := zBD d.1;have bA := d.2.size;have U := zAb C d.2;have I : Hid (zBu.own F (rng W0.heap.size q.heap.size) [sL i c.1.length f] c.1) := zDs s d.2 (by omega);have G : Hid (zA5.own F (rng w2.heap.size F.heap.size) [sL p c.2.length n] c.2) := d.1;replace l := zAa d.2 l;replace r := zAa d.2 r;obtain ⟨L, M⟩ := zBb r;obtain ⟨O, N⟩ := zBW r;obtain ⟨z0, z1⟩ := zBb l;obtain ⟨g0, g1⟩ := zBW l;have D : Hid _ := aI l r;clear l r d R y s C;go_wp2;obtain ⟨l, r⟩ := D.out;have X := put2 (a := sL i c.1.length f) (b := sL p c.2.length n) (zAO (g := w.heap.size + 1 + 1) (o := 1) (v := sL p c.2.length n) l (by omega));obtain ⟨Y, r1⟩ := zBb X;refine bodyPost_ret (v := .agg #[sL i c.1.length f, sL p c.2.length n]) (by simp [results, Tryz.results26, go_sem, Y, r1]) rfl ⟨i, f, p, n, rfl, zCd (S1 := rng W0.heap.size q.heap.size) (S2 := rng w2.heap.size F.heap.size) ?_ ?_ (zCb (by omega) (by simp; omega)) (zCb (by omega) (by simp)) (zC1 (.inl (by omega))), ?_⟩
 ·exact zAl (zAl (zAl I.out (fun h => by have := h.1; omega)) (fun h => by have := h.1; omega)) (fun h => by have := h.1; omega)
 ·exact zAl (zAl (zAl G.out (fun h => by have := h.1; omega)) (fun h => by have := h.1; omega)) (fun h => by have := h.1; omega)
 ·exact zAq (zAq (zAq U (by omega)) (by omega)) (by omega)
theorem zJf (l s : Int) (d : List Int) (a1 a2 : Option Addr) (c1 c2 : Nat) (w : World) (h1 : zBg zBC w a1 d) (h2 : zBg zBC w a2 d) (hm : zBn.bk d ≤ 1152921504606846976) :
    Calls Tryz.prog 39 #[.agg #[nI l, nI s, sL a1 d.length c1], .agg #[nI l, nI s, sL a2 d.length c2]] w fun e b => e = .returned (.bool true) ∧ Bl w b := by
 have a : Hid (∀ o o', Bl w ((w.alloc o).alloc o')) := fun o o' => zAb (zAf w o) (zAf _ o');have f : Hid (∀ W, Bl w W → zBg zBC W a1 d) := fun W hb => zA7 h1 fun k hk => hb.block k hk;have c : Hid (∀ W, Bl w W → zBg zBC W a2 d) := fun W hb => zA7 h2 fun k hk => hb.block k hk;clear h1 h2;go_enter Tryz.func39, Tryz.ntmps39;go_wp2_with fail
 refine (zDu a1 a2 d c1 c2 _ (f.out _ (a.out _ _)) (c.out _ (a.out _ _)) hm).mono ?_;rintro e b ⟨rfl, n, rfl⟩;go_wp2;go_ret
 exact ⟨rfl, zBt (a.out _ _) n⟩
theorem zLL (a1 a2 : Option Addr) (xs : List (Int × Int × List Int)) (c1 c2 : Nat) (w : World) (h1 : zBg zAR w a1 xs) (h2 : zBg zAR w a2 xs) (hm : (slM zBE).bk xs ≤ 1152921504606846976) :
    Calls Tryz.prog 107 #[sL a1 xs.length c1, sL a2 xs.length c2] w fun e w' => e = .returned (.bool true) ∧ Bl w w' := by
 have R : (slM zBE).bk xs = xs.length + zBz zBE xs := rfl;have V : xs.length ≤ 1152921504606846976 := by omega
 have Z : Hid (zBz zBE xs ≤ 1152921504606846976) := by unfold Hid; omega
 have H1 : Hid (∀ W, Bl w W → zBg zAR W a1 xs) := fun W hb => zA7 h1 fun k J => hb.block k J;have H2 : Hid (∀ W, Bl w W → zBg zAR W a2 xs) := fun W hb => zA7 h2 fun k J => hb.block k J;clear R hm h1 h2;go_enter Tryz.func107, Tryz.ntmps107;go_wp2;go_loopw [5] (fun i wr => ∃ k : Nat, k ≤ xs.length ∧ i = nI k ∧ Bl w wr) (fun i _ => xs.length - (intOf i).toNat)
 case atStart => exact ⟨0, Nat.zero_le _, rfl, Below.refl _ _⟩
 case round =>
  obtain ⟨k, J, rfl, r⟩ := hrel;by_cases N : k < xs.length
  ·have T : (k : Int) < (xs.length : Int) := by omega
   obtain ⟨x, K⟩ : ∃ x, xs[k]? = some x := ⟨_, List.getElem?_eq_getElem N⟩;have X : Hid ((zBE).bk x ≤ 1152921504606846976) := by unfold Hid; have := zFi zBE xs K; have := Z.out; omega
   obtain ⟨S, a, Y, rfl, q, d⟩ := zBG (H1.out _ r) K;obtain ⟨E, I, rfl, -, -, -, -, z⟩ := zAL q;have l := d 0 _ rfl;have m := d 1 _ rfl;have g := d 2 _ rfl;rw [show a + (k * zAR.size + 0) = a + k * 3 from rfl] at l;rw [show a + (k * zAR.size + 1) = a + k * 3 + 1 from rfl] at m;rw [show a + (k * zAR.size + 2) = a + k * 3 + 2 from rfl] at g;have L : Hid (∀ n : Cls (fun wx => Bl wr wx), zBg zBC n.w E x.2.2) := fun n => zAG z n.h;clear d q z;obtain ⟨s, b, U, rfl, p, c⟩ := zBG (H2.out _ r) K;obtain ⟨v, H, rfl, -, -, -, -, F⟩ := zAL p;have f := c 0 _ rfl;have j := c 1 _ rfl;have o := c 2 _ rfl;rw [show b + (k * zAR.size + 0) = b + k * 3 from rfl] at f;rw [show b + (k * zAR.size + 1) = b + k * 3 + 1 from rfl] at j;rw [show b + (k * zAR.size + 2) = b + k * 3 + 2 from rfl] at o;have O : Hid (∀ n : Cls (fun wx => Bl wr wx), zBg zBC n.w v x.2.2) := fun n => zAG F n.h;clear c p F;have G : ∀ n : Cls (fun wx => Bl wr wx), n.w.cell? ⟨S, a + k * 3, none⟩ = some (nI x.1) := fun n => zEq n.h l (zFT l);have A : ∀ n : Cls (fun wx => Bl wr wx), n.w.cell? ⟨S, a + k * 3 + 1, none⟩ = some (nI x.2.1) := fun n => zEq n.h m (zFT m);have B : ∀ n : Cls (fun wx => Bl wr wx), n.w.cell? ⟨S, a + k * 3 + 2, none⟩ = some (sL E x.2.2.length I) := fun n => zEq n.h g (zFT g);have C : ∀ n : Cls (fun wx => Bl wr wx), n.w.cell? ⟨s, b + k * 3, none⟩ = some (nI x.1) := fun n => zEq n.h f (zFT f);have y : ∀ n : Cls (fun wx => Bl wr wx), n.w.cell? ⟨s, b + k * 3 + 1, none⟩ = some (nI x.2.1) := fun n => zEq n.h j (zFT j);have D : ∀ n : Cls (fun wx => Bl wr wx), n.w.cell? ⟨s, b + k * 3 + 2, none⟩ = some (sL v x.2.2.length H) := fun n => zEq n.h o (zFT o);clear K l m g f j o;go_wp2_with fail
   refine zA8 (fun wx => Bl wr wx) (by kernel_rfl) (by kernel_rfl) ((Below.refl _ wr).drew) ?_;intro M;repeat (quiet_step ((go_at_call 39; exact zAz (zJf x.1 x.2.1 x.2.2 _ _ _ _ _ (L.out _) (O.out _) (by have := X.out; rw [bk_way] at this; exact this)) (fun w' hc bb => zAb hc bb))))
   refine wpQuiet_nil ?_;intro wx s;replace r := zAb r s;clear s M G A B C y D;go_wp2;go_roundw
   case rel => exact ⟨k + 1, by omega, by go_num, r⟩
   case measure => simp [intOf]; omega
  ·go_wp2;go_ret
   exact ⟨rfl, r⟩
theorem zKn (a1 a2 : Option Addr) (xs : List (List (Int × Int × List Int))) (c1 c2 : Nat) (w : World) (h1 : zBg zBl w a1 xs) (h2 : zBg zBl w a2 xs) (hm : (slM zBr).bk xs ≤ 1152921504606846976) :
    Calls Tryz.prog 76 #[sL a1 xs.length c1, sL a2 xs.length c2] w fun e w' => e = .returned (.bool true) ∧ Bl w w' := by
 have E : (slM zBr).bk xs = xs.length + zBz zBr xs := rfl;have I : xs.length ≤ 1152921504606846976 := by omega
 have M : Hid (zBz zBr xs ≤ 1152921504606846976) := by unfold Hid; omega
 have O : Hid (∀ W, Bl w W → zBg zBl W a1 xs) := fun W hb => zA7 h1 fun k s => hb.block k s;have N : Hid (∀ W, Bl w W → zBg zBl W a2 xs) := fun W hb => zA7 h2 fun k s => hb.block k s;clear E hm h1 h2;go_enter Tryz.func76, Tryz.ntmps76;go_wp2;go_loopw [5] (fun i wr => ∃ k : Nat, k ≤ xs.length ∧ i = nI k ∧ Bl w wr) (fun i _ => xs.length - (intOf i).toNat)
 case atStart => exact ⟨0, Nat.zero_le _, rfl, Below.refl _ _⟩
 case round =>
  obtain ⟨k, s, rfl, f⟩ := hrel;by_cases C : k < xs.length
  ·have G : (k : Int) < (xs.length : Int) := by omega
   obtain ⟨x, v⟩ : ∃ x, xs[k]? = some x := ⟨_, List.getElem?_eq_getElem C⟩;have J : Hid ((zBr).bk x ≤ 1152921504606846976) := by unfold Hid; have := zFi zBr xs v; have := M.out; omega
   obtain ⟨L, l, K, rfl, ⟨g, z, rfl, -, -, j⟩, b⟩ := zBG (O.out _ f) v;have d := b 0 _ rfl;rw [show k * zBl.size + 0 = k from Nat.mul_one k] at d;have A : Hid (∀ n : Cls (fun wx => Bl wr wx), zBg zAR n.w g x) := fun n => zAG j n.h;clear b j;obtain ⟨y, r, H, rfl, ⟨m, F, rfl, -, -, p⟩, a⟩ := zBG (N.out _ f) v;have c := a 0 _ rfl;rw [show k * zBl.size + 0 = k from Nat.mul_one k] at c;have D : Hid (∀ n : Cls (fun wx => Bl wr wx), zBg zAR n.w m x) := fun n => zAG p n.h;clear a p;have q : ∀ n : Cls (fun wx => Bl wr wx), n.w.cell? ⟨L, l + k, none⟩ = some (sL g x.length z) := fun n => zEq n.h d (zFT d);have o : ∀ n : Cls (fun wx => Bl wr wx), n.w.cell? ⟨y, r + k, none⟩ = some (sL m x.length F) := fun n => zEq n.h c (zFT c);clear v d c;go_wp2_with fail
   refine zA8 (fun wx => Bl wr wx) (by kernel_rfl) (by kernel_rfl) ((Below.refl _ wr).drew) ?_;intro B;repeat (quiet_step ((go_at_call 107; exact zAz (zLL _ _ x _ _ _ (A.out _) (D.out _) J.out) (fun w' hc bb => zAb hc bb))))
   refine wpQuiet_nil ?_;intro wx y;replace f := zAb f y;clear y B q o;go_wp2;go_roundw
   case rel => exact ⟨k + 1, by omega, by go_num, f⟩
   case measure => simp [intOf]; omega
  ·go_wp2;go_ret
   exact ⟨rfl, f⟩
theorem zKo (c : List (List (Int × Int × List Int)) × List Int) (a1 b1 a2 b2 : Option Addr) (c1 d1 c2 d2 : Nat) (w : World) (h1 : zBg zBl w a1 c.1) (k1 : zBg zBC w b1 c.2) (h2 : zBg zBl w a2 c.1) (k2 : zBg zBC w b2 c.2) (hm : zBa.bk c ≤ 1152921504606846976) :
    Calls Tryz.prog 37 #[.agg #[sL a1 c.1.length c1, sL b1 c.2.length d1], .agg #[sL a2 c.1.length c2, sL b2 c.2.length d2]] w fun e w' => e = .returned (.bool true) ∧ Bl w w' := by
 have l : zBa.bk c = zEU.bk c.1 + zBn.bk c.2 := rfl;have j : Hid (zEU.bk c.1 ≤ 1152921504606846976) := by unfold Hid; omega
 have g : Hid (zBn.bk c.2 ≤ 1152921504606846976) := by unfold Hid; omega
 have d : Hid (∀ W, Bl w W → zBg zBl W a1 c.1 ∧ zBg zBl W a2 c.1 ∧ zBg zBC W b1 c.2 ∧ zBg zBC W b2 c.2) := fun W hb => ⟨zA7 h1 fun k hk => hb.block k hk, zA7 h2 fun k hk => hb.block k hk, zA7 k1 fun k hk => hb.block k hk, zA7 k2 fun k hk => hb.block k hk⟩;clear h1 h2 k1 k2 l hm;have i := zAK (.cells #[sL a2 c.1.length c2, sL b2 c.2.length d2] 37) (zAx w (.cells #[sL a1 c.1.length c1, sL b1 c.2.length d1] 37));have f := zAx (w.alloc (.cells #[sL a1 c.1.length c1, sL b1 c.2.length d1] 37)) (.cells #[sL a2 c.1.length c2, sL b2 c.2.length d2] 37);have b := zAb (zAf w (.cells #[sL a1 c.1.length c1, sL b1 c.2.length d1] 37)) (zAf _ (.cells #[sL a2 c.1.length c2, sL b2 c.2.length d2] 37));rw [zAp] at f;go_enter Tryz.func37, Tryz.ntmps37;go_wp2_with fail
 generalize (w.alloc (.cells #[sL a1 c.1.length c1, sL b1 c.2.length d1] 37)).alloc (.cells #[sL a2 c.1.length c2, sL b2 c.2.length d2] 37) = W0 at i f b ⊢;refine (zKn a1 a2 c.1 c1 c2 _ (d.out _ b).1 (d.out _ b).2.1 j.out).mono ?_;rintro e w1 ⟨rfl, a⟩;replace b := zAb b a;obtain ⟨p, q⟩ := zBb (zAa a i);obtain ⟨o, r⟩ := zBb (zAa a f);clear a i f;go_wp2_with fail
 refine (zDu b1 b2 c.2 d1 d2 _ (d.out _ b).2.2.1 (d.out _ b).2.2.2 g.out).mono ?_;rintro e w2 ⟨rfl, n, rfl⟩;have m := zBt b n;clear p q o r;go_wp2;go_ret
 exact ⟨rfl, m⟩
end Go.Proofs.YtmdhblhdfcocjaaGreatDoor
