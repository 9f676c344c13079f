import Derived.Test.YtmdhblhdfcocjaaGreatDoorP00Box
import Derived.Test.YtmdhblhdfcocjaaGreatDoorP08
namespace Go.Proofs.YtmdhblhdfcocjaaGreatDoor
set_option maxHeartbeats 1000000
open Go.ChangeShapes Go.WideShapes Go.ChangeAt Go.RowKit
set_option linter.unusedVariables false
theorem bk_way (u : Int × Int × List Int) : zBE.bk u = zBn.bk u.2.2 := by
 show 0 + (0 + zBn.bk u.2.2) = _
 omega
theorem zHD (a : Option Addr) (xs : List (Int × Int × List Int)) (cap : Nat) (left : Int) (w : World) (h : zBg zAR w a xs) (h0 : 0 ≤ left) (h1 : left ≤ 1048576) (hm : xs.length ≤ maxLen) :
    Calls Tryz.prog 80 #[sL a xs.length cap, nI left] w fun e z => e = .returned (nI (szI ((slM zBE).bk xs) left)) ∧ Bl w z := by
 have U : xs.length ≤ 9223372036854775807 := hm;have j : (slM zBE).bk xs = xs.length + zBz zBE xs := rfl;clear hm;by_cases hl : (xs.length : Int) ≤ left
 ·have C : ¬ (left - (xs.length : Int) < 0) := by omega
  have H : Hid _ := j;have S : Hid (zBg zAR w a xs) := h;clear j h;go_enter Tryz.func80, Tryz.ntmps80;go_wp2;go_loopw [1, 5] (fun q i wr => ∃ k : Nat, k ≤ xs.length ∧ i = nI k ∧ (zBz zBE (xs.take k) : Int) + xs.length ≤ left ∧ q = nI (left - (xs.length : Int) - zBz zBE (xs.take k)) ∧ Bl w wr) (fun _ i _ => xs.length - (intOf i).toNat)
  case atStart => exact ⟨0, Nat.zero_le _, rfl, by simp [zBz]; omega, by simp [zBz], Below.refl _ _⟩
  case round =>
   obtain ⟨k, F, rfl, I, rfl, f⟩ := hrel;by_cases s : k < xs.length
   ·have E : (k : Int) < (xs.length : Int) := by omega
    obtain ⟨x, p⟩ : ∃ x, xs[k]? = some x := ⟨_, List.getElem?_eq_getElem s⟩;have J := zA7 S.out fun k F => f.block k F;obtain ⟨b, d, cs, rfl, g, c⟩ := zBG J p;obtain ⟨L, O, rfl, -, -, m, l, n⟩ := zAL g;have K := c 0 _ rfl;have R := c 1 _ rfl;have V := c 2 _ rfl;rw [show d + (k * zAR.size + 0) = d + k * 3 from rfl] at K;rw [show d + (k * zAR.size + 1) = d + k * 3 + 1 from rfl] at R;rw [show d + (k * zAR.size + 2) = d + k * 3 + 2 from rfl] at V;have G : Hid (x.2.2.length ≤ maxLen) := Nat.le_trans m l;have HR : Hid (zBg zBC wr L x.2.2) := n;clear c g m l n;have A : Hid _ := zF6 (M := zBE) p;have B := zGw (M := zBE) p;clear p J;generalize zBz zBE (xs.take k) = T at I A B ⊢;by_cases D : (((zBE).bk x : Nat) : Int) ≤ left - (xs.length : Int) - (T : Int)
    ·have N : ¬ (left - (xs.length : Int) - (T : Int) - (((zBE).bk x : Nat) : Int) < 0) := by omega
     have v : Hid (szI ((zBE).bk x) (left - (xs.length : Int) - (T : Int)) = _) := zC2 D;go_wp2_with (go_at_call 20; refine (zG2 x.1 x.2.1 x.2.2 _ _ _ _ (by omega) (by omega) G.out).mono ?_; rintro e z ⟨rfl, o⟩; replace f := zAb f o; clear o; rw [v.out])
     go_roundw
     case rel => exact ⟨k + 1, by omega, by go_num, by have := A.out; omega, by rw [A.out]; go_num, f⟩
     case measure => simp [intOf]; omega
    ·have v : Hid (szI ((zBE).bk x) (left - (xs.length : Int) - (T : Int)) = _) := zCz D;have y : Hid (szI ((slM zBE).bk xs) left = -1) := by unfold Hid; rw [H.out]; exact zCz (by omega)
     go_wp2_with (go_at_call 20; refine (zG2 x.1 x.2.1 x.2.2 _ _ _ _ (by omega) (by omega) G.out).mono ?_; rintro e z ⟨rfl, o⟩; replace f := zAb f o; clear o; rw [v.out])
     go_ret
     exact ⟨zAV y.out.symm, f⟩
   ·have r : k = xs.length := by omega
    subst r;rw [List.take_length] at I ⊢;have y : Hid (szI ((slM zBE).bk xs) left = left - (xs.length : Int) - (zBz zBE xs : Int)) := by unfold Hid; rw [H.out, zC2 (by omega)]; omega
    go_wp2;go_ret
    exact ⟨zAV y.out.symm, f⟩
 ·have C : left - (xs.length : Int) < 0 := by omega
  rw [zCz (by omega)];clear j h;go_enter Tryz.func80, Tryz.ntmps80;go_wp2;go_ret
  exact ⟨rfl, Below.refl _ _⟩
theorem zKj (a : Option Addr) (xs : List (List (Int × Int × List Int))) (cap : Nat) (left : Int) (w : World) (h : zBg zBl w a xs) (h0 : 0 ≤ left) (h1 : left ≤ 1048576) (hm : xs.length ≤ maxLen) :
    Calls Tryz.prog 49 #[sL a xs.length cap, nI left] w fun e v => e = .returned (nI (szI ((slM zBr).bk xs) left)) ∧ Bl w v := by
 have R : xs.length ≤ 9223372036854775807 := hm;have f : (slM zBr).bk xs = xs.length + zBz zBr xs := rfl;clear hm;by_cases hl : (xs.length : Int) ≤ left
 ·have A : ¬ (left - (xs.length : Int) < 0) := by omega
  have G : Hid _ := f;have O : Hid (zBg zBl w a xs) := h;clear f h;go_enter Tryz.func49, Tryz.ntmps49;go_wp2;go_loopw [1, 5] (fun q i wr => ∃ k : Nat, k ≤ xs.length ∧ i = nI k ∧ (zBz zBr (xs.take k) : Int) + xs.length ≤ left ∧ q = nI (left - (xs.length : Int) - zBz zBr (xs.take k)) ∧ Bl w wr) (fun _ i _ => xs.length - (intOf i).toNat)
  case atStart => exact ⟨0, Nat.zero_le _, rfl, by simp [zBz]; omega, by simp [zBz], Below.refl _ _⟩
  case round =>
   obtain ⟨k, D, rfl, H, rfl, d⟩ := hrel;by_cases p : k < xs.length
   ·have C : (k : Int) < (xs.length : Int) := by omega
    obtain ⟨x, n⟩ : ∃ x, xs[k]? = some x := ⟨_, List.getElem?_eq_getElem p⟩;have I := zA7 O.out fun k D => d.block k D;obtain ⟨b, N, cs, rfl, ⟨L, cj, rfl, j, g, l⟩, c⟩ := zBG I n;have J := c 0 _ rfl;rw [show k * zBl.size + 0 = k from Nat.mul_one k] at J;have F : Hid (x.length ≤ maxLen) := Nat.le_trans j g;have E : Hid (zBg zAR wr L x) := l;clear c j g l;have y : Hid _ := zF6 (M := zBr) n;have z := zGw (M := zBr) n;clear n I;generalize zBz zBr (xs.take k) = T at H y z ⊢;by_cases B : (((zBr).bk x : Nat) : Int) ≤ left - (xs.length : Int) - (T : Int)
    ·have K : ¬ (left - (xs.length : Int) - (T : Int) - (((zBr).bk x : Nat) : Int) < 0) := by omega
     have r : Hid (szI ((zBr).bk x) (left - (xs.length : Int) - (T : Int)) = _) := zC2 B;go_wp2_with (go_at_call 80; refine (zHD _ x _ _ _ E.out (by omega) (by omega) F.out).mono ?_; rintro e v ⟨rfl, m⟩; replace d := zAb d m; clear m; rw [r.out])
     go_roundw
     case rel => exact ⟨k + 1, by omega, by go_num, by have := y.out; omega, by rw [y.out]; go_num, d⟩
     case measure => simp [intOf]; omega
    ·have r : Hid (szI ((zBr).bk x) (left - (xs.length : Int) - (T : Int)) = _) := zCz B;have s : Hid (szI ((slM zBr).bk xs) left = -1) := by unfold Hid; rw [G.out]; exact zCz (by omega)
     go_wp2_with (go_at_call 80; refine (zHD _ x _ _ _ E.out (by omega) (by omega) F.out).mono ?_; rintro e v ⟨rfl, m⟩; replace d := zAb d m; clear m; rw [r.out])
     go_ret
     exact ⟨zAV s.out.symm, d⟩
   ·have o : k = xs.length := by omega
    subst o;rw [List.take_length] at H ⊢;have s : Hid (szI ((slM zBr).bk xs) left = left - (xs.length : Int) - (zBz zBr xs : Int)) := by unfold Hid; rw [G.out, zC2 (by omega)]; omega
    go_wp2;go_ret
    exact ⟨zAV s.out.symm, d⟩
 ·have A : left - (xs.length : Int) < 0 := by omega
  rw [zCz (by omega)];clear f h;go_enter Tryz.func49, Tryz.ntmps49;go_wp2;go_ret
  exact ⟨rfl, Below.refl _ _⟩
theorem zKk (a b : Option Addr) (c : List (List (Int × Int × List Int)) × List Int) (cap cp : Nat) (left : Int) (w : World) (h : zBg zBl w a c.1) (h0 : 0 ≤ left) (h1 : left ≤ 1048576) (m1 : c.1.length ≤ maxLen) (m2 : c.2.length ≤ maxLen) :
    Calls Tryz.prog 18 #[.agg #[sL a c.1.length cap, sL b c.2.length cp], nI left] w fun e n => e = .returned (nI (szI (zBa.bk c) left)) ∧ Bl w n := by
 have p : zBa.bk c = zEU.bk c.1 + zBn.bk c.2 := rfl;rw [p];have X := heap_alloc_new w (.cells #[sL a c.1.length cap, sL b c.2.length cp] 25);have j := zAf w (.cells #[sL a c.1.length cap, sL b c.2.length cp] 25);have H : Hid (∀ o, zBg zBl (w.alloc o) a c.1) := fun o => zAG h (zAf w o);clear h p;generalize i : zEU.bk c.1 = n1;generalize g : zBn.bk c.2 = n2;have f := zKj a c.1 cap left (w.alloc (.cells #[sL a c.1.length cap, sL b c.2.length cp] 25)) (H.out _) h0 h1 m1;rw [i] at f;by_cases y : (n1 : Int) ≤ left
 ·rw [zC2 y] at f;have B : ¬ (left - (n1 : Int) < 0) := by omega
  have r : Hid (∀ W, Calls Tryz.prog 21 #[sL b c.2.length cp, nI (left - (n1 : Int))] W fun e n => e = .returned (nI (szI n2 (left - (n1 : Int)))) ∧ n = W) := fun W => by
   have := zCC b c.2 cp (left - (n1 : Int)) W (by omega) (by omega) m2;rwa [g] at this
  clear i g H m1 m2;by_cases l : (n2 : Int) ≤ left - (n1 : Int)
  ·have m : Hid (szI (n1 + n2) left = left - (n1 : Int) - (n2 : Int)) := by unfold Hid; rw [zC2 (by omega)]; omega
   have z : ¬ (left - (n1 : Int) - (n2 : Int) < 0) := by omega
   have q : Hid (szI n2 (left - (n1 : Int)) = left - (n1 : Int) - (n2 : Int)) := zC2 l;go_enter Tryz.func18, Tryz.ntmps18;go_wp2_with fail
   refine f.mono ?_;rintro e v ⟨rfl, d⟩;obtain ⟨s, A⟩ := zBb (zAa d X);have k := zAb j d;clear d X j f;go_wp2_with (go_at_call 21; refine (r.out _).mono ?_; rintro e n ⟨rfl, rfl⟩; rw [q.out])
   go_ret
   exact ⟨zAV m.out.symm, k⟩
  ·have m : Hid (szI (n1 + n2) left = -1) := by unfold Hid; exact zCz (by omega)
   have q : Hid (szI n2 (left - (n1 : Int)) = -1) := zCz l;go_enter Tryz.func18, Tryz.ntmps18;go_wp2_with fail
   refine f.mono ?_;rintro e v ⟨rfl, d⟩;obtain ⟨s, A⟩ := zBb (zAa d X);have k := zAb j d;clear d X j f;go_wp2_with (go_at_call 21; refine (r.out _).mono ?_; rintro e n ⟨rfl, rfl⟩; rw [q.out])
   go_ret
   exact ⟨zAV m.out.symm, k⟩
 ·rw [zCz y] at f;have m : Hid (szI (n1 + n2) left = -1) := by unfold Hid; exact zCz (by omega)
  clear i g H m1 m2;go_enter Tryz.func18, Tryz.ntmps18;go_wp2_with fail
  refine f.mono ?_;rintro e v ⟨rfl, d⟩;obtain ⟨s, A⟩ := zBb (zAa d X);have k := zAb j d;clear d X j f;go_wp2;go_ret
  exact ⟨zAV m.out.symm, k⟩
theorem zCm {w : World} {g : Nat} {x y z : Value} {t : TypeId} (h : w.heap[g]? = some (.cells #[x, y, z] t (0, 0))) :
    w.cell? ⟨g, 0, none⟩ = some x ∧ w.cell? ⟨g, 1, none⟩ = some y ∧ w.cell? ⟨g, 2, none⟩ = some z :=
 ⟨by rw [cell_of_row w g 0 _ t (0, 0) h]; rfl, by rw [cell_of_row w g 1 _ t (0, 0) h]; rfl, by rw [cell_of_row w g 2 _ t (0, 0) h]; rfl⟩
theorem zCx {w : World} {g : Nat} {cs : Array Value} {t : TypeId} (h : w.heap[g]? = some (.cells cs t (0, 0))) : w.frozen? ⟨g, 0, none⟩ = false ∧ w.frozen? ⟨g, 1, none⟩ = false ∧ w.frozen? ⟨g, 2, none⟩ = false :=
 ⟨frozen_of_row w g 0 _ t h, frozen_of_row w g 1 _ t h, frozen_of_row w g 2 _ t h⟩
theorem put3 {w : World} {g : Nat} {x y z a b c : Value} {t : TypeId} (h : w.heap[g]? = some (.cells #[x, y, z] t (0, 0))) :
    (((w.setCell ⟨g, 0, none⟩ a).setCell ⟨g, 1, none⟩ b).setCell ⟨g, 2, none⟩ c).heap[g]? = some (.cells #[a, b, c] t (0, 0)) := by
 have f := heap_setCell_same w g 0 _ t a h;have d := heap_setCell_same _ g 1 _ t b f;exact heap_setCell_same _ g 2 _ t c d
theorem put2 {w : World} {g : Nat} {x y a b : Value} {t : TypeId} (h : w.heap[g]? = some (.cells #[x, y] t (0, 0))) :
    ((w.setCell ⟨g, 0, none⟩ a).setCell ⟨g, 1, none⟩ b).heap[g]? = some (.cells #[a, b] t (0, 0)) := by
 have c := heap_setCell_same w g 0 _ t a h;exact heap_setCell_same _ g 1 _ t b c
theorem zJf (l s : Int) (d : List Int) (a : Option Addr) (cap : Nat) (w : World) (i1 : zBk l) (i2 : zBk s) (h : zBg zBC w a d) (hm : zBn.bk d ≤ 1048576) :
    Calls Tryz.prog 28 #[.agg #[nI l, nI s, sL a d.length cap]] w fun e w' => ∃ n m, e = .returned (.agg #[nI l, nI s, sL n d.length m]) ∧ zAX zAR w w' [nI l, nI s, sL n d.length m] (l, s, d) := by
 have H : Hid (∀ W, Bl w W → zBg zBC W a d) := fun W hb => zA7 h fun k hk => hb.block k hk;clear h;go_enter Tryz.func28, Tryz.ntmps28;go_wp2_with fail
 have r : Bl w (((w.alloc (.cells #[nI l, nI s, sL a d.length cap] 28)).alloc (.cells #[nI 0, nI 0, sL none 0 0] 39)).alloc (.cells #[nI l, nI s, sL none 0 0] 39)) := (((Below.refl _ w).alloc (Nat.le_refl _) _).alloc (by simp) _).alloc (by simp; omega) _;have f := zAK (.cells #[nI l, nI s, sL none 0 0] 39) (zAx (w.alloc (.cells #[nI l, nI s, sL a d.length cap] 28)) (.cells #[nI 0, nI 0, sL none 0 0] 39));have i := zAx ((w.alloc (.cells #[nI l, nI s, sL a d.length cap] 28)).alloc (.cells #[nI 0, nI 0, sL none 0 0] 39)) (.cells #[nI l, nI s, sL none 0 0] 39);have C : (((w.alloc (.cells #[nI l, nI s, sL a d.length cap] 28)).alloc (.cells #[nI 0, nI 0, sL none 0 0] 39)).alloc (.cells #[nI l, nI s, sL none 0 0] 39)).heap.size = w.heap.size + 1 + 1 + 1 := by simp
 rw [zAp] at f;rw [zAp, zAp] at i;generalize ((w.alloc (.cells #[nI l, nI s, sL a d.length cap] 28)).alloc (.cells #[nI 0, nI 0, sL none 0 0] 39)).alloc (.cells #[nI l, nI s, sL none 0 0] 39) = W0 at r f i C ⊢;refine (zDt _ d _ _ (H.out _ r) hm).mono ?_;rintro e w1 ⟨v, rfl, q⟩;obtain ⟨n, m, rfl⟩ := zBD q.1;have p := q.2;have j := q.1;have B := zAb r p;replace f := zAa p f;replace i := zAa p i;obtain ⟨y0, y1, y2⟩ := zCm i;obtain ⟨f0, f1, f2⟩ := zCx i;obtain ⟨z0, z1, z2⟩ := zCm f;obtain ⟨g0, g1, g2⟩ := zCx f;have A : Hid _ := aI f i;have y : Hid _ := j;clear f i j q H;go_wp2;obtain ⟨f, i⟩ := A.out;have E := put3 (a := nI l) (b := nI s) (c := sL n d.length m) (zAO (g := w.heap.size + 1 + 1) (o := 2) (v := sL n d.length m) f (by omega));obtain ⟨D, z, F⟩ := zCm E;refine bodyPost_ret (v := .agg #[nI l, nI s, sL n d.length m]) (by simp [results, Tryz.results28, go_sem, D, z, F]) rfl ⟨n, m, rfl, zCF i1 i2 ?_, ?_⟩
 ·refine zA5.own_mono (zAl (zAl (zAl (zAl y.out (fun h => by have := h.1; omega)) (fun h => by have := h.1; omega)) (fun h => by have := h.1; omega)) (fun h => by have := h.1; omega)) ?_;exact zCb (by omega) (by simp)
 ·exact zAq (zAq (zAq (zAq B (by omega)) (by omega)) (by omega)) (by omega)
theorem Tryz.infoWay : (Tryz.prog.info? 39).map (fun i => (i.zero, i.size, i.bytes)) = some (some (.agg #[nI 0, nI 0, sL none 0 0]), 3, 40) := by kernel_rfl
theorem zLK (a : Option Addr) (xs : List (Int × Int × List Int)) (cap : Nat) (w : World) (h : zBg zAR w a xs) (hm : zBr.bk xs ≤ 1048576) :
    Calls Tryz.prog 88 #[sL a xs.length cap] w fun e w' => ∃ v, e = .returned v ∧ zAX zBl w w' [v] xs := by
 have D : zBr.bk xs = xs.length + zBz zBE xs := rfl;have bA : xs.length ≤ 1048576 := by omega
 have Y : Hid (zBz zBE xs ≤ 1048576) := by unfold Hid; omega
 have Z : Hid (zBg zAR w a xs) := h;clear D hm h;have z := zDK (P := Tryz.prog) 115 39 (.agg #[nI 0, nI 0, sL none 0 0]) 3 40 Tryz.underlying115 Tryz.infoWay xs.length (by omega) (by omega);go_enter Tryz.func88, Tryz.ntmps88;go_wp2;go_loopw [4] (fun i wr => ∃ k : Nat, k ≤ xs.length ∧ i = nI k ∧ Fill 39 zAR w wr xs.length (xs.take k)) (fun i _ => xs.length - (intOf i).toNat)
 case atStart => exact ⟨0, Nat.zero_le _, rfl, by simpa using zEP (e := 39) (R := zAR) (w0 := w) (n := xs.length) (cs := madeCells #[nI 0, nI 0, sL none 0 0] (xs.length * 3)) (by unfold maxLen; omega) (by rw [size_madeCells]; rfl)⟩
 case round =>
  obtain ⟨k, hk, rfl, j⟩ := hrel;by_cases l : k < xs.length
  ·have I : (k : Int) < (xs.length : Int) := by omega
   obtain ⟨x, q⟩ : ∃ x, xs[k]? = some x := ⟨_, List.getElem?_eq_getElem l⟩;obtain ⟨b, f, cs, rfl, g, d⟩ := zBG (zAG Z.out (zF7 j)) q;obtain ⟨S, V, rfl, J, H, C, B, m⟩ := zAL g;have G := d 0 _ rfl;have K := d 1 _ rfl;have M := d 2 _ rfl;rw [show f + (k * zAR.size + 0) = f + k * 3 from rfl] at G;rw [show f + (k * zAR.size + 1) = f + k * 3 + 1 from rfl] at K;rw [show f + (k * zAR.size + 2) = f + k * 3 + 2 from rfl] at M;have U : Hid (zBn.bk x.2.2 ≤ 1048576) := by unfold Hid; have := zFi zBE xs q; rw [bk_way] at this; have := Y.out; omega
   have T : Hid (zBg zBC wr S x.2.2) := m;have N : Hid (zBk x.1 ∧ zBk x.2.1) := ⟨J, H⟩;have F : Hid (∀ w1 c, zAX zAR wr w1 c x → _) := fun w1 c hm => zF5 (w1 := w1) (c := c) j (by simp; omega) l hm;have HP : Hid (xs.take k ++ [x] = xs.take (k + 1)) := by unfold Hid; rw [List.take_add_one, q]; rfl
   clear q g d z j C B m J H;go_wp2_with fail
   refine (zJf x.1 x.2.1 x.2.2 _ _ _ N.out.1 N.out.2 T.out U.out).mono ?_;rintro e w1 ⟨av, cv, rfl, L⟩;obtain ⟨p, o, y⟩ := F.out _ _ L;obtain ⟨v0, r⟩ := p 0 (by decide);obtain ⟨v1, A⟩ := p 1 (by decide);obtain ⟨v2, E⟩ := p 2 (by decide);have z0 := o (k * 3);have z1 := o (k * 3 + 1);have z2 := o (k * 3 + 2);rw [show k * zAR.size + 0 = k * 3 from rfl] at r;rw [show k * zAR.size + 1 = k * 3 + 1 from rfl] at A;rw [show k * zAR.size + 2 = k * 3 + 2 from rfl] at E;rw [HP.out] at y;have O : Hid _ := y;clear y L p o F G K M;go_wp2;go_roundw
   case rel => exact ⟨k + 1, by omega, by go_num, O.out⟩
   case measure => simp [intOf]; omega
  ·have s : k = xs.length := by omega
   subst s;rw [List.take_length] at j;have X := zGv j rfl;clear j;go_wp2;go_ret
   exact ⟨_, rfl, X⟩
theorem zEq {w w' : World} {D b o : Nat} {u : Value} (hb : Below D w w') (h : w.cell? ⟨b, o, none⟩ = some u) (hl : b < D) : w'.cell? ⟨b, o, none⟩ = some u :=
 (World.cell?_of_block (w := w) (a := ⟨b, o, none⟩) (hb.block b hl)).trans h
theorem zFT {w : World} {b o : Nat} {u : Value} (h : w.cell? ⟨b, o, none⟩ = some u) : b < w.heap.size := World.block_lt_of_cell? w _ h
theorem Tryz.infoWayS : (Tryz.prog.info? 115).map (fun i => (i.zero, i.size, i.bytes)) = some (some (sL none 0 0), 1, 24) := by kernel_rfl
theorem zKl (a : Option Addr) (xs : List (List (Int × Int × List Int))) (cap : Nat) (w : World) (h : zBg zBl w a xs) (hm : zEU.bk xs ≤ 1048576) :
    Calls Tryz.prog 62 #[sL a xs.length cap] w fun e w' => ∃ v, e = .returned v ∧ zAX zBu w w' [v] xs := by
 have s : zEU.bk xs = xs.length + zBz zBr xs := rfl;have O : xs.length ≤ 1048576 := by omega
 have J : Hid (zBz zBr xs ≤ 1048576) := by unfold Hid; omega
 have K : Hid (zBg zBl w a xs) := h;clear s hm h;have q := Go.run_make_row' (P := Tryz.prog) 35 115 (sL none 0 0) 24 Tryz.underlying35 Tryz.infoWayS rfl .i64 .i64 xs.length (by omega) (by omega);go_enter Tryz.func62, Tryz.ntmps62;go_wp2;go_loopw [4] (fun i wr => ∃ k : Nat, k ≤ xs.length ∧ i = nI k ∧ Fill 115 zBl w wr xs.length (xs.take k)) (fun i _ => xs.length - (intOf i).toNat)
 case atStart => exact ⟨0, Nat.zero_le _, rfl, by simpa using zEP (e := 115) (R := zBl) (w0 := w) (n := xs.length) (cs := madeCells #[sL none 0 0] xs.length) (by unfold maxLen; omega) (by simp [size_madeCells]; exact (Nat.mul_one _).symm)⟩
 case round =>
  obtain ⟨k, hk, rfl, f⟩ := hrel;by_cases g : k < xs.length
  ·have y : (k : Int) < (xs.length : Int) := by omega
   obtain ⟨x, l⟩ : ∃ x, xs[k]? = some x := ⟨_, List.getElem?_eq_getElem g⟩;obtain ⟨b, I, c, rfl, ⟨aj, cj, rfl, N, D, j⟩, d⟩ := zBG (zAG K.out (zF7 f)) l;have L := d 0 _ rfl;rw [show k * zBl.size + 0 = k from Nat.mul_one k] at L;have F : Hid _ := j;have G : Hid (zBr.bk x ≤ 1048576) := by unfold Hid; have := zFi zBr xs l; have := J.out; omega
   have B : Hid (∀ w1 v, zAX zBl wr w1 [v] x → _) := fun w1 v hm => zF5 (w1 := w1) (c := [v]) f (by simp; omega) g hm;have M : Hid (xs.take k ++ [x] = xs.take (k + 1)) := by unfold Hid; rw [List.take_add_one, l]; rfl
   clear l j d q f;go_wp2_with (go_at_call 88; refine (zLK _ x _ _ F.out G.out).mono ?_; rintro e w1 ⟨v, rfl, r⟩; obtain ⟨av, cv, rfl⟩ := zBD r.1; obtain ⟨A, z, p⟩ := B.out _ _ r; obtain ⟨v0, m⟩ := A 0 (Nat.zero_lt_one); have E := z k; rw [show k * zBl.size + 0 = k from Nat.mul_one k] at m; rw [show k * zBl.size = k from Nat.mul_one k, M.out] at p; have C : Hid _ := p; clear p r A z)
   go_roundw
   case rel => exact ⟨k + 1, by omega, by go_num, C.out⟩
   case measure => simp [intOf]; omega
  ·have o : k = xs.length := by omega
   subst o;rw [List.take_length] at f;have H := zGv f rfl;clear f;go_wp2;go_ret
   exact ⟨_, rfl, H⟩
theorem zCd {w : World} {S S1 S2 : zAW} {c : List (List (Int × Int × List Int)) × List Int} {u v : Value} (h1 : zBu.own w S1 [u] c.1) (h2 : zA5.own w S2 [v] c.2) (s1 : Sub S1 S) (s2 : Sub S2 S) (hd : Dis S1 S2) : zAA.own w S [u, v] c :=
 ⟨[_], [_], S1, S2, rfl, h1, h2, s1, s2, hd⟩
theorem zCe {w : World} {S : zAW} {cs : List Value} {c : List (List (Int × Int × List Int)) × List Int} (h : zAA.own w S cs c) : ∃ u v b a, cs = [u, v] ∧ zBu.own w b [u] c.1 ∧ zA5.own w a [v] c.2 ∧ Sub b S ∧ Sub a S ∧ Dis b a := by
 obtain ⟨j, k, b, a, rfl, f, g, l, i, d⟩ := h;obtain ⟨u, rfl⟩ : ∃ u, j = [u] := List.length_eq_one_iff.1 (zBu.rd_len (zBu.own_rd f));obtain ⟨v, rfl⟩ : ∃ v, k = [v] := List.length_eq_one_iff.1 (zA5.rd_len (zA5.own_rd g));exact ⟨u, v, b, a, rfl, f, g, l, i, d⟩
theorem zBW {w : World} {g : Nat} {cs : Array Value} {t : TypeId} (h : w.heap[g]? = some (.cells cs t (0, 0))) : w.frozen? ⟨g, 0, none⟩ = false ∧ w.frozen? ⟨g, 1, none⟩ = false :=
 ⟨frozen_of_row w g 0 _ t h, frozen_of_row w g 1 _ t h⟩
theorem zKm (a b : Option Addr) (c : List (List (Int × Int × List Int)) × List Int) (cap cp : Nat) (w : World) (h1 : zBg zBl w a c.1) (h2 : zBg zBC w b c.2) (hm : zBa.bk c ≤ 1048576) :
    Calls Tryz.prog 26 #[.agg #[sL a c.1.length cap, sL b c.2.length cp]] w fun e w' => ∃ i f r p, e = .returned (.agg #[sL i c.1.length f, sL r c.2.length p]) ∧ zAX zAA w w' [sL i c.1.length f, sL r c.2.length p] c := by
 have J : zBa.bk c = zEU.bk c.1 + zBn.bk c.2 := rfl;have L : Hid (∀ W, Bl w W → zBg zBl W a c.1) := fun W hb => zA7 h1 fun k hk => hb.block k hk;have S : Hid (∀ W, Bl w W → zBg zBC W b c.2) := fun W hb => zA7 h2 fun k hk => hb.block k hk;have z : Hid (zEU.bk c.1 ≤ 1048576) := by unfold Hid; omega
 have B : Hid (zBn.bk c.2 ≤ 1048576) := by unfold Hid; omega
 clear h1 h2 J hm;go_enter Tryz.func26, Tryz.ntmps26;go_wp2_with fail
 have F : Bl w (((w.alloc (.cells #[sL a c.1.length cap, sL b c.2.length cp] 25)).alloc (.cells #[sL none 0 0, sL none 0 0] 37)).alloc (.cells #[sL none 0 0, sL none 0 0] 37)) := (((Below.refl _ w).alloc (Nat.le_refl _) _).alloc (by simp) _).alloc (by simp; omega) _;have y := zAK (.cells #[sL none 0 0, sL none 0 0] 37) (zAK (.cells #[sL none 0 0, sL none 0 0] 37) (zAx w (.cells #[sL a c.1.length cap, sL b c.2.length cp] 25)));have l := zAK (.cells #[sL none 0 0, sL none 0 0] 37) (zAx (w.alloc (.cells #[sL a c.1.length cap, sL b c.2.length cp] 25)) (.cells #[sL none 0 0, sL none 0 0] 37));have j := zAx ((w.alloc (.cells #[sL a c.1.length cap, sL b c.2.length cp] 25)).alloc (.cells #[sL none 0 0, sL none 0 0] 37)) (.cells #[sL none 0 0, sL none 0 0] 37);have Z : (((w.alloc (.cells #[sL a c.1.length cap, sL b c.2.length cp] 25)).alloc (.cells #[sL none 0 0, sL none 0 0] 37)).alloc (.cells #[sL none 0 0, sL none 0 0] 37)).heap.size = w.heap.size + 1 + 1 + 1 := by simp
 rw [zAp] at l;rw [zAp, zAp] at j;generalize ((w.alloc (.cells #[sL a c.1.length cap, sL b c.2.length cp] 25)).alloc (.cells #[sL none 0 0, sL none 0 0] 37)).alloc (.cells #[sL none 0 0, sL none 0 0] 37) = W0 at F y l j Z ⊢;refine (zKl _ c.1 _ _ (L.out _ F) z.out).mono ?_;rintro e q ⟨v, rfl, d⟩;obtain ⟨i, f, rfl⟩ := zBD d.1;have T := d.2.size;have O := zAb F d.2;have A : Hid (zBu.own q (rng W0.heap.size q.heap.size) [sL i c.1.length f] c.1) := d.1;replace y := zAa d.2 y;replace l := zAa d.2 l;replace j := zAa d.2 j;obtain ⟨V, p1⟩ := zBb y;obtain ⟨K, R⟩ := zBb j;obtain ⟨M, N⟩ := zBW j;have D : Hid _ := aI l j;clear y l j d L z;go_wp2_with fail
 obtain ⟨l, j⟩ := D.out;have E := zAq (g := w.heap.size + 1 + 1) (o := 0) (v := sL i c.1.length f) O (by omega);have n := heap_setCell_same q (w.heap.size + 1 + 1) 0 _ _ (sL i c.1.length f) j;have m := zAO (g := w.heap.size + 1 + 1) (o := 0) (v := sL i c.1.length f) l (by omega);have s := zAl (g := w.heap.size + 1 + 1) (o := 0) (v := sL i c.1.length f) A.out (fun h => by have := h.1; omega);have G : (q.setCell ⟨w.heap.size + 1 + 1, 0, none⟩ (sL i c.1.length f)).heap.size = q.heap.size := by simp
 clear l j D A M N K R F O V p1;generalize q.setCell ⟨w.heap.size + 1 + 1, 0, none⟩ (sL i c.1.length f) = w2 at E m n s G ⊢;refine (zDt _ c.2 _ _ (S.out _ E) B.out).mono ?_;rintro e C ⟨v, rfl, d⟩;obtain ⟨r, p, rfl⟩ := zBD d.1;have aA := d.2.size;have Y := zAb E d.2;have I : Hid (zBu.own C (rng W0.heap.size q.heap.size) [sL i c.1.length f] c.1) := zDs s d.2 (by omega);have H : Hid (zA5.own C (rng w2.heap.size C.heap.size) [sL r c.2.length p] c.2) := d.1;replace m := zAa d.2 m;replace n := zAa d.2 n;obtain ⟨K, R⟩ := zBb n;obtain ⟨M, N⟩ := zBW n;obtain ⟨z0, z1⟩ := zBb m;obtain ⟨g0, g1⟩ := zBW m;have D : Hid _ := aI m n;clear m n d S B s E;go_wp2;obtain ⟨m, n⟩ := D.out;have U := put2 (a := sL i c.1.length f) (b := sL r c.2.length p) (zAO (g := w.heap.size + 1 + 1) (o := 1) (v := sL r c.2.length p) m (by omega));obtain ⟨r0, X⟩ := zBb U;refine bodyPost_ret (v := .agg #[sL i c.1.length f, sL r c.2.length p]) (by simp [results, Tryz.results26, go_sem, r0, X]) rfl ⟨i, f, r, p, rfl, zCd (S1 := rng W0.heap.size q.heap.size) (S2 := rng w2.heap.size C.heap.size) ?_ ?_ (zCb (by omega) (by simp; omega)) (zCb (by omega) (by simp)) (zC1 (.inl (by omega))), ?_⟩
 ·exact zAl (zAl (zAl I.out (fun h => by have := h.1; omega)) (fun h => by have := h.1; omega)) (fun h => by have := h.1; omega)
 ·exact zAl (zAl (zAl H.out (fun h => by have := h.1; omega)) (fun h => by have := h.1; omega)) (fun h => by have := h.1; omega)
 ·exact zAq (zAq (zAq Y (by omega)) (by omega)) (by omega)
theorem zJg (l s : Int) (d : List Int) (a1 a2 : Option Addr) (c1 c2 : Nat) (w : World) (h1 : zBg zBC w a1 d) (h2 : zBg zBC w a2 d) (hm : zBn.bk d ≤ 1152921504606846976) :
    Calls Tryz.prog 39 #[.agg #[nI l, nI s, sL a1 d.length c1], .agg #[nI l, nI s, sL a2 d.length c2]] w fun e b => e = .returned (.bool true) ∧ Bl w b := by
 have a : Hid (∀ o o', Bl w ((w.alloc o).alloc o')) := fun o o' => zAb (zAf w o) (zAf _ o');have c : Hid (∀ W, Bl w W → zBg zBC W a1 d) := fun W hb => zA7 h1 fun k hk => hb.block k hk;have f : Hid (∀ W, Bl w W → zBg zBC W a2 d) := fun W hb => zA7 h2 fun k hk => hb.block k hk;clear h1 h2;go_enter Tryz.func39, Tryz.ntmps39;go_wp2_with fail
 refine (zDu a1 a2 d c1 c2 _ (c.out _ (a.out _ _)) (f.out _ (a.out _ _)) hm).mono ?_;rintro e b ⟨rfl, n, rfl⟩;go_wp2;go_ret
 exact ⟨rfl, zBt (a.out _ _) n⟩
theorem zLL (a1 a2 : Option Addr) (xs : List (Int × Int × List Int)) (c1 c2 : Nat) (w : World) (h1 : zBg zAR w a1 xs) (h2 : zBg zAR w a2 xs) (hm : (slM zBE).bk xs ≤ 1152921504606846976) :
    Calls Tryz.prog 107 #[sL a1 xs.length c1, sL a2 xs.length c2] w fun e w' => e = .returned (.bool true) ∧ Bl w w' := by
 have S : (slM zBE).bk xs = xs.length + zBz zBE xs := rfl;have Z : xs.length ≤ 1152921504606846976 := by omega
 have Y : Hid (zBz zBE xs ≤ 1152921504606846976) := by unfold Hid; omega
 have U : Hid (∀ W, Bl w W → zBg zAR W a1 xs) := fun W hb => zA7 h1 fun k J => hb.block k J;have H2 : Hid (∀ W, Bl w W → zBg zAR W a2 xs) := fun W hb => zA7 h2 fun k J => hb.block k J;clear S hm h1 h2;go_enter Tryz.func107, Tryz.ntmps107;go_wp2;go_loopw [5] (fun i wr => ∃ k : Nat, k ≤ xs.length ∧ i = nI k ∧ Bl w wr) (fun i _ => xs.length - (intOf i).toNat)
 case atStart => exact ⟨0, Nat.zero_le _, rfl, Below.refl _ _⟩
 case round =>
  obtain ⟨k, J, rfl, r⟩ := hrel;by_cases N : k < xs.length
  ·have T : (k : Int) < (xs.length : Int) := by omega
   obtain ⟨x, K⟩ : ∃ x, xs[k]? = some x := ⟨_, List.getElem?_eq_getElem N⟩;have X : Hid ((zBE).bk x ≤ 1152921504606846976) := by unfold Hid; have := zFi zBE xs K; have := Y.out; omega
   obtain ⟨M, a, V, rfl, p, d⟩ := zBG (U.out _ r) K;obtain ⟨A, G, rfl, -, -, -, -, E⟩ := zAL p;have j := d 0 _ rfl;have l := d 1 _ rfl;have m := d 2 _ rfl;rw [show a + (k * zAR.size + 0) = a + k * 3 from rfl] at j;rw [show a + (k * zAR.size + 1) = a + k * 3 + 1 from rfl] at l;rw [show a + (k * zAR.size + 2) = a + k * 3 + 2 from rfl] at m;have O : Hid (∀ n : Cls (fun wx => Bl wr wx), zBg zBC n.w A x.2.2) := fun n => zAG E n.h;clear d p E;obtain ⟨s, b, bA, rfl, q, c⟩ := zBG (H2.out _ r) K;obtain ⟨v, y, rfl, -, -, -, -, C⟩ := zAL q;have o := c 0 _ rfl;have g := c 1 _ rfl;have f := c 2 _ rfl;rw [show b + (k * zAR.size + 0) = b + k * 3 from rfl] at o;rw [show b + (k * zAR.size + 1) = b + k * 3 + 1 from rfl] at g;rw [show b + (k * zAR.size + 2) = b + k * 3 + 2 from rfl] at f;have L : Hid (∀ n : Cls (fun wx => Bl wr wx), zBg zBC n.w v x.2.2) := fun n => zAG C n.h;clear c q C;have z : ∀ n : Cls (fun wx => Bl wr wx), n.w.cell? ⟨M, a + k * 3, none⟩ = some (nI x.1) := fun n => zEq n.h j (zFT j);have I : ∀ n : Cls (fun wx => Bl wr wx), n.w.cell? ⟨M, a + k * 3 + 1, none⟩ = some (nI x.2.1) := fun n => zEq n.h l (zFT l);have B : ∀ n : Cls (fun wx => Bl wr wx), n.w.cell? ⟨M, a + k * 3 + 2, none⟩ = some (sL A x.2.2.length G) := fun n => zEq n.h m (zFT m);have H : ∀ n : Cls (fun wx => Bl wr wx), n.w.cell? ⟨s, b + k * 3, none⟩ = some (nI x.1) := fun n => zEq n.h o (zFT o);have D : ∀ n : Cls (fun wx => Bl wr wx), n.w.cell? ⟨s, b + k * 3 + 1, none⟩ = some (nI x.2.1) := fun n => zEq n.h g (zFT g);have F : ∀ n : Cls (fun wx => Bl wr wx), n.w.cell? ⟨s, b + k * 3 + 2, none⟩ = some (sL v x.2.2.length y) := fun n => zEq n.h f (zFT f);clear K j l m o g f;go_wp2_with fail
   refine zA8 (fun wx => Bl wr wx) (by kernel_rfl) (by kernel_rfl) ((Below.refl _ wr).drew) ?_;intro R;repeat (quiet_step ((go_at_call 39; exact zAz (zJg x.1 x.2.1 x.2.2 _ _ _ _ _ (O.out _) (L.out _) (by have := X.out; rw [bk_way] at this; exact this)) (fun w' hc bb => zAb hc bb))))
   refine wpQuiet_nil ?_;intro wx s;replace r := zAb r s;clear s R z I B H D F;go_wp2;go_roundw
   case rel => exact ⟨k + 1, by omega, by go_num, r⟩
   case measure => simp [intOf]; omega
  ·go_wp2;go_ret
   exact ⟨rfl, r⟩
theorem zKn (a1 a2 : Option Addr) (xs : List (List (Int × Int × List Int))) (c1 c2 : Nat) (w : World) (h1 : zBg zBl w a1 xs) (h2 : zBg zBl w a2 xs) (hm : (slM zBr).bk xs ≤ 1152921504606846976) :
    Calls Tryz.prog 76 #[sL a1 xs.length c1, sL a2 xs.length c2] w fun e w' => e = .returned (.bool true) ∧ Bl w w' := by
 have F : (slM zBr).bk xs = xs.length + zBz zBr xs := rfl;have M : xs.length ≤ 1152921504606846976 := by omega
 have L : Hid (zBz zBr xs ≤ 1152921504606846976) := by unfold Hid; omega
 have I : Hid (∀ W, Bl w W → zBg zBl W a1 xs) := fun W hb => zA7 h1 fun k s => hb.block k s;have N : Hid (∀ W, Bl w W → zBg zBl W a2 xs) := fun W hb => zA7 h2 fun k s => hb.block k s;clear F hm h1 h2;go_enter Tryz.func76, Tryz.ntmps76;go_wp2;go_loopw [5] (fun i wr => ∃ k : Nat, k ≤ xs.length ∧ i = nI k ∧ Bl w wr) (fun i _ => xs.length - (intOf i).toNat)
 case atStart => exact ⟨0, Nat.zero_le _, rfl, Below.refl _ _⟩
 case round =>
  obtain ⟨k, s, rfl, f⟩ := hrel;by_cases B : k < xs.length
  ·have G : (k : Int) < (xs.length : Int) := by omega
   obtain ⟨x, y⟩ : ∃ x, xs[k]? = some x := ⟨_, List.getElem?_eq_getElem B⟩;have K : Hid ((zBr).bk x ≤ 1152921504606846976) := by unfold Hid; have := zFi zBr xs y; have := L.out; omega
   obtain ⟨H, o, J, rfl, ⟨l, A, rfl, -, -, m⟩, b⟩ := zBG (I.out _ f) y;have c := b 0 _ rfl;rw [show k * zBl.size + 0 = k from Nat.mul_one k] at c;have C : Hid (∀ n : Cls (fun wx => Bl wr wx), zBg zAR n.w l x) := fun n => zAG m n.h;clear b m;obtain ⟨v, q, O, rfl, ⟨p, E, rfl, -, -, j⟩, a⟩ := zBG (N.out _ f) y;have d := a 0 _ rfl;rw [show k * zBl.size + 0 = k from Nat.mul_one k] at d;have z : Hid (∀ n : Cls (fun wx => Bl wr wx), zBg zAR n.w p x) := fun n => zAG j n.h;clear a j;have g : ∀ n : Cls (fun wx => Bl wr wx), n.w.cell? ⟨H, o + k, none⟩ = some (sL l x.length A) := fun n => zEq n.h c (zFT c);have r : ∀ n : Cls (fun wx => Bl wr wx), n.w.cell? ⟨v, q + k, none⟩ = some (sL p x.length E) := fun n => zEq n.h d (zFT d);clear y c d;go_wp2_with fail
   refine zA8 (fun wx => Bl wr wx) (by kernel_rfl) (by kernel_rfl) ((Below.refl _ wr).drew) ?_;intro D;repeat (quiet_step ((go_at_call 107; exact zAz (zLL _ _ x _ _ _ (C.out _) (z.out _) K.out) (fun w' hc bb => zAb hc bb))))
   refine wpQuiet_nil ?_;intro wx v;replace f := zAb f v;clear v D g r;go_wp2;go_roundw
   case rel => exact ⟨k + 1, by omega, by go_num, f⟩
   case measure => simp [intOf]; omega
  ·go_wp2;go_ret
   exact ⟨rfl, f⟩
theorem zKo (c : List (List (Int × Int × List Int)) × List Int) (a1 b1 a2 b2 : Option Addr) (c1 d1 c2 d2 : Nat) (w : World) (h1 : zBg zBl w a1 c.1) (k1 : zBg zBC w b1 c.2) (h2 : zBg zBl w a2 c.1) (k2 : zBg zBC w b2 c.2) (hm : zBa.bk c ≤ 1152921504606846976) :
    Calls Tryz.prog 37 #[.agg #[sL a1 c.1.length c1, sL b1 c.2.length d1], .agg #[sL a2 c.1.length c2, sL b2 c.2.length d2]] w fun e w' => e = .returned (.bool true) ∧ Bl w w' := by
 have j : zBa.bk c = zEU.bk c.1 + zBn.bk c.2 := rfl;have i : Hid (zEU.bk c.1 ≤ 1152921504606846976) := by unfold Hid; omega
 have l : Hid (zBn.bk c.2 ≤ 1152921504606846976) := by unfold Hid; omega
 have d : Hid (∀ W, Bl w W → zBg zBl W a1 c.1 ∧ zBg zBl W a2 c.1 ∧ zBg zBC W b1 c.2 ∧ zBg zBC W b2 c.2) := fun W hb => ⟨zA7 h1 fun k hk => hb.block k hk, zA7 h2 fun k hk => hb.block k hk, zA7 k1 fun k hk => hb.block k hk, zA7 k2 fun k hk => hb.block k hk⟩;clear h1 h2 k1 k2 j hm;have g := zAK (.cells #[sL a2 c.1.length c2, sL b2 c.2.length d2] 37) (zAx w (.cells #[sL a1 c.1.length c1, sL b1 c.2.length d1] 37));have f := zAx (w.alloc (.cells #[sL a1 c.1.length c1, sL b1 c.2.length d1] 37)) (.cells #[sL a2 c.1.length c2, sL b2 c.2.length d2] 37);have b := zAb (zAf w (.cells #[sL a1 c.1.length c1, sL b1 c.2.length d1] 37)) (zAf _ (.cells #[sL a2 c.1.length c2, sL b2 c.2.length d2] 37));rw [zAp] at f;go_enter Tryz.func37, Tryz.ntmps37;go_wp2_with fail
 generalize (w.alloc (.cells #[sL a1 c.1.length c1, sL b1 c.2.length d1] 37)).alloc (.cells #[sL a2 c.1.length c2, sL b2 c.2.length d2] 37) = W0 at g f b ⊢;refine (zKn a1 a2 c.1 c1 c2 _ (d.out _ b).1 (d.out _ b).2.1 i.out).mono ?_;rintro e w1 ⟨rfl, a⟩;replace b := zAb b a;obtain ⟨q, m⟩ := zBb (zAa a g);obtain ⟨o, p⟩ := zBb (zAa a f);clear a g f;go_wp2_with fail
 refine (zDu b1 b2 c.2 d1 d2 _ (d.out _ b).2.2.1 (d.out _ b).2.2.2 l.out).mono ?_;rintro e w2 ⟨rfl, n, rfl⟩;have r := zBt b n;clear q m o p;go_wp2;go_ret
 exact ⟨rfl, r⟩
end Go.Proofs.YtmdhblhdfcocjaaGreatDoor
