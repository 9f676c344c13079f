import Derived.Test.YtcocbafhcpdheaaGreatDoorT00Box
import Derived.Test.YtcocbafhcpdheaaGreatDoorT08
namespace Go.Proofs.YtcocbafhcpdheaaGreatDoor
set_option maxHeartbeats 1000000
open Go.ChangeShapes Go.WideShapes Go.ChangeAt Go.RowKit
set_option linter.unusedVariables false
theorem bk_way (u : Int × Int × List Int) : zCz.bk u = zAs.bk u.2.2 := by
 show 0 + (0 + zAs.bk u.2.2) = _
 omega
theorem zHA (a : Option Addr) (xs : List (Int × Int × List Int)) (cap : Nat) (left : Int) (w : World) (h : zA4 zBu w a xs) (h0 : 0 ≤ left) (h1 : left ≤ 1048576) (hm : xs.length ≤ maxLen) :
    Calls Tryz.prog 202 #[.slice a xs.length cap, .int .i64 left] w fun e r => e = .returned (.int .i64 (szI ((slM zCz).bk xs) left)) ∧ Below w.heap.size w r := by
 have K : xs.length ≤ 9223372036854775807 := hm;have j : (slM zCz).bk xs = xs.length + zA6 zCz xs := rfl;clear hm;by_cases hl : (xs.length : Int) ≤ left
 ·have B : ¬ (left - (xs.length : Int) < 0) := by omega
  have J : Hid _ := j;have S : Hid (zA4 zBu w a xs) := h;clear j h;go_enter Tryz.func202, Tryz.ntmps202;go_wp2;go_loopw [1, 5] (fun q i wr => ∃ k : Nat, k ≤ xs.length ∧ i = .int .i64 k ∧ (zA6 zCz (xs.take k) : Int) + xs.length ≤ left ∧ q = .int .i64 (left - (xs.length : Int) - zA6 zCz (xs.take k)) ∧ Below w.heap.size w wr) (fun _ i _ => xs.length - (intOf i).toNat)
  case atStart => exact ⟨0, Nat.zero_le _, rfl, by simp [zA6]; omega, by simp [zA6], Below.refl _ _⟩
  case round =>
   obtain ⟨k, I, rfl, D, rfl, g⟩ := hrel;by_cases v : k < xs.length
   ·have F : (k : Int) < (xs.length : Int) := by omega
    obtain ⟨x, p⟩ : ∃ x, xs[k]? = some x := ⟨_, List.getElem?_eq_getElem v⟩;have G := zAq S.out fun k I => g.block k I;obtain ⟨b, d, cs, rfl, f, c⟩ := zAy G p;obtain ⟨N, O, rfl, -, -, n, l, o⟩ := zBz f;have U := c 0 _ rfl;have R := c 1 _ rfl;have V := c 2 _ rfl;rw [show d + (k * zBu.size + 0) = d + k * 3 from rfl] at U;rw [show d + (k * zBu.size + 1) = d + k * 3 + 1 from rfl] at R;rw [show d + (k * zBu.size + 2) = d + k * 3 + 2 from rfl] at V;have H : Hid (x.2.2.length ≤ maxLen) := Nat.le_trans n l;have HR : Hid (zA4 zAG wr N x.2.2) := o;clear c f n l o;have A : Hid _ := zCu (M := zCz) p;have y := zCm (M := zCz) p;clear p G;generalize zA6 zCz (xs.take k) = T at D A y ⊢;by_cases E : (((zCz).bk x : Nat) : Int) ≤ left - (xs.length : Int) - (T : Int)
    ·have L : ¬ (left - (xs.length : Int) - (T : Int) - (((zCz).bk x : Nat) : Int) < 0) := by omega
     have C : Hid (szI ((zCz).bk x) (left - (xs.length : Int) - (T : Int)) = _) := zAF E;go_wp2_with (go_at_call 110; refine (zG2 x.1 x.2.1 x.2.2 _ _ _ _ (by omega) (by omega) H.out).mono ?_; rintro e r ⟨rfl, m⟩; replace g := zAa g m; clear m; rw [C.out])
     go_roundw
     case rel => exact ⟨k + 1, by omega, by go_num, by have := A.out; omega, by rw [A.out]; go_num, g⟩
     case measure => simp [intOf]; omega
    ·have C : Hid (szI ((zCz).bk x) (left - (xs.length : Int) - (T : Int)) = _) := zAE E;have s : Hid (szI ((slM zCz).bk xs) left = -1) := by unfold Hid; rw [J.out]; exact zAE (by omega)
     go_wp2_with (go_at_call 110; refine (zG2 x.1 x.2.1 x.2.2 _ _ _ _ (by omega) (by omega) H.out).mono ?_; rintro e r ⟨rfl, m⟩; replace g := zAa g m; clear m; rw [C.out])
     go_ret
     exact ⟨zAx s.out.symm, g⟩
   ·have z : k = xs.length := by omega
    subst z;rw [List.take_length] at D ⊢;have s : Hid (szI ((slM zCz).bk xs) left = left - (xs.length : Int) - (zA6 zCz xs : Int)) := by unfold Hid; rw [J.out, zAF (by omega)]; omega
    go_wp2;go_ret
    exact ⟨zAx s.out.symm, g⟩
 ·have B : left - (xs.length : Int) < 0 := by omega
  rw [zAE (by omega)];clear j h;go_enter Tryz.func202, Tryz.ntmps202;go_wp2;go_ret
  exact ⟨rfl, Below.refl _ _⟩
theorem zKh (a : Option Addr) (xs : List (List (Int × Int × List Int))) (cap : Nat) (left : Int) (w : World) (h : zA4 zBh w a xs) (h0 : 0 ≤ left) (h1 : left ≤ 1048576) (hm : xs.length ≤ maxLen) :
    Calls Tryz.prog 157 #[.slice a xs.length cap, .int .i64 left] w fun e o => e = .returned (.int .i64 (szI ((slM zB6).bk xs) left)) ∧ Below w.heap.size w o := by
 have J : xs.length ≤ 9223372036854775807 := hm;have f : (slM zB6).bk xs = xs.length + zA6 zB6 xs := rfl;clear hm;by_cases hl : (xs.length : Int) ≤ left
 ·have z : ¬ (left - (xs.length : Int) < 0) := by omega
  have I : Hid _ := f;have L : Hid (zA4 zBh w a xs) := h;clear f h;go_enter Tryz.func157, Tryz.ntmps157;go_wp2;go_loopw [1, 5] (fun q i wr => ∃ k : Nat, k ≤ xs.length ∧ i = .int .i64 k ∧ (zA6 zB6 (xs.take k) : Int) + xs.length ≤ left ∧ q = .int .i64 (left - (xs.length : Int) - zA6 zB6 (xs.take k)) ∧ Below w.heap.size w wr) (fun _ i _ => xs.length - (intOf i).toNat)
  case atStart => exact ⟨0, Nat.zero_le _, rfl, by simp [zA6]; omega, by simp [zA6], Below.refl _ _⟩
  case round =>
   obtain ⟨k, H, rfl, B, rfl, d⟩ := hrel;by_cases r : k < xs.length
   ·have E : (k : Int) < (xs.length : Int) := by omega
    obtain ⟨x, n⟩ : ∃ x, xs[k]? = some x := ⟨_, List.getElem?_eq_getElem r⟩;have F := zAq L.out fun k H => d.block k H;obtain ⟨b, R, cs, rfl, ⟨O, cj, rfl, l, g, m⟩, c⟩ := zAy F n;have N := c 0 _ rfl;rw [show k * zBh.size + 0 = k from Nat.mul_one k] at N;have G : Hid (x.length ≤ maxLen) := Nat.le_trans l g;have C : Hid (zA4 zBu wr O x) := m;clear c l g m;have y : Hid _ := zCu (M := zB6) n;have s := zCm (M := zB6) n;clear n F;generalize zA6 zB6 (xs.take k) = T at B y s ⊢;by_cases D : (((zB6).bk x : Nat) : Int) ≤ left - (xs.length : Int) - (T : Int)
    ·have K : ¬ (left - (xs.length : Int) - (T : Int) - (((zB6).bk x : Nat) : Int) < 0) := by omega
     have A : Hid (szI ((zB6).bk x) (left - (xs.length : Int) - (T : Int)) = _) := zAF D;go_wp2_with (go_at_call 202; refine (zHA _ x _ _ _ C.out (by omega) (by omega) G.out).mono ?_; rintro e o ⟨rfl, j⟩; replace d := zAa d j; clear j; rw [A.out])
     go_roundw
     case rel => exact ⟨k + 1, by omega, by go_num, by have := y.out; omega, by rw [y.out]; go_num, d⟩
     case measure => simp [intOf]; omega
    ·have A : Hid (szI ((zB6).bk x) (left - (xs.length : Int) - (T : Int)) = _) := zAE D;have p : Hid (szI ((slM zB6).bk xs) left = -1) := by unfold Hid; rw [I.out]; exact zAE (by omega)
     go_wp2_with (go_at_call 202; refine (zHA _ x _ _ _ C.out (by omega) (by omega) G.out).mono ?_; rintro e o ⟨rfl, j⟩; replace d := zAa d j; clear j; rw [A.out])
     go_ret
     exact ⟨zAx p.out.symm, d⟩
   ·have v : k = xs.length := by omega
    subst v;rw [List.take_length] at B ⊢;have p : Hid (szI ((slM zB6).bk xs) left = left - (xs.length : Int) - (zA6 zB6 xs : Int)) := by unfold Hid; rw [I.out, zAF (by omega)]; omega
    go_wp2;go_ret
    exact ⟨zAx p.out.symm, d⟩
 ·have z : left - (xs.length : Int) < 0 := by omega
  rw [zAE (by omega)];clear f h;go_enter Tryz.func157, Tryz.ntmps157;go_wp2;go_ret
  exact ⟨rfl, Below.refl _ _⟩
theorem zKi (a b : Option Addr) (c : List (List (Int × Int × List Int)) × List Int) (cap cp : Nat) (left : Int) (w : World) (h : zA4 zBh w a c.1) (h0 : 0 ≤ left) (h1 : left ≤ 1048576) (m1 : c.1.length ≤ maxLen) (m2 : c.2.length ≤ maxLen) :
    Calls Tryz.prog 108 #[.agg #[.slice a c.1.length cap, .slice b c.2.length cp], .int .i64 left] w fun e k => e = .returned (.int .i64 (szI (zCO.bk c) left)) ∧ Below w.heap.size w k := by
 have m : zCO.bk c = zBy.bk c.1 + zAs.bk c.2 := rfl;rw [m];have X := heap_alloc_new w (.cells #[.slice a c.1.length cap, .slice b c.2.length cp] 101);have j := zAf w (.cells #[.slice a c.1.length cap, .slice b c.2.length cp] 101);have H : Hid (∀ o, zA4 zBh (w.alloc o) a c.1) := fun o => zAm h (zAf w o);clear h m;generalize i : zBy.bk c.1 = n1;generalize g : zAs.bk c.2 = n2;have f := zKh a c.1 cap left (w.alloc (.cells #[.slice a c.1.length cap, .slice b c.2.length cp] 101)) (H.out _) h0 h1 m1;rw [i] at f;by_cases A : (n1 : Int) ≤ left
 ·rw [zAF A] at f;have B : ¬ (left - (n1 : Int) < 0) := by omega
  have s : Hid (∀ W, Calls Tryz.prog 106 #[.slice b c.2.length cp, .int .i64 (left - (n1 : Int))] W fun e k => e = .returned (.int .i64 (szI n2 (left - (n1 : Int)))) ∧ k = W) := fun W => by
   have := zBg b c.2 cp (left - (n1 : Int)) W (by omega) (by omega) m2;rwa [g] at this
  clear i g H m1 m2;by_cases p : (n2 : Int) ≤ left - (n1 : Int)
  ·have l : Hid (szI (n1 + n2) left = left - (n1 : Int) - (n2 : Int)) := by unfold Hid; rw [zAF (by omega)]; omega
   have y : ¬ (left - (n1 : Int) - (n2 : Int) < 0) := by omega
   have q : Hid (szI n2 (left - (n1 : Int)) = left - (n1 : Int) - (n2 : Int)) := zAF p;go_enter Tryz.func108, Tryz.ntmps108;go_wp2_with fail
   refine f.mono ?_;rintro e v ⟨rfl, d⟩;obtain ⟨r, z⟩ := zBE (zAb d X);have n := zAa j d;clear d X j f;go_wp2_with (go_at_call 106; refine (s.out _).mono ?_; rintro e k ⟨rfl, rfl⟩; rw [q.out])
   go_ret
   exact ⟨zAx l.out.symm, n⟩
  ·have l : Hid (szI (n1 + n2) left = -1) := by unfold Hid; exact zAE (by omega)
   have q : Hid (szI n2 (left - (n1 : Int)) = -1) := zAE p;go_enter Tryz.func108, Tryz.ntmps108;go_wp2_with fail
   refine f.mono ?_;rintro e v ⟨rfl, d⟩;obtain ⟨r, z⟩ := zBE (zAb d X);have n := zAa j d;clear d X j f;go_wp2_with (go_at_call 106; refine (s.out _).mono ?_; rintro e k ⟨rfl, rfl⟩; rw [q.out])
   go_ret
   exact ⟨zAx l.out.symm, n⟩
 ·rw [zAE A] at f;have l : Hid (szI (n1 + n2) left = -1) := by unfold Hid; exact zAE (by omega)
  clear i g H m1 m2;go_enter Tryz.func108, Tryz.ntmps108;go_wp2_with fail
  refine f.mono ?_;rintro e v ⟨rfl, d⟩;obtain ⟨r, z⟩ := zBE (zAb d X);have n := zAa j d;clear d X j f;go_wp2;go_ret
  exact ⟨zAx l.out.symm, n⟩
theorem zCh {w : World} {g : Nat} {x y z : Value} {t : TypeId} (h : w.heap[g]? = some (.cells #[x, y, z] t (0, 0))) :
    w.cell? ⟨g, 0, none⟩ = some x ∧ w.cell? ⟨g, 1, none⟩ = some y ∧ w.cell? ⟨g, 2, none⟩ = some z :=
 ⟨by rw [cell_of_row w g 0 _ t (0, 0) h]; rfl, by rw [cell_of_row w g 1 _ t (0, 0) h]; rfl, by rw [cell_of_row w g 2 _ t (0, 0) h]; rfl⟩
theorem zCA {w : World} {g : Nat} {cs : Array Value} {t : TypeId} (h : w.heap[g]? = some (.cells cs t (0, 0))) : w.frozen? ⟨g, 0, none⟩ = false ∧ w.frozen? ⟨g, 1, none⟩ = false ∧ w.frozen? ⟨g, 2, none⟩ = false :=
 ⟨frozen_of_row w g 0 _ t h, frozen_of_row w g 1 _ t h, frozen_of_row w g 2 _ t h⟩
theorem put3 {w : World} {g : Nat} {x y z a b c : Value} {t : TypeId} (h : w.heap[g]? = some (.cells #[x, y, z] t (0, 0))) :
    (((w.setCell ⟨g, 0, none⟩ a).setCell ⟨g, 1, none⟩ b).setCell ⟨g, 2, none⟩ c).heap[g]? = some (.cells #[a, b, c] t (0, 0)) := by
 have f := heap_setCell_same w g 0 _ t a h;have d := heap_setCell_same _ g 1 _ t b f;exact heap_setCell_same _ g 2 _ t c d
theorem put2 {w : World} {g : Nat} {x y a b : Value} {t : TypeId} (h : w.heap[g]? = some (.cells #[x, y] t (0, 0))) :
    ((w.setCell ⟨g, 0, none⟩ a).setCell ⟨g, 1, none⟩ b).heap[g]? = some (.cells #[a, b] t (0, 0)) := by
 have c := heap_setCell_same w g 0 _ t a h;exact heap_setCell_same _ g 1 _ t b c
theorem zIZ (l s : Int) (d : List Int) (a : Option Addr) (cap : Nat) (w : World) (i1 : zAN l) (i2 : zAN s) (h : zA4 zAG w a d) (hm : zAs.bk d ≤ 1048576) :
    Calls Tryz.prog 116 #[.agg #[.int .i64 l, .int .i64 s, .slice a d.length cap]] w fun e w' => ∃ m p, e = .returned (.agg #[.int .i64 l, .int .i64 s, .slice m d.length p]) ∧ zAI zBu w w' [.int .i64 l, .int .i64 s, .slice m d.length p] (l, s, d) := by
 have H : Hid (∀ W, Below w.heap.size w W → zA4 zAG W a d) := fun W hb => zAq h fun k hk => hb.block k hk;clear h;go_enter Tryz.func116, Tryz.ntmps116;go_wp2_with fail
 have r : Below w.heap.size w (((w.alloc (.cells #[.int .i64 l, .int .i64 s, .slice a d.length cap] 103)).alloc (.cells #[.int .i64 0, .int .i64 0, .slice none 0 0] 88)).alloc (.cells #[.int .i64 l, .int .i64 s, .slice none 0 0] 88)) := (((Below.refl _ w).alloc (Nat.le_refl _) _).alloc (by simp) _).alloc (by simp; omega) _;have f := zA3 (.cells #[.int .i64 l, .int .i64 s, .slice none 0 0] 88) (zAn (w.alloc (.cells #[.int .i64 l, .int .i64 s, .slice a d.length cap] 103)) (.cells #[.int .i64 0, .int .i64 0, .slice none 0 0] 88));have i := zAn ((w.alloc (.cells #[.int .i64 l, .int .i64 s, .slice a d.length cap] 103)).alloc (.cells #[.int .i64 0, .int .i64 0, .slice none 0 0] 88)) (.cells #[.int .i64 l, .int .i64 s, .slice none 0 0] 88);have F : (((w.alloc (.cells #[.int .i64 l, .int .i64 s, .slice a d.length cap] 103)).alloc (.cells #[.int .i64 0, .int .i64 0, .slice none 0 0] 88)).alloc (.cells #[.int .i64 l, .int .i64 s, .slice none 0 0] 88)).heap.size = w.heap.size + 1 + 1 + 1 := by simp
 rw [zAv] at f;rw [zAv, zAv] at i;generalize ((w.alloc (.cells #[.int .i64 l, .int .i64 s, .slice a d.length cap] 103)).alloc (.cells #[.int .i64 0, .int .i64 0, .slice none 0 0] 88)).alloc (.cells #[.int .i64 l, .int .i64 s, .slice none 0 0] 88) = W0 at r f i F ⊢;refine (zCn _ d _ _ (H.out _ r) hm).mono ?_;rintro e w1 ⟨v, rfl, q⟩;obtain ⟨m, p, rfl⟩ := zBx q.1;have n := q.2;have j := q.1;have y := zAa r n;replace f := zAb n f;replace i := zAb n i;obtain ⟨y0, y1, y2⟩ := zCh i;obtain ⟨f0, f1, f2⟩ := zCA i;obtain ⟨z0, z1, z2⟩ := zCh f;obtain ⟨g0, g1, g2⟩ := zCA f;have B : Hid _ := And.intro f i;have E : Hid _ := j;clear f i j q H;go_wp2;obtain ⟨f, i⟩ := B.out;have D := put3 (a := .int .i64 l) (b := .int .i64 s) (c := .slice m d.length p) (zAp (g := w.heap.size + 1 + 1) (o := 2) (v := .slice m d.length p) f (by omega));obtain ⟨z, C, A⟩ := zCh D;refine bodyPost_ret (v := .agg #[.int .i64 l, .int .i64 s, .slice m d.length p]) (by simp [results, Tryz.results116, go_sem, z, C, A]) rfl ⟨m, p, rfl, zEP i1 i2 ?_, ?_⟩
 ·refine zA0.own_mono (zAc (zAc (zAc (zAc E.out (fun h => by have := h.1; omega)) (fun h => by have := h.1; omega)) (fun h => by have := h.1; omega)) (fun h => by have := h.1; omega)) ?_;exact zAZ (by omega) (by simp)
 ·exact zAi (zAi (zAi (zAi y (by omega)) (by omega)) (by omega)) (by omega)
theorem Tryz.infoWay : (Tryz.prog.info? 88).map (fun i => (i.zero, i.size, i.bytes)) = some (some (.agg #[.int .i64 0, .int .i64 0, .slice none 0 0]), 3, 40) := by kernel_rfl
theorem zMe (a : Option Addr) (xs : List (Int × Int × List Int)) (cap : Nat) (w : World) (h : zA4 zBu w a xs) (hm : zB6.bk xs ≤ 1048576) :
    Calls Tryz.prog 203 #[.slice a xs.length cap] w fun e w' => ∃ v, e = .returned v ∧ zAI zBh w w' [v] xs := by
 have C : zB6.bk xs = xs.length + zA6 zCz xs := rfl;have T : xs.length ≤ 1048576 := by omega
 have HB : Hid (zA6 zCz xs ≤ 1048576) := by unfold Hid; omega
 have Y : Hid (zA4 zBu w a xs) := h;clear C hm h;have D := zBW (P := Tryz.prog) 143 88 (.agg #[.int .i64 0, .int .i64 0, .slice none 0 0]) 3 40 Tryz.underlying143 Tryz.infoWay xs.length (by omega) (by omega);go_enter Tryz.func203, Tryz.ntmps203;go_wp2;go_loopw [4] (fun i wr => ∃ k : Nat, k ≤ xs.length ∧ i = .int .i64 k ∧ zLa 88 zBu w wr xs.length (xs.take k)) (fun i _ => xs.length - (intOf i).toNat)
 case atStart => exact ⟨0, Nat.zero_le _, rfl, by simpa using zBV (e := 88) (R := zBu) (w0 := w) (n := xs.length) (cs := madeCells #[.int .i64 0, .int .i64 0, .slice none 0 0] (xs.length * 3)) (by unfold maxLen; omega) (by rw [size_madeCells]; rfl)⟩
 case round =>
  obtain ⟨k, hk, rfl, j⟩ := hrel;by_cases l : k < xs.length
  ·have F : (k : Int) < (xs.length : Int) := by omega
   obtain ⟨x, o⟩ : ∃ x, xs[k]? = some x := ⟨_, List.getElem?_eq_getElem l⟩;obtain ⟨b, f, cs, rfl, g, d⟩ := zAy (zAm Y.out (zCx j)) o;obtain ⟨S, U, rfl, K, H, y, r, m⟩ := zBz g;have M := d 0 _ rfl;have J := d 1 _ rfl;have N := d 2 _ rfl;rw [show f + (k * zBu.size + 0) = f + k * 3 from rfl] at M;rw [show f + (k * zBu.size + 1) = f + k * 3 + 1 from rfl] at J;rw [show f + (k * zBu.size + 2) = f + k * 3 + 2 from rfl] at N;have X : Hid (zAs.bk x.2.2 ≤ 1048576) := by unfold Hid; have := zBX zCz xs o; rw [bk_way] at this; have := HB.out; omega
   have O : Hid (zA4 zAG wr S x.2.2) := m;have L : Hid (zAN x.1 ∧ zAN x.2.1) := ⟨K, H⟩;have G : Hid (∀ w1 c, zAI zBu wr w1 c x → _) := fun w1 c hm => zCt (w1 := w1) (c := c) j (by simp; omega) l hm;have V : Hid (xs.take k ++ [x] = xs.take (k + 1)) := by unfold Hid; rw [List.take_add_one, o]; rfl
   clear o g d D j y r m K H;go_wp2_with fail
   refine (zIZ x.1 x.2.1 x.2.2 _ _ _ L.out.1 L.out.2 O.out X.out).mono ?_;rintro e w1 ⟨av, cv, rfl, I⟩;obtain ⟨p, q, B⟩ := G.out _ _ I;obtain ⟨v0, E⟩ := p 0 (by decide);obtain ⟨v1, s⟩ := p 1 (by decide);obtain ⟨v2, A⟩ := p 2 (by decide);have z0 := q (k * 3);have z1 := q (k * 3 + 1);have z2 := q (k * 3 + 2);rw [show k * zBu.size + 0 = k * 3 from rfl] at E;rw [show k * zBu.size + 1 = k * 3 + 1 from rfl] at s;rw [show k * zBu.size + 2 = k * 3 + 2 from rfl] at A;rw [V.out] at B;have Z : Hid _ := B;clear B I p q G M J N;go_wp2;go_roundw
   case rel => exact ⟨k + 1, by omega, by go_num, Z.out⟩
   case measure => simp [intOf]; omega
  ·have z : k = xs.length := by omega
   subst z;rw [List.take_length] at j;have FE := zCD j rfl;clear j;go_wp2;go_ret
   exact ⟨_, rfl, FE⟩
theorem zEi {w w' : World} {D b o : Nat} {u : Value} (hb : Below D w w') (h : w.cell? ⟨b, o, none⟩ = some u) (hl : b < D) : w'.cell? ⟨b, o, none⟩ = some u :=
 (World.cell?_of_block (w := w) (a := ⟨b, o, none⟩) (hb.block b hl)).trans h
theorem zFI {w : World} {b o : Nat} {u : Value} (h : w.cell? ⟨b, o, none⟩ = some u) : b < w.heap.size := World.block_lt_of_cell? w _ h
theorem Tryz.infoWayS : (Tryz.prog.info? 143).map (fun i => (i.zero, i.size, i.bytes)) = some (some (.slice none 0 0), 1, 24) := by kernel_rfl
theorem zKj (a : Option Addr) (xs : List (List (Int × Int × List Int))) (cap : Nat) (w : World) (h : zA4 zBh w a xs) (hm : zBy.bk xs ≤ 1048576) :
    Calls Tryz.prog 158 #[.slice a xs.length cap] w fun e w' => ∃ v, e = .returned v ∧ zAI zFW w w' [v] xs := by
 have q : zBy.bk xs = xs.length + zA6 zB6 xs := rfl;have E : xs.length ≤ 1048576 := by omega
 have O : Hid (zA6 zB6 xs ≤ 1048576) := by unfold Hid; omega
 have J : Hid (zA4 zBh w a xs) := h;clear q hm h;have r := Go.run_make_row' (P := Tryz.prog) 90 143 (.slice none 0 0) 24 Tryz.underlying90 Tryz.infoWayS rfl .i64 .i64 xs.length (by omega) (by omega);go_enter Tryz.func158, Tryz.ntmps158;go_wp2;go_loopw [4] (fun i wr => ∃ k : Nat, k ≤ xs.length ∧ i = .int .i64 k ∧ zLa 143 zBh w wr xs.length (xs.take k)) (fun i _ => xs.length - (intOf i).toNat)
 case atStart => exact ⟨0, Nat.zero_le _, rfl, by simpa using zBV (e := 143) (R := zBh) (w0 := w) (n := xs.length) (cs := madeCells #[.slice none 0 0] xs.length) (by unfold maxLen; omega) (by simp [size_madeCells]; exact (Nat.mul_one _).symm)⟩
 case round =>
  obtain ⟨k, hk, rfl, f⟩ := hrel;by_cases j : k < xs.length
  ·have y : (k : Int) < (xs.length : Int) := by omega
   obtain ⟨x, l⟩ : ∃ x, xs[k]? = some x := ⟨_, List.getElem?_eq_getElem j⟩;obtain ⟨b, N, c, rfl, ⟨aj, cj, rfl, G, B, g⟩, d⟩ := zAy (zAm J.out (zCx f)) l;have D := d 0 _ rfl;rw [show k * zBh.size + 0 = k from Nat.mul_one k] at D;have C : Hid _ := g;have I : Hid (zB6.bk x ≤ 1048576) := by unfold Hid; have := zBX zB6 xs l; have := O.out; omega
   have F : Hid (∀ w1 v, zAI zBh wr w1 [v] x → _) := fun w1 v hm => zCt (w1 := w1) (c := [v]) f (by simp; omega) j hm;have H : Hid (xs.take k ++ [x] = xs.take (k + 1)) := by unfold Hid; rw [List.take_add_one, l]; rfl
   clear l g d r f;go_wp2_with (go_at_call 203; refine (zMe _ x _ _ C.out I.out).mono ?_; rintro e w1 ⟨v, rfl, o⟩; obtain ⟨av, cv, rfl⟩ := zBx o.1; obtain ⟨z, A, p⟩ := F.out _ _ o; obtain ⟨v0, s⟩ := z 0 (Nat.zero_lt_one); have L := A k; rw [show k * zBh.size + 0 = k from Nat.mul_one k] at s; rw [show k * zBh.size = k from Nat.mul_one k, H.out] at p; have K : Hid _ := p; clear p o z A)
   go_roundw
   case rel => exact ⟨k + 1, by omega, by go_num, K.out⟩
   case measure => simp [intOf]; omega
  ·have m : k = xs.length := by omega
   subst m;rw [List.take_length] at f;have M := zCD f rfl;clear f;go_wp2;go_ret
   exact ⟨_, rfl, M⟩
theorem zJa {w : World} {S S1 S2 : zBo} {c : List (List (Int × Int × List Int)) × List Int} {u v : Value} (h1 : zFW.own w S1 [u] c.1) (h2 : zA0.own w S2 [v] c.2) (s1 : Sub S1 S) (s2 : Sub S2 S) (hd : Dis S1 S2) : zBQ.own w S [u, v] c :=
 ⟨[_], [_], S1, S2, rfl, h1, h2, s1, s2, hd⟩
theorem zN9 {w : World} {S : zBo} {cs : List Value} {c : List (List (Int × Int × List Int)) × List Int} (h : zBQ.own w S cs c) : ∃ u v a b, cs = [u, v] ∧ zFW.own w a [u] c.1 ∧ zA0.own w b [v] c.2 ∧ Sub a S ∧ Sub b S ∧ Dis a b := by
 obtain ⟨l, j, a, b, rfl, f, g, k, i, d⟩ := h;obtain ⟨u, rfl⟩ : ∃ u, l = [u] := List.length_eq_one_iff.1 (zFW.rd_len (zFW.own_rd f));obtain ⟨v, rfl⟩ : ∃ v, j = [v] := List.length_eq_one_iff.1 (zA0.rd_len (zA0.own_rd g));exact ⟨u, v, a, b, rfl, f, g, k, i, d⟩
theorem zES {w : World} {g : Nat} {cs : Array Value} {t : TypeId} (h : w.heap[g]? = some (.cells cs t (0, 0))) : w.frozen? ⟨g, 0, none⟩ = false ∧ w.frozen? ⟨g, 1, none⟩ = false :=
 ⟨frozen_of_row w g 0 _ t h, frozen_of_row w g 1 _ t h⟩
theorem zKk (a b : Option Addr) (c : List (List (Int × Int × List Int)) × List Int) (cap cp : Nat) (w : World) (h1 : zA4 zBh w a c.1) (h2 : zA4 zAG w b c.2) (hm : zCO.bk c ≤ 1048576) :
    Calls Tryz.prog 114 #[.agg #[.slice a c.1.length cap, .slice b c.2.length cp]] w fun e w' => ∃ f i n p, e = .returned (.agg #[.slice f c.1.length i, .slice n c.2.length p]) ∧ zAI zBQ w w' [.slice f c.1.length i, .slice n c.2.length p] c := by
 have H : zCO.bk c = zBy.bk c.1 + zAs.bk c.2 := rfl;have K : Hid (∀ W, Below w.heap.size w W → zA4 zBh W a c.1) := fun W hb => zAq h1 fun k hk => hb.block k hk;have R : Hid (∀ W, Below w.heap.size w W → zA4 zAG W b c.2) := fun W hb => zAq h2 fun k hk => hb.block k hk;have y : Hid (zBy.bk c.1 ≤ 1048576) := by unfold Hid; omega
 have z : Hid (zAs.bk c.2 ≤ 1048576) := by unfold Hid; omega
 clear h1 h2 H hm;go_enter Tryz.func114, Tryz.ntmps114;go_wp2_with fail
 have C : Below w.heap.size w (((w.alloc (.cells #[.slice a c.1.length cap, .slice b c.2.length cp] 101)).alloc (.cells #[.slice none 0 0, .slice none 0 0] 92)).alloc (.cells #[.slice none 0 0, .slice none 0 0] 92)) := (((Below.refl _ w).alloc (Nat.le_refl _) _).alloc (by simp) _).alloc (by simp; omega) _;have A := zA3 (.cells #[.slice none 0 0, .slice none 0 0] 92) (zA3 (.cells #[.slice none 0 0, .slice none 0 0] 92) (zAn w (.cells #[.slice a c.1.length cap, .slice b c.2.length cp] 101)));have m := zA3 (.cells #[.slice none 0 0, .slice none 0 0] 92) (zAn (w.alloc (.cells #[.slice a c.1.length cap, .slice b c.2.length cp] 101)) (.cells #[.slice none 0 0, .slice none 0 0] 92));have j := zAn ((w.alloc (.cells #[.slice a c.1.length cap, .slice b c.2.length cp] 101)).alloc (.cells #[.slice none 0 0, .slice none 0 0] 92)) (.cells #[.slice none 0 0, .slice none 0 0] 92);have e3 : (((w.alloc (.cells #[.slice a c.1.length cap, .slice b c.2.length cp] 101)).alloc (.cells #[.slice none 0 0, .slice none 0 0] 92)).alloc (.cells #[.slice none 0 0, .slice none 0 0] 92)).heap.size = w.heap.size + 1 + 1 + 1 := by simp
 rw [zAv] at m;rw [zAv, zAv] at j;generalize ((w.alloc (.cells #[.slice a c.1.length cap, .slice b c.2.length cp] 101)).alloc (.cells #[.slice none 0 0, .slice none 0 0] 92)).alloc (.cells #[.slice none 0 0, .slice none 0 0] 92) = W0 at C A m j e3 ⊢;refine (zKj _ c.1 _ _ (K.out _ C) y.out).mono ?_;rintro e r ⟨v, rfl, d⟩;obtain ⟨f, i, rfl⟩ := zBx d.1;have cA := d.2.size;have L := zAa C d.2;have B : Hid (zFW.own r (rng W0.heap.size r.heap.size) [.slice f c.1.length i] c.1) := d.1;replace A := zAb d.2 A;replace m := zAb d.2 m;replace j := zAb d.2 j;obtain ⟨Z, T⟩ := zBE A;obtain ⟨O, S⟩ := zBE j;obtain ⟨M, N⟩ := zES j;have E : Hid _ := And.intro m j;clear A m j d K y;go_wp2_with fail
 obtain ⟨m, j⟩ := E.out;have F := zAi (g := w.heap.size + 1 + 1) (o := 0) (v := .slice f c.1.length i) L (by omega);have q := heap_setCell_same r (w.heap.size + 1 + 1) 0 _ _ (.slice f c.1.length i) j;have l := zAp (g := w.heap.size + 1 + 1) (o := 0) (v := .slice f c.1.length i) m (by omega);have s := zAc (g := w.heap.size + 1 + 1) (o := 0) (v := .slice f c.1.length i) B.out (fun h => by have := h.1; omega);have G : (r.setCell ⟨w.heap.size + 1 + 1, 0, none⟩ (.slice f c.1.length i)).heap.size = r.heap.size := by simp
 clear m j E B M N O S C L Z T;generalize r.setCell ⟨w.heap.size + 1 + 1, 0, none⟩ (.slice f c.1.length i) = w2 at F l q s G ⊢;refine (zCn _ c.2 _ _ (R.out _ F) z.out).mono ?_;rintro e D ⟨v, rfl, d⟩;obtain ⟨n, p, rfl⟩ := zBx d.1;have V := d.2.size;have X := zAa F d.2;have I : Hid (zFW.own D (rng W0.heap.size r.heap.size) [.slice f c.1.length i] c.1) := zAS s d.2 (by omega);have J : Hid (zA0.own D (rng w2.heap.size D.heap.size) [.slice n c.2.length p] c.2) := d.1;replace l := zAb d.2 l;replace q := zAb d.2 q;obtain ⟨O, S⟩ := zBE q;obtain ⟨M, N⟩ := zES q;obtain ⟨z0, z1⟩ := zBE l;obtain ⟨g0, g1⟩ := zES l;have E : Hid _ := And.intro l q;clear l q d R z s F;go_wp2;obtain ⟨l, q⟩ := E.out;have Y := put2 (a := .slice f c.1.length i) (b := .slice n c.2.length p) (zAp (g := w.heap.size + 1 + 1) (o := 1) (v := .slice n c.2.length p) l (by omega));obtain ⟨U, r1⟩ := zBE Y;refine bodyPost_ret (v := .agg #[.slice f c.1.length i, .slice n c.2.length p]) (by simp [results, Tryz.results114, go_sem, U, r1]) rfl ⟨f, i, n, p, rfl, zJa (S1 := rng W0.heap.size r.heap.size) (S2 := rng w2.heap.size D.heap.size) ?_ ?_ (zAZ (by omega) (by simp; omega)) (zAZ (by omega) (by simp)) (zBk (.inl (by omega))), ?_⟩
 ·exact zAc (zAc (zAc I.out (fun h => by have := h.1; omega)) (fun h => by have := h.1; omega)) (fun h => by have := h.1; omega)
 ·exact zAc (zAc (zAc J.out (fun h => by have := h.1; omega)) (fun h => by have := h.1; omega)) (fun h => by have := h.1; omega)
 ·exact zAi (zAi (zAi X (by omega)) (by omega)) (by omega)
theorem zJb (l s : Int) (d : List Int) (a1 a2 : Option Addr) (c1 c2 : Nat) (w : World) (h1 : zA4 zAG w a1 d) (h2 : zA4 zAG w a2 d) (hm : zAs.bk d ≤ 1152921504606846976) :
    Calls Tryz.prog 136 #[.agg #[.int .i64 l, .int .i64 s, .slice a1 d.length c1], .agg #[.int .i64 l, .int .i64 s, .slice a2 d.length c2]] w fun e b => e = .returned (.bool true) ∧ Below w.heap.size w b := by
 have a : Hid (∀ o o', Below w.heap.size w ((w.alloc o).alloc o')) := fun o o' => zAa (zAf w o) (zAf _ o');have f : Hid (∀ W, Below w.heap.size w W → zA4 zAG W a1 d) := fun W hb => zAq h1 fun k hk => hb.block k hk;have c : Hid (∀ W, Below w.heap.size w W → zA4 zAG W a2 d) := fun W hb => zAq h2 fun k hk => hb.block k hk;clear h1 h2;go_enter Tryz.func136, Tryz.ntmps136;go_wp2_with fail
 refine (zCo a1 a2 d c1 c2 _ (f.out _ (a.out _ _)) (c.out _ (a.out _ _)) hm).mono ?_;rintro e b ⟨rfl, n, rfl⟩;go_wp2;go_ret
 exact ⟨rfl, zCG (a.out _ _) n⟩
theorem zMf (a1 a2 : Option Addr) (xs : List (Int × Int × List Int)) (c1 c2 : Nat) (w : World) (h1 : zA4 zBu w a1 xs) (h2 : zA4 zBu w a2 xs) (hm : (slM zCz).bk xs ≤ 1152921504606846976) :
    Calls Tryz.prog 238 #[.slice a1 xs.length c1, .slice a2 xs.length c2] w fun e w' => e = .returned (.bool true) ∧ Below w.heap.size w w' := by
 have O : (slM zCz).bk xs = xs.length + zA6 zCz xs := rfl;have X : xs.length ≤ 1152921504606846976 := by omega
 have HB : Hid (zA6 zCz xs ≤ 1152921504606846976) := by unfold Hid; omega
 have U : Hid (∀ W, Below w.heap.size w W → zA4 zBu W a1 xs) := fun W hb => zAq h1 fun k K => hb.block k K;have V : Hid (∀ W, Below w.heap.size w W → zA4 zBu W a2 xs) := fun W hb => zAq h2 fun k K => hb.block k K;clear O hm h1 h2;go_enter Tryz.func238, Tryz.ntmps238;go_wp2;go_loopw [5] (fun i wr => ∃ k : Nat, k ≤ xs.length ∧ i = .int .i64 k ∧ Below w.heap.size w wr) (fun i _ => xs.length - (intOf i).toNat)
 case atStart => exact ⟨0, Nat.zero_le _, rfl, Below.refl _ _⟩
 case round =>
  obtain ⟨k, K, rfl, s⟩ := hrel;by_cases M : k < xs.length
  ·have T : (k : Int) < (xs.length : Int) := by omega
   obtain ⟨x, J⟩ : ∃ x, xs[k]? = some x := ⟨_, List.getElem?_eq_getElem M⟩;have Z : Hid ((zCz).bk x ≤ 1152921504606846976) := by unfold Hid; have := zBX zCz xs J; have := HB.out; omega
   obtain ⟨L, a, Y, rfl, p, d⟩ := zAy (U.out _ s) J;obtain ⟨y, G, rfl, -, -, -, -, z⟩ := zBz p;have g := d 0 _ rfl;have o := d 1 _ rfl;have j := d 2 _ rfl;rw [show a + (k * zBu.size + 0) = a + k * 3 from rfl] at g;rw [show a + (k * zBu.size + 1) = a + k * 3 + 1 from rfl] at o;rw [show a + (k * zBu.size + 2) = a + k * 3 + 2 from rfl] at j;have N : Hid (∀ n : Cls (fun wx => Below wr.heap.size wr wx), zA4 zAG n.w y x.2.2) := fun n => zAm z n.h;clear d p z;obtain ⟨r, b, bA, rfl, q, c⟩ := zAy (V.out _ s) J;obtain ⟨E, C, rfl, -, -, -, -, v⟩ := zBz q;have f := c 0 _ rfl;have m := c 1 _ rfl;have l := c 2 _ rfl;rw [show b + (k * zBu.size + 0) = b + k * 3 from rfl] at f;rw [show b + (k * zBu.size + 1) = b + k * 3 + 1 from rfl] at m;rw [show b + (k * zBu.size + 2) = b + k * 3 + 2 from rfl] at l;have R : Hid (∀ n : Cls (fun wx => Below wr.heap.size wr wx), zA4 zAG n.w E x.2.2) := fun n => zAm v n.h;clear c q v;have I : ∀ n : Cls (fun wx => Below wr.heap.size wr wx), n.w.cell? ⟨L, a + k * 3, none⟩ = some (.int .i64 x.1) := fun n => zEi n.h g (zFI g);have F : ∀ n : Cls (fun wx => Below wr.heap.size wr wx), n.w.cell? ⟨L, a + k * 3 + 1, none⟩ = some (.int .i64 x.2.1) := fun n => zEi n.h o (zFI o);have B : ∀ n : Cls (fun wx => Below wr.heap.size wr wx), n.w.cell? ⟨L, a + k * 3 + 2, none⟩ = some (.slice y x.2.2.length G) := fun n => zEi n.h j (zFI j);have A : ∀ n : Cls (fun wx => Below wr.heap.size wr wx), n.w.cell? ⟨r, b + k * 3, none⟩ = some (.int .i64 x.1) := fun n => zEi n.h f (zFI f);have H : ∀ n : Cls (fun wx => Below wr.heap.size wr wx), n.w.cell? ⟨r, b + k * 3 + 1, none⟩ = some (.int .i64 x.2.1) := fun n => zEi n.h m (zFI m);have D : ∀ n : Cls (fun wx => Below wr.heap.size wr wx), n.w.cell? ⟨r, b + k * 3 + 2, none⟩ = some (.slice E x.2.2.length C) := fun n => zEi n.h l (zFI l);clear J g o j f m l;go_wp2_with fail
   refine zAz (fun wx => Below wr.heap.size wr wx) (by kernel_rfl) (by kernel_rfl) ((Below.refl _ wr).drew) ?_;intro S;repeat (quiet_step ((go_at_call 136; exact zAj (zJb x.1 x.2.1 x.2.2 _ _ _ _ _ (N.out _) (R.out _) (by have := Z.out; rw [bk_way] at this; exact this)) (fun w' hc bb => zAa hc bb))))
   refine wpQuiet_nil ?_;intro wx r;replace s := zAa s r;clear r S I F B A H D;go_wp2;go_roundw
   case rel => exact ⟨k + 1, by omega, by go_num, s⟩
   case measure => simp [intOf]; omega
  ·go_wp2;go_ret
   exact ⟨rfl, s⟩
theorem zKl (a1 a2 : Option Addr) (xs : List (List (Int × Int × List Int))) (c1 c2 : Nat) (w : World) (h1 : zA4 zBh w a1 xs) (h2 : zA4 zBh w a2 xs) (hm : (slM zB6).bk xs ≤ 1152921504606846976) :
    Calls Tryz.prog 198 #[.slice a1 xs.length c1, .slice a2 xs.length c2] w fun e w' => e = .returned (.bool true) ∧ Below w.heap.size w w' := by
 have D : (slM zB6).bk xs = xs.length + zA6 zB6 xs := rfl;have K : xs.length ≤ 1152921504606846976 := by omega
 have N : Hid (zA6 zB6 xs ≤ 1152921504606846976) := by unfold Hid; omega
 have H : Hid (∀ W, Below w.heap.size w W → zA4 zBh W a1 xs) := fun W hb => zAq h1 fun k y => hb.block k y;have J : Hid (∀ W, Below w.heap.size w W → zA4 zBh W a2 xs) := fun W hb => zAq h2 fun k y => hb.block k y;clear D hm h1 h2;go_enter Tryz.func198, Tryz.ntmps198;go_wp2;go_loopw [5] (fun i wr => ∃ k : Nat, k ≤ xs.length ∧ i = .int .i64 k ∧ Below w.heap.size w wr) (fun i _ => xs.length - (intOf i).toNat)
 case atStart => exact ⟨0, Nat.zero_le _, rfl, Below.refl _ _⟩
 case round =>
  obtain ⟨k, y, rfl, f⟩ := hrel;by_cases A : k < xs.length
  ·have G : (k : Int) < (xs.length : Int) := by omega
   obtain ⟨x, v⟩ : ∃ x, xs[k]? = some x := ⟨_, List.getElem?_eq_getElem A⟩;have M : Hid ((zB6).bk x ≤ 1152921504606846976) := by unfold Hid; have := zBX zB6 xs v; have := N.out; omega
   obtain ⟨I, o, L, rfl, ⟨p, B, rfl, -, -, l⟩, b⟩ := zAy (H.out _ f) v;have d := b 0 _ rfl;rw [show k * zBh.size + 0 = k from Nat.mul_one k] at d;have C : Hid (∀ n : Cls (fun wx => Below wr.heap.size wr wx), zA4 zBu n.w p x) := fun n => zAm l n.h;clear b l;obtain ⟨s, q, O, rfl, ⟨j, z, rfl, -, -, g⟩, a⟩ := zAy (J.out _ f) v;have c := a 0 _ rfl;rw [show k * zBh.size + 0 = k from Nat.mul_one k] at c;have E : Hid (∀ n : Cls (fun wx => Below wr.heap.size wr wx), zA4 zBu n.w j x) := fun n => zAm g n.h;clear a g;have r : ∀ n : Cls (fun wx => Below wr.heap.size wr wx), n.w.cell? ⟨I, o + k, none⟩ = some (.slice p x.length B) := fun n => zEi n.h d (zFI d);have m : ∀ n : Cls (fun wx => Below wr.heap.size wr wx), n.w.cell? ⟨s, q + k, none⟩ = some (.slice j x.length z) := fun n => zEi n.h c (zFI c);clear v d c;go_wp2_with fail
   refine zAz (fun wx => Below wr.heap.size wr wx) (by kernel_rfl) (by kernel_rfl) ((Below.refl _ wr).drew) ?_;intro F;repeat (quiet_step ((go_at_call 238; exact zAj (zMf _ _ x _ _ _ (C.out _) (E.out _) M.out) (fun w' hc bb => zAa hc bb))))
   refine wpQuiet_nil ?_;intro wx s;replace f := zAa f s;clear s F r m;go_wp2;go_roundw
   case rel => exact ⟨k + 1, by omega, by go_num, f⟩
   case measure => simp [intOf]; omega
  ·go_wp2;go_ret
   exact ⟨rfl, f⟩
theorem zKm (c : List (List (Int × Int × List Int)) × List Int) (a1 b1 a2 b2 : Option Addr) (c1 d1 c2 d2 : Nat) (w : World) (h1 : zA4 zBh w a1 c.1) (k1 : zA4 zAG w b1 c.2) (h2 : zA4 zBh w a2 c.1) (k2 : zA4 zAG w b2 c.2) (hm : zCO.bk c ≤ 1152921504606846976) :
    Calls Tryz.prog 134 #[.agg #[.slice a1 c.1.length c1, .slice b1 c.2.length d1], .agg #[.slice a2 c.1.length c2, .slice b2 c.2.length d2]] w fun e w' => e = .returned (.bool true) ∧ Below w.heap.size w w' := by
 have l : zCO.bk c = zBy.bk c.1 + zAs.bk c.2 := rfl;have g : Hid (zBy.bk c.1 ≤ 1152921504606846976) := by unfold Hid; omega
 have j : Hid (zAs.bk c.2 ≤ 1152921504606846976) := by unfold Hid; omega
 have d : Hid (∀ W, Below w.heap.size w W → zA4 zBh W a1 c.1 ∧ zA4 zBh W a2 c.1 ∧ zA4 zAG W b1 c.2 ∧ zA4 zAG W b2 c.2) := fun W hb => ⟨zAq h1 fun k hk => hb.block k hk, zAq h2 fun k hk => hb.block k hk, zAq k1 fun k hk => hb.block k hk, zAq k2 fun k hk => hb.block k hk⟩;clear h1 h2 k1 k2 l hm;have i := zA3 (.cells #[.slice a2 c.1.length c2, .slice b2 c.2.length d2] 92) (zAn w (.cells #[.slice a1 c.1.length c1, .slice b1 c.2.length d1] 92));have f := zAn (w.alloc (.cells #[.slice a1 c.1.length c1, .slice b1 c.2.length d1] 92)) (.cells #[.slice a2 c.1.length c2, .slice b2 c.2.length d2] 92);have b := zAa (zAf w (.cells #[.slice a1 c.1.length c1, .slice b1 c.2.length d1] 92)) (zAf _ (.cells #[.slice a2 c.1.length c2, .slice b2 c.2.length d2] 92));rw [zAv] at f;go_enter Tryz.func134, Tryz.ntmps134;go_wp2_with fail
 generalize (w.alloc (.cells #[.slice a1 c.1.length c1, .slice b1 c.2.length d1] 92)).alloc (.cells #[.slice a2 c.1.length c2, .slice b2 c.2.length d2] 92) = W0 at i f b ⊢;refine (zKl a1 a2 c.1 c1 c2 _ (d.out _ b).1 (d.out _ b).2.1 g.out).mono ?_;rintro e w1 ⟨rfl, a⟩;replace b := zAa b a;obtain ⟨r, p⟩ := zBE (zAb a i);obtain ⟨q, o⟩ := zBE (zAb a f);clear a i f;go_wp2_with fail
 refine (zCo b1 b2 c.2 d1 d2 _ (d.out _ b).2.2.1 (d.out _ b).2.2.2 j.out).mono ?_;rintro e w2 ⟨rfl, n, rfl⟩;have m := zCG b n;clear r p q o;go_wp2;go_ret
 exact ⟨rfl, m⟩
end Go.Proofs.YtcocbafhcpdheaaGreatDoor
