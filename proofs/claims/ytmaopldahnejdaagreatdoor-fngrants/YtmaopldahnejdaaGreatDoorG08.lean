import Derived.Test.YtmaopldahnejdaaGreatDoorG00Box
import Derived.Test.YtmaopldahnejdaaGreatDoorG05
import Derived.Test.YtmaopldahnejdaaGreatDoorG07
namespace Go.Proofs.YtmaopldahnejdaaGreatDoor
set_option maxHeartbeats 4000000
set_option maxRecDepth 20000
open Go.ChangeShapes Go.WideShapes Go.ChangeAt Go.RowKit
set_option linter.unusedVariables false
def zAR (x : zA2) : Bool := zCa x.1 && (decide (x.2.length = x.1.length) && x.2.all zBR)
theorem zLa {x : zA2} (h : zC3.bk x ≤ 1048576) : x.1.length ≤ 1048576 ∧ x.2.length ≤ 1048576 := by
 have e : zC3.bk x = (x.1.length + zBI zDm x.1) + (x.2.length + zBI zK7 x.2) := rfl;omega
theorem zJ9 {w : World} {a : Option Addr} {xs : List zA7} {k : Nat} {x : zA7} (h : zBv zB6 w a xs) (hx : xs[k]? = some x) :
    ∃ b d f g, a = some ⟨b, d, none⟩ ∧ w.cell? ⟨b, d + k * 8, none⟩ = some (nI x.1) ∧ w.cell? ⟨b, d + k * 8 + 1, none⟩ = some (nI x.2.1) ∧ w.cell? ⟨b, d + k * 8 + 2, none⟩ = some (.bool x.2.2.1) ∧ w.cell? ⟨b, d + k * 8 + 3, none⟩ = some (nI x.2.2.2.1) ∧ w.cell? ⟨b, d + k * 8 + 4, none⟩ = some (nI x.2.2.2.2.1) ∧ w.cell? ⟨b, d + k * 8 + 5, none⟩ = some (nI x.2.2.2.2.2.1) ∧ w.cell? ⟨b, d + k * 8 + 6, none⟩ = some (nI x.2.2.2.2.2.2.1) ∧ w.cell? ⟨b, d + k * 8 + 7, none⟩ = some (sL f x.2.2.2.2.2.2.2.length g) ∧ zBv zBf w f x.2.2.2.2.2.2.2 := by
 obtain ⟨b, d, cs, rfl, i, c⟩ := zBH h hx;obtain ⟨f, g, rfl, -, -, -, -, -, -, -, -, j⟩ := zE0 i;exact ⟨b, d, f, g, rfl, c 0 _ rfl, c 1 _ rfl, c 2 _ rfl, c 3 _ rfl, c 4 _ rfl, c 5 _ rfl, c 6 _ rfl, c 7 _ rfl, j⟩
theorem zIP (x : zA7) (ad : Option Addr) (cp : Nat) (w : World) (h : zBv zBf w ad x.2.2.2.2.2.2.2) :
    Calls Tryz.prog 101 #[.agg #[nI x.1, nI x.2.1, .bool x.2.2.1, nI x.2.2.2.1, nI x.2.2.2.2.1, nI x.2.2.2.2.2.1, nI x.2.2.2.2.2.2.1, sL ad x.2.2.2.2.2.2.2.length cp]] w fun e w' => e = .returned (.bool (!zBR x)) ∧ Bl w w' := by
 have B := zAg w (.cells #[nI x.1, nI x.2.1, .bool x.2.2.1, nI x.2.2.2.1, nI x.2.2.2.2.1, nI x.2.2.2.2.2.1, nI x.2.2.2.2.2.2.1, sL ad x.2.2.2.2.2.2.2.length cp] 48);have a : Hid (∀ W, Bl w W → Calls Tryz.prog 102 #[.agg #[nI x.1, nI x.2.1, .bool x.2.2.1, nI x.2.2.2.1, nI x.2.2.2.2.1, nI x.2.2.2.2.2.1, nI x.2.2.2.2.2.2.1, sL ad x.2.2.2.2.2.2.2.length cp]] W fun e w' => e = .returned (.bool (zBR x)) ∧ Bl W w') := fun W hb => zCv x.1 x.2.1 x.2.2.2.1 x.2.2.2.2.1 x.2.2.2.2.2.1 x.2.2.2.2.2.2.1 x.2.2.1 x.2.2.2.2.2.2.2 ad cp W (zAt h hb);generalize zBR x = q at a ⊢;clear h;go_enter Tryz.func101, Tryz.ntmps101;go_wp2_with fail
 generalize w.alloc (.cells #[nI x.1, nI x.2.1, .bool x.2.2.1, nI x.2.2.2.1, nI x.2.2.2.2.1, nI x.2.2.2.2.2.1, nI x.2.2.2.2.2.2.1, sL ad x.2.2.2.2.2.2.2.length cp] 48) = W0 at B ⊢;refine (a.out _ B).mono ?_;rintro e w1 ⟨rfl, b⟩;go_wp2;go_ret
 exact ⟨rfl, zAa B b⟩
theorem zHx (a : Option Addr) (xs : List zA7) (cap : Nat) (w : World) (h : zBv zB6 w a xs) (hm : xs.length ≤ maxLen) :
    Calls Tryz.prog 129 #[sL a xs.length cap, .func (.func 101) #[] #[]] w fun e w' => e = .returned (nI (badP zBR xs)) ∧ Bl w w' := by
 have K : xs.length ≤ 9223372036854775807 := hm;have M : Hid (∀ W, Bl w W → zBv zB6 W a xs) := fun W f => zCQ h fun k F => f.block k F;clear h hm;go_enter Tryz.func129, Tryz.ntmps129;go_wp2;go_loopw [8] (fun i wr => ∃ k : Nat, k ≤ xs.length ∧ i = nI k ∧ (∀ j v, j < k → xs[j]? = some v → zBR v = true) ∧ Bl w wr) (fun i _ => xs.length - (intOf i).toNat)
 case atStart => exact ⟨0, Nat.zero_le _, rfl, fun j v hj => by omega, Below.refl _ _⟩
 case round =>
  obtain ⟨k, F, rfl, d, c⟩ := hrel;by_cases o : k < xs.length
  ·have A : (k : Int) < (xs.length : Int) := by omega
   obtain ⟨x, n⟩ : ∃ x, xs[k]? = some x := ⟨_, List.getElem?_eq_getElem o⟩;obtain ⟨b, H, L, I, rfl, B, z, r, E, D, p, y, s, C⟩ := zJ9 (M.out _ c) n;have l := zIP x L I wr C;clear C;have q : Hid (xs[k]? = some x) := n;clear n;cases f : zBR x
   ·have m : Hid (badP zBR xs = k) := badP_at q.out f d;rw [f] at l;go_wp2_with fail
    refine l.mono ?_;rintro e G ⟨rfl, g⟩;replace c := zAa c g;clear g B z r E D p y s;go_wp2;go_ret
    exact ⟨zD7 m.out.symm, c⟩
   ·rw [f] at l;go_wp2_with fail
    refine l.mono ?_;rintro e G ⟨rfl, g⟩;replace c := zAa c g;clear g B z r E D p y s;go_wp2;go_roundw
    case rel =>
     refine ⟨k + 1, by omega, by go_num, fun j v hj hv => ?_, c⟩;by_cases J : j < k
     ·exact d j v J hv
     ·have : j = k := by omega
      subst this;rw [q.out] at hv;cases hv;exact f
    case measure => simp [intOf]; omega
  ·have m : Hid (badP zBR xs = -1) := zKR fun j v hv => d j v (by have := (List.getElem?_eq_some_iff.1 hv).1; omega) hv;go_wp2;go_ret
   exact ⟨zD7 m.out.symm, c⟩
theorem zF9 (a : Option Addr) (xs : List zA7) (cap : Nat) (w : World) (h : zBv zB6 w a xs) (hm : xs.length ≤ maxLen) :
    Calls Tryz.prog 100 #[sL a xs.length cap, .func (.func 101) #[] #[]] w fun e w' => e = .returned (.bool (!xs.all zBR)) ∧ Bl w w' := by
 have d := zHx a xs cap w h hm;have b := badP_all zBR xs;clear h hm;generalize badP zBR xs = q at d b;generalize xs.all zBR = y at b ⊢;subst b;by_cases g : q < 0
 ·have f : ¬ (0 ≤ q) := by omega
  go_enter Tryz.func100, Tryz.ntmps100;go_wp2_with fail
  refine d.mono ?_;rintro e i ⟨rfl, c⟩;go_wp2;go_ret
  exact ⟨by simp [g], c⟩
 ·have f : 0 ≤ q := by omega
  go_enter Tryz.func100, Tryz.ntmps100;go_wp2_with fail
  refine d.mono ?_;rintro e i ⟨rfl, c⟩;go_wp2;go_ret
  exact ⟨by simp [g], c⟩
theorem zG4 (a : Option Addr) (xs : List zA7) (cap : Nat) (w : World) (h : zBv zB6 w a xs) (hm : xs.length ≤ maxLen) :
    Calls Tryz.prog 53 #[sL a xs.length cap] w fun e w' => e = .returned (.bool (xs.all zBR)) ∧ Bl w w' := by
 have b := zF9 a xs cap w h hm;generalize xs.all zBR = y at b ⊢;clear h hm;go_enter Tryz.func53, Tryz.ntmps53;go_wp2_with fail
 refine b.mono ?_;rintro e w1 ⟨rfl, c⟩;go_wp2;go_ret
 exact ⟨by simp, c⟩
theorem zEO (cs : List Value) (x : zA2) (w : World) (h : zAz.rd w cs x) :
    Calls Tryz.prog 15 #[zBw cs] w fun e w' => e = .returned (.bool (zAR x)) ∧ Bl w w' := by
 obtain ⟨v0, v1, rfl, ⟨f, a, A, j, l, y⟩, ⟨b, c, z, k, i, v⟩⟩ := zBW h;simp only [List.cons.injEq, and_true] at A z;obtain rfl := A;obtain rfl := z;clear h;change Calls Tryz.prog 15 #[.agg #[sL f x.1.length a, sL b x.2.length c]] w _
 have o : Hid (∀ W, Bl w W → Calls Tryz.prog 52 #[sL f x.1.length a] W fun e w' => e = .returned (.bool (zCa x.1)) ∧ Bl W w') := fun W hb => zF6 f x.1 a W (zDq (zAt y hb)) (Nat.le_trans j l);have s : Hid (∀ W, Bl w W → Calls Tryz.prog 53 #[sL b x.2.length c] W fun e w' => e = .returned (.bool (x.2.all zBR)) ∧ Bl W w') := fun W hb => zG4 b x.2 c W (zAt v hb) (Nat.le_trans k i);have C : x.1.length ≤ 9223372036854775807 := Nat.le_trans j l;have E : x.2.length ≤ 9223372036854775807 := Nat.le_trans k i;clear y v j l k i;have X := zAw w (.cells #[sL f x.1.length a, sL b x.2.length c] 27);have B := zAg w (.cells #[sL f x.1.length a, sL b x.2.length c] 27);unfold zAR;generalize zCa x.1 = q at o ⊢;generalize x.2.all zBR = r at s ⊢;generalize x.1.length = n at *;generalize x.2.length = m at *;go_enter Tryz.func15, Tryz.ntmps15;go_wp2_with fail
 generalize w.alloc (.cells #[sL f n a, sL b m c] 27) = W0 at X B ⊢;refine (o.out _ B).mono ?_;rintro e w1 ⟨rfl, d⟩;replace X := zAb d X;replace B := zAa B d;clear d;obtain ⟨F, D⟩ := zAd X;cases q
 ·clear X;go_wp2;go_ret
  exact ⟨rfl, B⟩
 ·by_cases p : m = n
  ·subst p;have g : ((m : Int) == (m : Int)) = true := by simp
   go_wp2_with fail
   refine (s.out _ B).mono ?_;rintro e w2 ⟨rfl, d⟩;replace B := zAa B d;clear d X F D;go_wp2;go_ret
   exact ⟨by simp, B⟩
  ·have g : ((m : Int) == (n : Int)) = false := by simp; omega
   clear X;go_wp2;go_ret
   exact ⟨by simp [p], B⟩
theorem zEP (cs : List Value) (x : zA2) (w : World) (h : zAz.rd w cs x) (I : zC3.bk x ≤ 1048576) :
    Calls Tryz.prog 16 #[zBw cs] w fun e w' => e = .returned (.bool (zAR x)) ∧ Bl w w' := by
 obtain ⟨v0, v1, rfl, ⟨f, d, e0, l1, l2, q0⟩, ⟨g, s, H, m1, m2, q1⟩⟩ := zBW h;simp only [List.cons.injEq, and_true] at e0 H;obtain rfl := e0;obtain rfl := H;clear h;obtain ⟨J, yA⟩ := zLa I;change Calls Tryz.prog 16 #[.agg #[sL f x.1.length d, sL g x.2.length s]] w _
 have p : Hid (∀ W, Bl w W → Calls Tryz.prog 54 #[sL f x.1.length d] W fun e w' => e = .returned (.bool (zCa x.1)) ∧ Bl W w') := fun W o => (zF8 f x.1 d W (zDq (zAt q0 o)) (by omega)).mono fun e w' ⟨q, r⟩ => ⟨q, be_eq r⟩;have V : Hid (∀ W, Bl w W → zBv zB6 W g x.2) := fun W o => zAt q1 o;clear q0 q1 l1 l2 m1 m2 I;have X := zAw w (.cells #[sL f x.1.length d, sL g x.2.length s] 27);have B := zAg w (.cells #[sL f x.1.length d, sL g x.2.length s] 27);have S : Hid (zCa x.1 = false → zAR x = false) := fun e => by unfold zAR; rw [e]; rfl
 have M : Hid (¬ x.2.length = x.1.length → zAR x = false) := fun e => by unfold zAR; simp [e]
 have HB : Hid (∀ j u, x.2[j]? = some u → zBR u = false → zAR x = false) := fun j u hu e => by
  have : x.2.all zBR = false := by
   cases T : x.2.all zBR
   ·rfl
   ·rw [List.all_eq_true] at T;rw [T u (List.mem_of_getElem? hu)] at e;cases e
  unfold zAR;simp [this]
 have R : Hid (zCa x.1 = true → x.2.length = x.1.length → (∀ j u, x.2[j]? = some u → zBR u = true) → zAR x = true) := fun H e2 e3 => by
  have : x.2.all zBR = true := List.all_eq_true.2 fun u hu => by
   obtain ⟨j, O⟩ := List.getElem?_of_mem hu;exact e3 j u O
  unfold zAR;simp [H, e2, this]
 cases a : zCa x.1
 ·rw [S.out a];rw [a] at p;generalize x.1.length = n at *;generalize x.2.length = m at *;go_enter Tryz.func16, Tryz.ntmps16;go_wp2_with fail
  generalize w.alloc (.cells #[sL f n d, sL g m s] 27) = W0 at X B ⊢;refine (p.out _ B).mono ?_;rintro e w1 ⟨rfl, c⟩;replace B := zAa B c;clear c X;go_wp2;go_ret
  exact ⟨rfl, B⟩
 by_cases z : x.2.length = x.1.length
 ·rw [a] at p;have K : Hid ((∀ j u, x.2[j]? = some u → zBR u = true) → zAR x = true) := R.out a z;rw [← z] at p X B ⊢;clear R S M a J z;go_enter Tryz.func16, Tryz.ntmps16;go_wp2_with fail
  generalize w.alloc (.cells #[sL f x.2.length d, sL g x.2.length s] 27) = W0 at X B ⊢;refine (p.out _ B).mono ?_;rintro e w1 ⟨rfl, c⟩;replace X := zAb c X;replace B := zAa B c;clear c;obtain ⟨E, D⟩ := zAd X;go_wp2;clear E D;go_loopw [3] (fun i wr => ∃ k : Nat, k ≤ x.2.length ∧ i = nI k ∧ (∀ j v, j < k → x.2[j]? = some v → zBR v = true) ∧ Bl w wr ∧ wr.heap[w.heap.size]? = some (.cells #[sL f x.2.length d, sL g x.2.length s] 27 (0, 0))) (fun i _ => x.2.length - (intOf i).toNat)
  case atStart => exact ⟨0, Nat.zero_le _, rfl, fun j v O => by omega, B, X⟩
  case round =>
   obtain ⟨k, I, rfl, F, l, C⟩ := hrel;obtain ⟨E, D⟩ := zAd C;by_cases N : k < x.2.length
   ·have jA : (k : Int) < (x.2.length : Int) := by omega
    obtain ⟨y, L⟩ : ∃ y, x.2[k]? = some y := ⟨_, List.getElem?_eq_getElem N⟩;obtain ⟨b, rA, ad, cp, rfl, z0, z1, z2, z3, z4, Z, Y, z7, hd⟩ := zJ9 (V.out _ l) L;have G := zFX y.1 y.2.1 y.2.2.2.1 y.2.2.2.2.1 y.2.2.2.2.2.1 y.2.2.2.2.2.2.1 y.2.2.1 y.2.2.2.2.2.2.2 ad cp wr hd;rw [show zBR (y.1, y.2.1, y.2.2.1, y.2.2.2.1, y.2.2.2.2.1, y.2.2.2.2.2.1, y.2.2.2.2.2.2.1, y.2.2.2.2.2.2.2) = zBR y from rfl] at G;have U : Hid (x.2[k]? = some y) := L;clear L hd;cases o : zBR y
    ·rw [o] at G;go_wp2_with fail
     refine G.mono ?_;rintro e w2 ⟨rfl, A⟩;replace l := zAa l A;clear A z0 z1 z2 z3 z4 Z Y z7 E D C X B;go_wp2;go_ret
     exact ⟨zAJ (HB.out k y U.out o).symm, l⟩
    ·rw [o] at G;go_wp2_with fail
     refine G.mono ?_;rintro e w2 ⟨rfl, A⟩;replace l := zAa l A;replace C := zAb A C;clear A z0 z1 z2 z3 z4 Z Y z7 E D X B;go_wp2;go_roundw
     case rel =>
      refine ⟨k + 1, by omega, by go_num, fun j v O hv => ?_, l, C⟩;by_cases z : j < k
      ·exact F j v z hv
      ·have : j = k := by omega
       subst this;rw [U.out] at hv;cases hv;exact o
     case measure => simp [intOf]; omega
   ·have HR : Hid (zAR x = true) := K.out fun j v hv => F j v (by have := (List.getElem?_eq_some_iff.1 hv).1; omega) hv;go_wp2;go_ret
    exact ⟨zAJ HR.out.symm, l⟩
 ·rw [M.out z];rw [a] at p;have vA : ¬ ((x.2.length : Int) = (x.1.length : Int)) := by omega
  have qA : ((x.2.length : Int) != (x.1.length : Int)) = true := by simp; omega
  clear R S M HB V a z;generalize x.1.length = n at *;generalize x.2.length = m at *;go_enter Tryz.func16, Tryz.ntmps16;go_wp2_with fail
  generalize w.alloc (.cells #[sL f n d, sL g m s] 27) = W0 at X B ⊢;refine (p.out _ B).mono ?_;rintro e w1 ⟨rfl, c⟩;replace X := zAb c X;replace B := zAa B c;clear c;obtain ⟨E, D⟩ := zAd X;clear X;go_wp2;go_ret
  exact ⟨rfl, B⟩
theorem Tryz.infoI64 : (Tryz.prog.info? 2).map (fun i => (i.zero, i.size, i.bytes)) = some (some (nI 0), 1, 8) := by kernel_rfl
def zD9 (s : Int) : Nat → List Int
 | 0 => []
 | k + 1 => if inB s k then zD9 s k ++ [(k : Int)] else zD9 s k
theorem zHy (s : Int) : ∀ k, (zD9 s k).length ≤ k
 | 0 => Nat.le_refl _
 | k + 1 => by
  have := zHy s k;unfold zD9;split
  ·simp; omega
  ·omega
theorem mems_hit {s : Int} {k : Nat} (h : inB s k = true) : zD9 s (k + 1) = zD9 s k ++ [(k : Int)] := by simp [zD9, h]
theorem zLb {s : Int} {k : Nat} (h : inB s k = false) : zD9 s (k + 1) = zD9 s k := by simp [zD9, h]
theorem mem_keep {B k : Nat} {s : Int} {w wr w1 : World} {v v' : Value} {o : Obj} (hin : inB s k = true) (hB : B ≤ wr.heap.size)
    (hown : wr.ownsRow B 2 1 v (zD9 s k).length ((zD9 s k).map (Value.int .i64))) (hnx : Below B w wr)
    (hown' : w1.ownsRow B 2 1 v' ((zD9 s k).length + 1) ((zD9 s k).map (Value.int .i64) ++ [nI (k : Int)])) (hgrow : (wr.alloc o).grownBy w1 v.ownBlock) :
    w1.ownsRow B 2 1 v' (zD9 s (k + 1)).length ((zD9 s (k + 1)).map (Value.int .i64)) ∧ Below B w w1 := by
 refine ⟨by rw [mems_hit hin]; simpa using hown', (hnx.alloc hB o).grown hgrow (by simp; omega) (fun j hj => (hown.lt j hj).1)⟩
theorem zDs {w : World} {B : Nat} {e : TypeId} {v : Value} {n : Nat} {xs : List Value} (h : w.ownsRow B e 1 v n xs) (hv : v ≠ sL none 0 0) :
    ∃ g a, v = sL (some ⟨g, 0, none⟩) n a ∧ B ≤ g ∧ g < w.heap.size ∧ n ≤ a ∧ a ≤ maxLen := by
 rcases h.2 with ⟨rfl, _⟩ | ⟨g, a, i, rfl, c, d, f, b, _⟩
 ·exact absurd rfl hv
 ·exact ⟨g, a, rfl, c, (ltH d), f, b⟩
theorem zCw (s : Int) (w : World) :
    Calls Tryz.prog 82 #[nI s] w fun e n => ∃ g f, e = .returned (sL (some ⟨g, 0, none⟩) (zD9 s 8).length f) ∧ w.heap.size ≤ g ∧ g < n.heap.size ∧
     n.ownsRow w.heap.size 2 1 (sL (some ⟨g, 0, none⟩) (zD9 s 8).length f) (zD9 s 8).length ((zD9 s 8).map (Value.int .i64)) ∧ Bl w n := by
 obtain ⟨I, F, A, z, p⟩ := info_parts Tryz.infoI64;go_enter Tryz.func82, Tryz.ntmps82;go_wp2;go_loopw [3, 4] (fun v i wr => ∃ k : Nat, k ≤ 8 ∧ i = nI k ∧ v ≠ sL none 0 0 ∧ wr.ownsRow w.heap.size 2 1 v (zD9 s k).length ((zD9 s k).map (Value.int .i64)) ∧ Bl w wr)
  (fun _ i _ => 8 - (intOf i).toNat)
 case atStart => exact ⟨0, by omega, rfl, by simp, World.ownsRow_lit _ #[] 0 (Nat.le_refl _) (Nat.zero_le _) rfl, (Below.refl _ _).alloc (Nat.le_refl _) _⟩
 case round =>
  obtain ⟨k, hk, rfl, E, a, d⟩ := hrel;have J := zHy s k;have B := d.size;by_cases K : k < 8
  ·cases m : inB s k
   ·have H : Hid (zD9 s (k + 1) = zD9 s k) := zLb m;go_wp2_with (go_at_call 111; refine (zGG _ _ _).mono ?_; rintro e n ⟨rfl, rfl⟩)
    go_roundw
    case rel => exact ⟨k + 1, by omega, by go_num, E, by rw [H.out]; exact a, d⟩
    case measure => simp [intOf]; omega
   ·go_wp2_with (first
      | (go_at_call 111; refine (zGG _ _ _).mono ?_; rintro e n ⟨rfl, rfl⟩)
      | (at_builtin; refine wpList_append_own _ rfl _ _ 28 rfl w.heap.size 2 I (.int .i64 0) 1 8 Tryz.underlying28 F A z p rfl (by decide) _ _ _ rfl (a.alloc _) ⟨_, 0, none⟩ 1 1 [.int .i64 (k : Int)] rfl rfl ?c1 ?c2 ?c3 ?c4 ?c5 ?_))
    case c1 =>
     intro j u o;match j, o with
     | 0, o => simp at o; subst o; simp [Addr.add]
    case c2 => intro u D; simp at D; subst D; rfl
    case c3 => unfold maxLen; omega
    case c4 => omega
    case c5 => simp; omega
    ·intro G w1 b c l;have R := mem_keep m B a d b c;have r : G ≠ sL none 0 0 := l;clear b c a l;go_wp2;go_roundw
     case rel => exact ⟨k + 1, by omega, by go_num, r, R.1, R.2⟩
     case measure => simp [intOf]; omega
  ·have C : k = 8 := by omega
   subst C;obtain ⟨g, f, rfl, q, y, _⟩ := zDs a E;go_wp2;go_ret
   exact ⟨g, f, rfl, q, y, a, d⟩
def orI (s i : Int) : Int := bits BinOp.or IntKind.i64 s (2 ^ i.toNat)
def zCZ (s i : Int) : Int := bits BinOp.andNot IntKind.i64 s (2 ^ i.toNat)
def zDX (s i : Int) : Int := if zKc s then (if zE5 i then orI s i else s) else -1
def zCj (s i : Int) : Int := if zKc s then (if zE5 i then zCZ s i else s) else -1
theorem with_in (s i : Int) (w : World) (h5 : 0 ≤ i) (h6 : i ≤ 7) :
    Calls Tryz.prog 177 #[nI s, nI i] w fun e a => e = .returned (nI (orI s i)) ∧ a = w := by
 go_enter Tryz.func177, Tryz.ntmps177;go_wp2_with (go_at_call 158; refine (zFT _ _ h5 h6).mono ?_; rintro e a ⟨rfl, rfl⟩)
 go_ret
 exact ⟨rfl, rfl⟩
theorem zGQ (s i : Int) (w : World) (h5 : 0 ≤ i) (h6 : i ≤ 7) :
    Calls Tryz.prog 174 #[nI s, nI i] w fun e a => e = .returned (nI (zCZ s i)) ∧ a = w := by
 go_enter Tryz.func174, Tryz.ntmps174;go_wp2_with (go_at_call 158; refine (zFT _ _ h5 h6).mono ?_; rintro e a ⟨rfl, rfl⟩)
 go_ret
 exact ⟨rfl, rfl⟩
theorem zFz (s i : Int) (w : World) :
    Calls Tryz.prog 127 #[nI s, nI i] w fun e a => e = .returned (nI (zDX s i)) ∧ a = w := by
 cases b : zKc s
 ·have H : Hid (zDX s i = -1) := by unfold Hid; simp [zDX, b]
  go_enter Tryz.func127, Tryz.ntmps127;go_wp2_with (go_at_call 136; refine (zCr _ _).mono ?_; rintro e a ⟨rfl, rfl⟩)
  go_ret
  exact ⟨zD7 H.out.symm, rfl⟩
 ·cases c : zE5 i
  ·have H : Hid (zDX s i = s) := by unfold Hid; simp [zDX, b, c]
   go_enter Tryz.func127, Tryz.ntmps127
   go_wp2_with (first
    | (go_at_call 136; refine (zCr _ _).mono ?_; rintro e a ⟨rfl, rfl⟩)
    | (go_at_call 137; refine (zDi _ _).mono ?_; rintro e a ⟨rfl, rfl⟩))
   go_ret
   exact ⟨zD7 H.out.symm, rfl⟩
  ·obtain ⟨d, f⟩ := zDP c;have H : Hid (zDX s i = orI s i) := by unfold Hid; simp [zDX, b, c]
   have P : Hid (wrap64 (2 ^ i.toNat) = 2 ^ i.toNat) := zFS i d f;go_enter Tryz.func127, Tryz.ntmps127
   go_wp2_with (first
    | (go_at_call 136; refine (zCr _ _).mono ?_; rintro e a ⟨rfl, rfl⟩)
    | (go_at_call 137; refine (zDi _ _).mono ?_; rintro e a ⟨rfl, rfl⟩))
   go_ret
   exact ⟨zD7 (by rw [H.out, P.out]; rfl), rfl⟩
theorem zEg (s i : Int) (w : World) :
    Calls Tryz.prog 125 #[nI s, nI i] w fun e a => e = .returned (nI (zCj s i)) ∧ a = w := by
 cases b : zKc s
 ·have H : Hid (zCj s i = -1) := by unfold Hid; simp [zCj, b]
  go_enter Tryz.func125, Tryz.ntmps125;go_wp2_with (go_at_call 136; refine (zCr _ _).mono ?_; rintro e a ⟨rfl, rfl⟩)
  go_ret
  exact ⟨zD7 H.out.symm, rfl⟩
 ·cases c : zE5 i
  ·have H : Hid (zCj s i = s) := by unfold Hid; simp [zCj, b, c]
   go_enter Tryz.func125, Tryz.ntmps125
   go_wp2_with (first
    | (go_at_call 136; refine (zCr _ _).mono ?_; rintro e a ⟨rfl, rfl⟩)
    | (go_at_call 137; refine (zDi _ _).mono ?_; rintro e a ⟨rfl, rfl⟩))
   go_ret
   exact ⟨zD7 H.out.symm, rfl⟩
  ·obtain ⟨d, f⟩ := zDP c;have H : Hid (zCj s i = zCZ s i) := by unfold Hid; simp [zCj, b, c]
   have P : Hid (wrap64 (2 ^ i.toNat) = 2 ^ i.toNat) := zFS i d f;go_enter Tryz.func125, Tryz.ntmps125
   go_wp2_with (first
    | (go_at_call 136; refine (zCr _ _).mono ?_; rintro e a ⟨rfl, rfl⟩)
    | (go_at_call 137; refine (zDi _ _).mono ?_; rintro e a ⟨rfl, rfl⟩))
   go_ret
   exact ⟨zD7 (by rw [H.out, P.out]; rfl), rfl⟩
def zEt (o c : Int) : Bool := zA6 c 0 3 && decide (c = o)
def zEH (o s c : Int) : Bool := zEt o c || inB s c
def zEA (o s : Int) : Nat → List Int
 | 0 => []
 | k + 1 => if zEH o s k then zEA o s k ++ [(k : Int)] else zEA o s k
theorem zLc (o s : Int) : ∀ k, (zEA o s k).length ≤ k
 | 0 => Nat.le_refl _
 | k + 1 => by
  have := zLc o s k;unfold zEA;split
  ·simp; omega
  ·omega
theorem holL_hit {o s : Int} {k : Nat} (h : zEH o s k = true) : zEA o s (k + 1) = zEA o s k ++ [(k : Int)] := by simp [zEA, h]
theorem zLd {o s : Int} {k : Nat} (h : zEH o s k = false) : zEA o s (k + 1) = zEA o s k := by simp [zEA, h]
def hoI (o s : Int) : List Int := if 0 ≤ o then [o] else zD9 s 8
theorem zLe : zD9 0 8 = [] := by decide +kernel
theorem zGa {o s : Int} (h : zAI o s = true) (ho : 0 ≤ o) : s = 0 := by
 simp [zAI] at h
 have := h.2.2;omega
theorem zIe (s : Int) : ∀ k, zEA (-1) s k = zD9 s k
 | 0 => rfl
 | k + 1 => by
  have e : zEH (-1) s k = inB s k := by
   unfold zEH zEt;rw [show decide ((k : Int) = -1) = false from decide_eq_false (by omega)];simp
  unfold zEA zD9;rw [e, zIe s k]
theorem holL_fin : ∀ o : Fin 4, zEA (o.val : Int) 0 8 = [(o.val : Int)] := by decide +kernel
theorem zLf {o s : Int} (h : zAI o s = true) : zEA o s 8 = hoI o s := by
 unfold hoI;by_cases a : 0 ≤ o
 ·rw [if_pos a, zGa h a];have b : o ≤ 3 := by simp [zAI, zA6] at h; omega
  have := holL_fin ⟨o.toNat, by omega⟩;simpa [Int.toNat_of_nonneg a] using this
 ·rw [if_neg a];have b : o = -1 := by simp [zAI, zA6] at h; omega
  rw [b];exact zIe s 8
def fgO (o c : Int) : Int := if zEt o c then -1 else o
def fgS (s c : Int) : Int := if inB s c then zCZ s c else s
theorem zAC {w : World} {g : Nat} {x0 x1 : Value} {t : TypeId} (h : w.heap[g]? = some (.cells #[x0, x1] t (0, 0))) :
    w.cell? ⟨g, 0, none⟩ = some x0 ∧ w.cell? ⟨g, 1, none⟩ = some x1 :=
 ⟨by rw [cell_of_row w g 0 _ t (0, 0) h]; rfl, by rw [cell_of_row w g 1 _ t (0, 0) h]; rfl⟩
theorem zEQ (o s c : Int) (w : World) :
    Calls Tryz.prog 134 #[.agg #[nI s, nI o], nI c] w fun e b => e = .returned (.bool (zEt o c)) ∧ Bl w b := by
 have f : Hid _ := zAg w;cases d : zA6 c 0 3
 ·have a : Hid (zEt o c = false) := by unfold Hid zEt; simp [d]
  rw [a.out];go_enter Tryz.func134, Tryz.ntmps134;go_wp2_with (go_at_call 145; refine (zBo _ _).mono ?_; rintro e b ⟨rfl, rfl⟩)
  go_ret
  exact ⟨rfl, f.out _⟩
 ·have a : Hid (zEt o c = (c == o)) := by unfold Hid zEt; rw [d]; by_cases e : c = o <;> simp [e]
  rw [a.out];generalize (c == o) = t at a ⊢;by_cases i : c = o
  ·subst i;have g : t = true := by rw [← a.out]; unfold zEt; simp [d]
   subst g;clear a;go_enter Tryz.func134, Tryz.ntmps134;go_wp2_with (go_at_call 145; refine (zBo _ _).mono ?_; rintro e b ⟨rfl, rfl⟩)
   go_ret
   exact ⟨rfl, f.out _⟩
  ·have j : (c == o) = false := beq_false_of_ne i;have g : t = false := by rw [← a.out]; unfold zEt; simp [i]
   subst g;clear a;go_enter Tryz.func134, Tryz.ntmps134;go_wp2_with (go_at_call 145; refine (zBo _ _).mono ?_; rintro e b ⟨rfl, rfl⟩)
   go_ret
   exact ⟨rfl, f.out _⟩
theorem zGb (o s c : Int) (w : World) :
    Calls Tryz.prog 106 #[.agg #[nI s, nI o], nI c] w fun e b => e = .returned (.bool (zEH o s c)) ∧ Bl w b := by
 have f : Hid (∀ W, Calls Tryz.prog 134 #[.agg #[nI s, nI o], nI c] W fun e b => e = .returned (.bool (zEt o c)) ∧ Bl W b) := fun W => zEQ o s c W;unfold zEH;generalize zEt o c = p at f ⊢;go_enter Tryz.func106, Tryz.ntmps106;go_wp2_with fail
 generalize a : w.alloc _ = W0;have X := boxH a;have B := boxB a;clear a;refine (f.out _).mono ?_;rintro e w1 ⟨rfl, d⟩;replace X := zAb d X;replace B := zAa B d;obtain ⟨x0, x1⟩ := zAC X;clear d f X;cases p
 ·go_wp2_with (go_at_call 135; refine (zFi _ _ _).mono ?_; rintro e b ⟨rfl, rfl⟩)
  go_ret
  exact ⟨rfl, B⟩
 ·go_wp2_with fail
  go_ret
  exact ⟨rfl, B⟩
theorem zGc (o s : Int) (w : World) :
    Calls Tryz.prog 104 #[.func (.func 106) #[.agg #[nI s, nI o]] #[]] w fun e D => ∃ v, e = .returned v ∧ zCH w D v (zEA o s 8) := by
 obtain ⟨U, S, H, G, E⟩ := info_parts Tryz.infoI64;go_enter Tryz.func104, Tryz.ntmps104;go_wp2;go_loopw [3, 4] (fun v i wr => ∃ k : Nat, k ≤ 8 ∧ i = nI k ∧ v ≠ sL none 0 0 ∧ wr.ownsRow w.heap.size 2 1 v (zEA o s k).length ((zEA o s k).map (Value.int .i64)) ∧ Bl w wr)
  (fun _ i _ => 8 - (intOf i).toNat)
 case atStart => exact ⟨0, by omega, rfl, by simp, World.ownsRow_lit _ #[] 0 (Nat.le_refl _) (Nat.zero_le _) rfl, (Below.refl _ _).alloc (Nat.le_refl _) _⟩
 case round =>
  obtain ⟨k, hk, rfl, C, a, c⟩ := hrel;have V := zLc o s k;have Z := c.size;by_cases aA : k < 8
  ·have J : Hid (∀ W, Calls Tryz.prog 106 #[.agg #[nI s, nI o], nI (k : Int)] W fun e D => e = .returned (.bool (zEH o s k)) ∧ Bl W D) := fun W => zGb o s k W;have M : Hid (∀ b, zEH o s k = b → if b then zEA o s (k + 1) = zEA o s k ++ [(k : Int)] else zEA o s (k + 1) = zEA o s k) := fun b e => by
    cases b
    ·exact zLd e
    ·exact holL_hit e
   obtain ⟨q, I⟩ : ∃ q, zEH o s k = q := ⟨_, rfl⟩;rw [I] at J;have B := M.out q I;clear M I;obtain ⟨g, cp, rfl, y, d, X, Y⟩ := zDs a C;cases q
   ·have n : Hid (zEA o s (k + 1) = zEA o s k) := B;clear B;go_wp2_with (go_at_call 106; refine (J.out _).mono ?_; rintro e D ⟨rfl, p⟩; replace a := zDD a p d; replace c := zAa c p; clear p)
    go_roundw
    case rel => exact ⟨k + 1, by omega, by go_num, C, by rw [n.out]; exact a, c⟩
    case measure => simp [intOf]; omega
   ·have n : Hid (zEA o s (k + 1) = zEA o s k ++ [(k : Int)]) := B;clear B;go_wp2_with fail
    refine (J.out _).mono ?_;rintro e w2 ⟨rfl, p⟩;replace a := zDD a p d;replace c := zAa c p;have z := c.size;clear p d;go_wp2_with (at_builtin; refine wpList_append_own _ rfl _ _ 28 rfl w.heap.size 2 U (nI 0) 1 8 Tryz.underlying28 S H G E rfl (by decide) _ _ _ rfl (a.alloc _) ⟨_, 0, none⟩ 1 1 [nI (k : Int)] rfl rfl ?c1 ?c2 ?c3 ?c4 ?c5 ?_)
    case c1 =>
     intro j u r;match j, r with
     | 0, r => simp at r; subst r; simp [Addr.add]
    case c2 => intro u O; simp at O; subst O; rfl
    case c3 => unfold maxLen; omega
    case c4 => omega
    case c5 => simp; omega
    ·intro L N f l m;have R : N.ownsRow w.heap.size 2 1 L (zEA o s (k + 1)).length ((zEA o s (k + 1)).map (Value.int .i64)) ∧ Bl w N :=
      ⟨by rw [n.out]; simpa using f, (c.alloc z _).grown l (by simp; omega) (fun j r => (a.lt j r).1)⟩
     have F : L ≠ sL none 0 0 := m;clear f l a m;go_wp2;go_roundw
     case rel => exact ⟨k + 1, by omega, by go_num, F, R.1, R.2⟩
     case measure => simp [intOf]; omega
  ·have K : k = 8 := by omega
   subst K;obtain ⟨g, A, rfl, y, d, _⟩ := zDs a C;have T : Hid (zCH w wr (sL (some ⟨g, 0, none⟩) (zEA o s 8).length A) (zEA o s 8)) := ⟨g, A, rfl, y, d, a, c⟩;clear a c C;go_wp2;go_ret
   exact ⟨_, rfl, T.out⟩
end Go.Proofs.YtmaopldahnejdaaGreatDoor
